package tests

import (
	"math"
	"math/rand"
	"strings"
	"testing"

	"loop.example/g00848/impl"
)

// someBytes is up to that many, of which many could be read as something.
func someBytes(r *rand.Rand, most int) string {
	out := make([]byte, r.Intn(most+1))
	for i := range out {
		out[i] = byte(r.Intn(256)) >> r.Intn(8)
	}
	return string(out)
}

// comesBack: promise 5, of one thing.
func comesBack(t *testing.T, r *rand.Rand, s impl.Shape, v impl.Val) {
	t.Helper()
	bytes := impl.Pack(s, v)
	what := written(s)
	if len(bytes) > impl.MaxBytes {
		sameUnpacked(t, what, impl.Unpack(s, bytes, 0), impl.Unpacked{Code: impl.ErrSize})
		sameValOut(t, what, impl.UnpackAll(s, bytes), impl.ValOut{Code: impl.ErrSize})
		return
	}
	sameValOut(t, what, impl.UnpackAll(s, bytes), impl.ValOut{Val: v})
	most := min(40, (impl.MaxBytes-len(bytes))/2)
	ahead, behind := someBytes(r, most), someBytes(r, most)
	for _, c := range []struct {
		where  string
		ahead  string
		behind string
	}{
		{"alone", "", ""},
		{"at the beginning", "", behind},
		{"at the end", ahead, ""},
		{"in the middle", ahead, behind},
	} {
		from := int64(len(c.ahead))
		end := from + int64(len(bytes))
		sameUnpacked(t, c.where+": "+what, impl.Unpack(s, c.ahead+bytes+c.behind, from), impl.Unpacked{Val: v, At: end})
	}
	if behind != "" {
		sameValOut(t, "something behind: "+what, impl.UnpackAll(s, bytes+behind), impl.ValOut{Code: impl.ErrSyntax})
	}
}

func TestPackedComesBack(t *testing.T) {
	r := rand.New(rand.NewSource(14))
	for range 3000 {
		s := someShape(r, 1+r.Intn(impl.MaxDeep))
		comesBack(t, r, s, someVal(r, s))
		comesBack(t, r, s, impl.Blank(s))
	}
	for _, s := range []impl.Shape{wide(impl.MaxDeep), sized(impl.MaxBytes), sized(13000), lists(4), rec(rec(rec(rec(rec()))))} {
		for range 5 {
			comesBack(t, r, s, someVal(r, s))
		}
	}
}

// TestPackedInARow: what stands one behind the other, each by its own shape, is read from place to place.
func TestPackedInARow(t *testing.T) {
	r := rand.New(rand.NewSource(15))
	for range 100 {
		shapes, vals, bytes := []impl.Shape{}, []impl.Val{}, ""
		for range 20 {
			s := someShape(r, 3)
			v := someVal(r, s)
			shapes, vals, bytes = append(shapes, s), append(vals, v), bytes+impl.Pack(s, v)
		}
		if len(bytes) > impl.MaxBytes {
			continue
		}
		at := int64(0)
		for i, s := range shapes {
			got := impl.Unpack(s, bytes, at)
			same(t, "Code", got.Code, impl.OK)
			sameVal(t, written(s), got.Val, vals[i])
			at = got.At
		}
		same(t, "the end of the row", at, int64(len(bytes)))
	}
}

// TestPackedCutOff: what ends ahead of its last byte is short, wherever it ends.
func TestPackedCutOff(t *testing.T) {
	r := rand.New(rand.NewSource(16))
	for range 300 {
		s := someShape(r, 1+r.Intn(impl.MaxDeep))
		bytes := impl.Pack(s, someVal(r, s))
		if len(bytes) > 300 {
			continue
		}
		for cut := range bytes {
			sameUnpacked(t, written(s), impl.Unpack(s, bytes[:cut], 0), impl.Unpacked{Code: impl.ErrShort})
			sameUnpacked(t, written(s), impl.Unpack(s, "\x00\x80"+bytes[:cut], 2), impl.Unpacked{Code: impl.ErrShort})
			sameValOut(t, written(s), impl.UnpackAll(s, bytes[:cut]), impl.ValOut{Code: impl.ErrShort})
		}
	}
}

func TestUnpackPlaces(t *testing.T) {
	full := times("\x00", impl.MaxBytes)
	none := impl.Unpacked{Code: impl.ErrForm}
	short := impl.Unpacked{Code: impl.ErrShort}
	size := impl.Unpacked{Code: impl.ErrSize}
	for _, c := range []struct {
		what  string
		shape impl.Shape
		bytes string
		at    int64
		want  impl.Unpacked
	}{
		{"below 0", num, "\x0a", -1, none},
		{"below 0, of none", num, "", -1, none},
		{"below 0, by a record of none", rec(), "", -1, none},
		{"the least place", num, "\x0a", math.MinInt64, none},
		{"-1 beyond 32 bits", num, "\x0a", -1 << 32, none},
		{"the beginning", num, "\x0a\x0c", 0, impl.Unpacked{Val: numVal(5), At: 1}},
		{"the last one", num, "\x0a\x0c", 1, impl.Unpacked{Val: numVal(6), At: 2}},
		{"the end", num, "\x0a\x0c", 2, short},
		{"the end, by a text", text, "\x0a\x0c", 2, short},
		{"the end, by a record of none", rec(), "\x0a\x0c", 2, impl.Unpacked{Val: recVal(), At: 2}},
		{"the end of none, by a record of none", rec(), "", 0, impl.Unpacked{Val: recVal()}},
		{"the beginning, by a record of none", rec(), "\xff", 0, impl.Unpacked{Val: recVal()}},
		{"the middle, by records of none", rec(rec(), rec()), "\xff\xff", 1, impl.Unpacked{Val: recVal(recVal(), recVal()), At: 1}},
		{"the end of none", num, "", 0, short},
		{"behind the end", num, "\x0a\x0c", 3, none},
		{"behind the end, by a record of none", rec(), "\x0a\x0c", 3, none},
		{"behind the end of none", rec(), "", 1, none},
		{"the greatest place", num, "\x0a", math.MaxInt64, none},
		{"beyond 32 bits", num, "\x0a", 1 << 32, none},
		{"from the middle of a number", flag, "\x80\x00", 1, impl.Unpacked{Val: flagVal(0), At: 2}},
		{"the first of MaxBytes", num, full, 0, impl.Unpacked{Val: numVal(0), At: 1}},
		{"the last of MaxBytes", num, full, impl.MaxBytes - 1, impl.Unpacked{Val: numVal(0), At: impl.MaxBytes}},
		{"behind MaxBytes", num, full, impl.MaxBytes, short},
		{"behind MaxBytes, by a record of none", rec(), full, impl.MaxBytes, impl.Unpacked{Val: recVal(), At: impl.MaxBytes}},
		{"one behind MaxBytes", rec(), full, impl.MaxBytes + 1, none},
		{"too long", num, full + "\x00", 0, size},
		{"too long, by a record of none", rec(), full + "\x00", 0, size},
		{"too long ahead of below 0", num, full + "\x00", -1, size},
		{"too long ahead of behind the end", num, full + "\x00", impl.MaxBytes + 2, size},
		{"too long ahead of what can not be", flag, tooLong, 1, size},
	} {
		sameUnpacked(t, c.what, impl.Unpack(c.shape, c.bytes, c.at), c.want)
	}
}

// TestUnpackOfMaxBytes reads what is MaxBytes long, and one more.
func TestUnpackOfMaxBytes(t *testing.T) {
	for _, c := range []struct {
		size int
		code int64
	}{
		{impl.MaxBytes - 1, impl.OK},
		{impl.MaxBytes, impl.OK},
		{impl.MaxBytes + 1, impl.ErrSize},
		{27000, impl.ErrSize},
	} {
		v := sizedPack(c.size)
		bytes := impl.Pack(textLists, v)
		same(t, "Pack", bytes, packWritten(textLists, v))
		same(t, "its size", len(bytes), c.size)
		want := impl.Unpacked{Code: c.code}
		if c.code == impl.OK {
			want = impl.Unpacked{Val: v, At: int64(c.size)}
		}
		sameUnpacked(t, "Unpack", impl.Unpack(textLists, bytes, 0), want)
		sameValOut(t, "UnpackAll", impl.UnpackAll(textLists, bytes), impl.ValOut{Val: want.Val, Code: want.Code})
	}
	most := impl.Pack(textLists, sizedPack(impl.MaxBytes))
	sameValOut(t, "one byte less", impl.UnpackAll(textLists, most[:impl.MaxBytes-1]), impl.ValOut{Code: impl.ErrShort})
	sameValOut(t, "one byte behind", impl.UnpackAll(textLists, impl.Pack(textLists, sizedPack(impl.MaxBytes-1))+"\x00"), impl.ValOut{Code: impl.ErrSyntax})
	sameValOut(t, "a record of none of MaxBytes", impl.UnpackAll(rec(), most), impl.ValOut{Code: impl.ErrSyntax})
	sameValOut(t, "a record of none of one more", impl.UnpackAll(rec(), tooLong), impl.ValOut{Code: impl.ErrSize})
}

// TestUnpackOrder: more than MaxBytes ahead of a shape that is not right, and that ahead of what stands there.
func TestUnpackOrder(t *testing.T) {
	for what, s := range wrongShapes() {
		for where, s := range map[string]impl.Shape{"": s, "in a list: ": list(s), "in a maybe: ": maybe(s), "in a record: ": rec(num, s)} {
			for _, bytes := range []string{"", "\x00", "\x02", "\x80", "\x80\x00", "\x02\x00", "\x00\x02\x00", filled(impl.MaxBytes)} {
				for _, at := range []int64{-1, 0, int64(len(bytes)), int64(len(bytes)) + 1, math.MaxInt64} {
					sameUnpacked(t, where+what, impl.Unpack(s, bytes, at), impl.Unpacked{Code: impl.ErrForm})
				}
				sameValOut(t, where+what, impl.UnpackAll(s, bytes), impl.ValOut{Code: impl.ErrForm})
			}
			for _, at := range []int64{-1, 0, impl.MaxBytes + 2} {
				sameUnpacked(t, where+what, impl.Unpack(s, tooLong, at), impl.Unpacked{Code: impl.ErrSize})
			}
			sameValOut(t, where+what, impl.UnpackAll(s, tooLong), impl.ValOut{Code: impl.ErrSize})
		}
	}
}

type unpackFault struct {
	what  string
	shape impl.Shape
	bytes string
	code  int64
}

func leafFaults() []unpackFault {
	two := pick("red", "green")
	six := pick("a", "b", "c", "d", "e", "f")
	nine := times("\x80", 9)
	return []unpackFault{
		{"a flag of 2", flag, impl.PutNum(2), impl.ErrSyntax},
		{"a flag of -1", flag, impl.PutNum(-1), impl.ErrSyntax},
		{"a flag of 1 beyond 32 bits", flag, impl.PutNum(1<<32 + 1), impl.ErrSyntax},
		{"a flag of the least number", flag, impl.PutNum(math.MinInt64), impl.ErrSyntax},
		{"a flag of none", flag, "", impl.ErrShort},
		{"a flag, more to come", flag, "\x80", impl.ErrShort},
		{"a flag of 0 in two bytes", flag, "\x80\x00", impl.ErrSyntax},
		{"a flag of 1 in two bytes", flag, "\x82\x00", impl.ErrSyntax},
		{"MaxTime and one", num, impl.PutNum(impl.MaxTime + 1), impl.ErrSyntax},
		{"-1", num, impl.PutNum(-1), impl.ErrSyntax},
		{"the greatest number", num, impl.PutNum(math.MaxInt64), impl.ErrSyntax},
		{"the least number", num, impl.PutNum(math.MinInt64), impl.ErrSyntax},
		{"7 beyond 32 bits", num, impl.PutNum(1<<32 + 7), impl.ErrSyntax},
		{"a number of none", num, "", impl.ErrShort},
		{"a number, more to come", num, "\x80\x89", impl.ErrShort},
		{"64 in three bytes", num, "\x80\x81\x00", impl.ErrSyntax},
		{"nine bytes, more to come", num, nine, impl.ErrShort},
		{"the tenth byte above 1", num, nine + "\x02", impl.ErrSyntax},
		{"the tenth byte 128", num, nine + "\x80", impl.ErrSyntax},
		{"a text of 21 bytes", text, impl.PutText(filledText(21)), impl.ErrSyntax},
		{"a text of 21 bytes, one less", text, impl.PutText(filledText(21))[:21], impl.ErrShort},
		{"a text of 7000 bytes", text, impl.PutText(times("a", 7000)), impl.ErrSyntax},
		{"a length of MaxBytes", text, impl.PutNum(impl.MaxBytes) + "a", impl.ErrShort},
		{"a length of MaxBytes and one", text, impl.PutNum(impl.MaxBytes+1) + "a", impl.ErrSyntax},
		{"a length of -1", text, impl.PutNum(-1) + "a", impl.ErrSyntax},
		{"the greatest length", text, impl.PutNum(math.MaxInt64) + "a", impl.ErrSyntax},
		{"a length in two bytes", text, "\x82\x00a", impl.ErrSyntax},
		{"a length, more to come", text, "\x80", impl.ErrShort},
		{"a text of none", text, "", impl.ErrShort},
		{"a text without its last byte", text, "\x04a", impl.ErrShort},
		{"a quote", text, impl.PutText(`"`), impl.ErrSyntax},
		{"a quote behind others", text, impl.PutText(`ab"`), impl.ErrSyntax},
		{"31", text, impl.PutText("\x1f"), impl.ErrSyntax},
		{"127", text, impl.PutText("\x7f"), impl.ErrSyntax},
		{"a line feed", text, impl.PutText("a\n"), impl.ErrSyntax},
		{"a byte above 127", text, impl.PutText("ä"), impl.ErrSyntax},
		{"a quote, and too short", text, "\x04\"", impl.ErrShort},
		{"one behind the last sym", two, impl.PutNum(2), impl.ErrSyntax},
		{"one ahead of the first sym", two, impl.PutNum(-1), impl.ErrSyntax},
		{"one behind the last of six syms", six, impl.PutNum(6), impl.ErrSyntax},
		{"the second of one sym", pick("red"), impl.PutNum(1), impl.ErrSyntax},
		{"a sym beyond 32 bits", two, impl.PutNum(1 << 32), impl.ErrSyntax},
		{"the greatest sym", two, impl.PutNum(math.MaxInt64), impl.ErrSyntax},
		{"a sym of none", two, "", impl.ErrShort},
		{"a sym in two bytes", two, "\x82\x00", impl.ErrSyntax},
		{"a sym by its text", two, impl.PutText("red"), impl.ErrSyntax},
	}
}

func partFaults() []unpackFault {
	two := rec(num, text)
	return []unpackFault{
		{"a maybe of 2", maybe(num), "\x04\x00\x00", impl.ErrSyntax},
		{"a maybe of 2, and none of them", maybe(num), "\x04", impl.ErrSyntax},
		{"a maybe of -1", maybe(num), "\x01", impl.ErrSyntax},
		{"a maybe of 2 records of none", maybe(rec()), "\x04", impl.ErrSyntax},
		{"a maybe of none", maybe(num), "", impl.ErrShort},
		{"a maybe of 1 without it", maybe(num), "\x02", impl.ErrShort},
		{"a maybe of 1 that can not be", maybe(flag), "\x02\x04", impl.ErrSyntax},
		{"a maybe of 1 in two bytes", maybe(num), "\x82\x00\x00", impl.ErrSyntax},
		{"a maybe of a maybe of 2", maybe(maybe(num)), "\x02\x04\x00\x00", impl.ErrSyntax},
		{"a list of 7", list(num), "\x0e" + times("\x00", 7), impl.ErrSyntax},
		{"a list of 7, and none of them", list(num), "\x0e", impl.ErrSyntax},
		{"a list of -1", list(num), "\x01", impl.ErrSyntax},
		{"a list of 7 records of none", list(rec()), "\x0e", impl.ErrSyntax},
		{"the greatest list", list(rec()), impl.PutNum(math.MaxInt64), impl.ErrSyntax},
		{"the least list", list(rec()), impl.PutNum(math.MinInt64), impl.ErrSyntax},
		{"a list beyond 32 bits", list(rec()), impl.PutNum(1 << 32), impl.ErrSyntax},
		{"a list of none", list(num), "", impl.ErrShort},
		{"a list of 6, and five of them", list(num), "\x0c" + times("\x00", 5), impl.ErrShort},
		{"a list of 1 without it", list(text), "\x02", impl.ErrShort},
		{"a list of 0 in two bytes", list(num), "\x80\x00", impl.ErrSyntax},
		{"a list, the first can not be", list(flag), "\x04\x04\x00", impl.ErrSyntax},
		{"a list, the last can not be", list(flag), "\x04\x00\x04", impl.ErrSyntax},
		{"a list of a list of 7", list(list(num)), "\x02\x0e" + times("\x00", 7), impl.ErrSyntax},
		{"a record of none of two", two, "", impl.ErrShort},
		{"a record of one of two", two, "\x0a", impl.ErrShort},
		{"a record, the second too short", two, "\x0a\x04a", impl.ErrShort},
		{"a record, the first can not be", two, "\x01\x02a", impl.ErrSyntax},
		{"a record, the second can not be", two, "\x0a\x02\"", impl.ErrSyntax},
		// The first fault is the one that is met first, from byte to byte.
		{"can not be, and then too short", rec(flag, num), "\x04", impl.ErrSyntax},
		{"can not be, and then no number", rec(flag, num), "\x04\x80", impl.ErrSyntax},
		{"too short, where others could not be", rec(num, flag), "\x80", impl.ErrShort},
		{"no number, and then too short", rec(num, num), "\x80\x00", impl.ErrSyntax},
		{"a text too short, where the next could not be", rec(text, flag), "\x06a\x04", impl.ErrShort},
		{"a list that can not be, and then too short", list(flag), "\x06\x04", impl.ErrSyntax},
		{"the second in a list is too short, where it could not be", list(num), "\x04\x00\xff\xff\xff", impl.ErrShort},
	}
}

func TestUnpackFaults(t *testing.T) {
	for _, c := range append(leafFaults(), partFaults()...) {
		want := impl.Unpacked{Code: c.code}
		sameUnpacked(t, c.what, impl.Unpack(c.shape, c.bytes, 0), want)
		sameValOut(t, c.what, impl.UnpackAll(c.shape, c.bytes), impl.ValOut{Code: c.code})
		sameUnpacked(t, "behind others: "+c.what, impl.Unpack(c.shape, "\x00\x80\x00"+c.bytes, 3), want)
		sameUnpacked(t, "in a maybe: "+c.what, impl.Unpack(maybe(c.shape), "\x02"+c.bytes, 0), want)
		sameUnpacked(t, "in a list: "+c.what, impl.Unpack(list(c.shape), "\x04"+c.bytes, 0), want)
		sameUnpacked(t, "last in a record: "+c.what, impl.Unpack(rec(num, c.shape), "\x00"+c.bytes, 0), want)
		sameUnpacked(t, "first in a record: "+c.what, impl.Unpack(rec(c.shape, rec()), c.bytes, 0), want)
		if c.code == impl.ErrSyntax {
			sameUnpacked(t, "ahead of others: "+c.what, impl.Unpack(c.shape, c.bytes+"\x00\x00", 0), want)
			sameUnpacked(t, "ahead of a field: "+c.what, impl.Unpack(rec(c.shape, num), c.bytes+"\x00", 0), want)
		}
	}
}

func TestUnpackBytesOfTexts(t *testing.T) {
	for b := range 256 {
		one := string([]byte{byte(b)})
		for _, inner := range []string{one, "ab" + one, one + "ab", times("a", 19) + one, times("a", 20) + one} {
			bytes := impl.PutText(inner)
			want := impl.Unpacked{Code: impl.ErrSyntax}
			if len(inner) <= 20 && b >= 32 && b <= 126 && b != '"' {
				want = impl.Unpacked{Val: textVal(inner), At: int64(len(bytes))}
			}
			sameUnpacked(t, shown(inner), impl.Unpack(text, bytes, 0), want)
		}
	}
}

// TestUnpackNumbers holds each number that GetNum could tell against what may stand there.
func TestUnpackNumbers(t *testing.T) {
	six := pick("a", "b", "c", "d", "e", "f")
	for _, s := range []impl.Shape{flag, num, pick("a"), pick("a", "b"), six, maybe(rec()), list(rec()), maybe(num), list(num), text} {
		for _, n := range append(someNumbers(), 3, 4, 5, 6, 7, 8, 20, 21, 999999, 1000000, 1000001) {
			unpacksAsSaid(t, s, impl.PutNum(n))
			unpacksAsSaid(t, s, impl.PutNum(n)+times("\x00", 30))
		}
	}
}

func TestUnpackAllWithSomethingBehind(t *testing.T) {
	for _, c := range packCases() {
		for _, behind := range []string{"\x00", "\x80", "q", c.want + "\x00"} {
			sameValOut(t, written(c.shape), impl.UnpackAll(c.shape, c.want+behind), impl.ValOut{Code: impl.ErrSyntax})
		}
	}
	sameValOut(t, "a record of none, of none", impl.UnpackAll(rec(), ""), impl.ValOut{Val: recVal()})
	sameValOut(t, "a fault ahead of something behind", impl.UnpackAll(text, "\x04a"), impl.ValOut{Code: impl.ErrShort})
}

// TestShortBytes reads whatever can be put together of a few bytes.
func TestShortBytes(t *testing.T) {
	pieces := strings.Split("\x00\x01\x02\x04\x06\x0eA\x80\x81\xff", "")
	for _, c := range []struct {
		shape impl.Shape
		most  int
		right int
	}{
		{flag, 3, 2},
		{num, 4, 29},
		{text, 5, 4},
		{pick("a", "b", "c"), 3, 3},
		{maybe(flag), 4, 3},
		{maybe(maybe(rec())), 4, 3},
		{list(flag), 5, 15},
		{list(list(rec())), 4, 85},
		{rec(flag, pick("a", "b")), 4, 4},
		{rec(maybe(num), rec(), flag), 4, 24},
	} {
		right := 0
		for _, bytes := range putTogether(pieces, c.most) {
			if unpacksAsSaid(t, c.shape, bytes) {
				right++
			}
		}
		same(t, "right ones of "+written(c.shape), right, c.right)
	}
}

// TestTurnedBytes reads what is packed, of which a byte is another one, goes, or comes.
func TestTurnedBytes(t *testing.T) {
	r := rand.New(rand.NewSource(17))
	for found := 0; found < 100; {
		s := someShape(r, 1+r.Intn(impl.MaxDeep))
		bytes := packWritten(s, someVal(r, s))
		if len(bytes) > 100 {
			continue
		}
		found++
		same(t, "unturned", unpacksAsSaid(t, s, bytes), true)
		for _, wrong := range turned(bytes, "\x00\x01\x02\x03\x04\x0c\x0e\"(*\x7f\x80\xff") {
			unpacksAsSaid(t, s, wrong)
		}
	}
}

// TestUnpackAnyBytes reads any bytes, from any place.
func TestUnpackAnyBytes(t *testing.T) {
	r := rand.New(rand.NewSource(18))
	for range 5000 {
		s := someShape(r, 1+r.Intn(impl.MaxDeep))
		bytes := someBytes(r, 60)
		at := r.Int63n(int64(len(bytes)) + 1)
		sameUnpacked(t, shown(bytes)+" by "+written(s), impl.Unpack(s, bytes, at), unpackedBy(s, bytes, at))
		unpacksAsSaid(t, s, bytes)
	}
}

func TestUnpackIsNewMemory(t *testing.T) {
	r := rand.New(rand.NewSource(19))
	for range 200 {
		s := someShape(r, 4)
		v := someVal(r, s)
		bytes := packWritten(s, v)
		got := impl.Unpack(s, bytes, 0).Val
		apartAll(t, valStretches(got, "Unpack"))
		all := impl.UnpackAll(s, bytes).Val
		apartAll(t, append(valStretches(got, "Unpack"), valStretches(all, "UnpackAll")...))
		for _, one := range append(valsOf(&got), valsOf(&all)...) {
			apart(t, "Unpack", one.T, bytes)
			for _, word := range wordsOf(s) {
				apart(t, "Unpack", one.T, word)
			}
		}
	}
}

// TestUnpackedStandsAlone: whoever changes one answer changes no other one, and a fault is not kept.
func TestUnpackedStandsAlone(t *testing.T) {
	s := rec(list(num), pick("a", "b"))
	bytes := "\x04\x02\x04\x02"
	first := impl.UnpackAll(s, bytes).Val
	kept := valCopied(first)
	second := impl.UnpackAll(s, bytes).Val
	second.Items[0].Items[0].N = 9
	second.Items[0].Items = append(second.Items[0].Items, numVal(9))
	second.Items[1] = numVal(9)
	sameValOut(t, "a fault", impl.UnpackAll(s, "\x04\x02\x04\x04"), impl.ValOut{Code: impl.ErrSyntax})
	sameVal(t, "the first answer", first, kept)
	sameValOut(t, "a third one", impl.UnpackAll(s, bytes), impl.ValOut{Val: kept})
}
