package tests

import (
	"math/rand"
	"reflect"
	"testing"

	"loop.example/g00848/impl"
)

type packCase struct {
	shape impl.Shape
	val   impl.Val
	want  string
}

func packCases() []packCase {
	six := pick("a", "b", "c", "d", "e", "f")
	twenty := filledText(20)
	return []packCase{
		{flag, flagVal(0), "\x00"},
		{flag, flagVal(1), "\x02"},
		{num, numVal(0), "\x00"},
		{num, numVal(5), "\x0a"},
		{num, numVal(63), "\x7e"},
		{num, numVal(64), "\x80\x01"},
		{num, numVal(8191), "\xfe\x7f"},
		{num, numVal(8192), "\x80\x80\x01"},
		{num, numVal(impl.MaxTime - 1), "\xfe\x88\x7a"},
		{num, numVal(impl.MaxTime), "\x80\x89\x7a"},
		{text, textVal(""), "\x00"},
		{text, textVal("a"), "\x02a"},
		{text, textVal("~ ,"), "\x06~ ,"},
		{text, textVal(twenty), "\x28" + twenty},
		{pick("red"), pickVal("red"), "\x00"},
		{pick("red", "green"), pickVal("red"), "\x00"},
		{pick("red", "green"), pickVal("green"), "\x02"},
		{pick("green", "red"), pickVal("green"), "\x00"},
		{pick("a", "aa", "aaa"), pickVal("aa"), "\x02"},
		{six, pickVal("e"), "\x08"},
		{six, pickVal("f"), "\x0a"},
		{maybe(num), maybeVal(), "\x00"},
		{maybe(num), maybeVal(numVal(0)), "\x02\x00"},
		{maybe(num), maybeVal(numVal(5)), "\x02\x0a"},
		{maybe(maybe(num)), maybeVal(maybeVal()), "\x02\x00"},
		{maybe(maybe(num)), maybeVal(maybeVal(numVal(5))), "\x02\x02\x0a"},
		{maybe(rec()), maybeVal(recVal()), "\x02"},
		{list(num), listVal(), "\x00"},
		{list(num), listVal(numVal(5)), "\x02\x0a"},
		{list(num), listVal(numVal(1), numVal(2), numVal(64)), "\x06\x02\x04\x80\x01"},
		{list(num), listVal(many(numVal(5), 6)...), "\x0c\x0a\x0a\x0a\x0a\x0a\x0a"},
		{list(text), listVal(textVal("x"), textVal("")), "\x04\x02x\x00"},
		{list(rec()), listVal(recVal(), recVal()), "\x04"},
		{list(list(num)), listVal(listVal(), listVal(numVal(1), numVal(2))), "\x04\x00\x04\x02\x04"},
		{rec(), recVal(), ""},
		{rec(num), recVal(numVal(5)), "\x0a"},
		{rec(num, text), recVal(numVal(5), textVal("a")), "\x0a\x02a"},
		{rec(text, num), recVal(textVal("a"), numVal(5)), "\x02a\x0a"},
		{rec(rec(), rec(rec())), recVal(recVal(), recVal(recVal())), ""},
		{rec(rec(rec(rec(flag)))), recVal(recVal(recVal(recVal(flagVal(1))))), "\x02"},
		{rec(num, list(maybe(text)), pick("red", "green")), recVal(numVal(5), listVal(maybeVal(), maybeVal(textVal("a,b"))), pickVal("green")), "\x0a\x04\x00\x02\x06a,b\x02"},
		// The same shape in many places, and shapes that differ by a little only.
		{rec(pick("a", "b"), pick("b", "a"), pick("a", "b")), recVal(pickVal("b"), pickVal("b"), pickVal("b")), "\x02\x00\x02"},
		{rec(maybe(num), list(num), maybe(num)), recVal(maybeVal(numVal(1)), listVal(numVal(1), numVal(2)), maybeVal()), "\x02\x02\x04\x02\x04\x00"},
		{rec(flag, num, flag, num), recVal(flagVal(1), numVal(100), flagVal(0), numVal(1)), "\x02\xc8\x01\x00\x02"},
	}
}

func TestPackBytes(t *testing.T) {
	for _, c := range packCases() {
		what := written(c.shape)
		end := int64(len(c.want))
		same(t, what, impl.Pack(c.shape, c.val), c.want)
		same(t, "beside the program: "+what, packWritten(c.shape, c.val), c.want)
		sameUnpacked(t, what, impl.Unpack(c.shape, c.want, 0), impl.Unpacked{Val: c.val, At: end})
		sameUnpacked(t, what, impl.Unpack(c.shape, "\xff"+c.want+"\x80", 1), impl.Unpacked{Val: c.val, At: end + 1})
		sameValOut(t, what, impl.UnpackAll(c.shape, c.want), impl.ValOut{Val: c.val})
	}
}

// TestPackIsPutNum: what is packed is what PutNum and PutText make.
func TestPackIsPutNum(t *testing.T) {
	for n := int64(0); n <= impl.MaxTime; n += 1 + n/50 {
		same(t, "a number", impl.Pack(num, numVal(n)), impl.PutNum(n))
		sameValOut(t, "a number", impl.UnpackAll(num, impl.PutNum(n)), impl.ValOut{Val: numVal(n)})
	}
	for size := range 21 {
		inner := filledText(size)
		same(t, "a text", impl.Pack(text, textVal(inner)), impl.PutText(inner))
	}
}

func TestWhatFitsIsPacked(t *testing.T) {
	r := rand.New(rand.NewSource(12))
	for range 2000 {
		s := someShape(r, 1+r.Intn(impl.MaxDeep))
		v := someVal(r, s)
		same(t, written(s), impl.Pack(s, v), packWritten(s, v))
		all := valsOf(&v)
		turn(r, all[r.Intn(len(all))])
		want := ""
		if fitting(s, v) {
			want = packWritten(s, v)
		}
		same(t, shown(v)+" by "+written(s), impl.Pack(s, v), want)
	}
}

func TestWhatDoesNotFitIsNotPacked(t *testing.T) {
	for _, cases := range [][]fitCase{leafCases(), partCases(), kinds(), strayCases()} {
		for _, c := range cases {
			want := ""
			if c.fits {
				want = packWritten(c.shape, c.val)
			}
			same(t, c.what, impl.Pack(c.shape, c.val), want)
			if impl.DeepOf(c.shape) == impl.MaxDeep {
				continue
			}
			if c.fits {
				want = "\x0a" + want
			}
			same(t, "last in a record: "+c.what, impl.Pack(rec(num, c.shape), recVal(numVal(5), c.val)), want)
		}
	}
	for _, a := range kinds() {
		for _, b := range kinds() {
			if a.shape.Kind != b.shape.Kind {
				same(t, a.what+" by "+b.what, impl.Pack(list(b.shape), listVal(a.val)), "")
			}
		}
	}
	same(t, "zero", impl.Pack(num, impl.Val{}), "")
}

func TestNothingIsPackedByWrongShapes(t *testing.T) {
	for what, s := range wrongShapes() {
		for _, v := range []impl.Val{{}, {Kind: s.Kind}, {Kind: s.Kind, T: "a"}, {Kind: s.Kind, Items: many(numVal(0), 1)}, {Kind: s.Kind, Items: many(numVal(0), 7)}, valRing(s.Kind), valLists(5), valLists(1000)} {
			same(t, what, impl.Pack(s, v), "")
			same(t, "in a list: "+what, impl.Pack(list(s), listVal(v)), "")
			same(t, "none of it in a list: "+what, impl.Pack(list(s), listVal()), "")
			same(t, "none of it in a maybe: "+what, impl.Pack(maybe(s), maybeVal()), "")
			same(t, "in a record: "+what, impl.Pack(rec(num, s), recVal(numVal(5), v)), "")
		}
	}
	same(t, "zero by zero", impl.Pack(impl.Shape{}, impl.Val{}), "")
}

func TestPackIsNewMemory(t *testing.T) {
	inner := filledText(20)
	apart(t, "a text", impl.Pack(text, textVal(inner)), inner)
	apart(t, "a text in a record", impl.Pack(rec(text), recVal(textVal(inner))), inner)
	s := pick("red", "green")
	v := pickVal(s.Syms[1])
	first := impl.Pack(s, v)
	same(t, "packed again", impl.Pack(s, v), first)
}

func TestPackedIsNotChanged(t *testing.T) {
	r := rand.New(rand.NewSource(13))
	for range 300 {
		s := someShape(r, impl.MaxDeep)
		v := someVal(r, s)
		shapeBefore, valBefore := copied(s), valCopied(v)
		bytes := impl.Pack(s, v)
		impl.Pack(list(s), listVal(v))
		impl.Unpack(s, bytes, 0)
		impl.UnpackAll(s, bytes+"\x00")
		impl.UnpackAll(s, "")
		same(t, "the shape as it was", alike(s, shapeBefore), true)
		same(t, "the Val as it was", valAlike(v, valBefore), true)
	}
}

// TestNothingIsPutBehindPacked: a list that is handed in may have room behind its end, which is not the program's.
func TestNothingIsPutBehindPacked(t *testing.T) {
	syms := []string{"a", "b", "behind"}
	shapes := []impl.Shape{pick(syms[:2]...), list(num), text}
	items := []impl.Val{pickVal("b"), listVal(numVal(1)), textVal("behind")}
	s := impl.Shape{Kind: impl.ShRec, Names: []string{"a", "b"}, Shapes: shapes[:2]}
	v := recVal(items[:2]...)
	same(t, "Pack", impl.Pack(s, v), "\x02\x02\x02")
	sameValOut(t, "UnpackAll", impl.UnpackAll(s, "\x02\x02\x02"), impl.ValOut{Val: v})
	same(t, "syms", syms[2], "behind")
	same(t, "shapes", reflect.DeepEqual(shapes[2], text), true)
	sameVal(t, "items", items[2], textVal("behind"))
}

// TestPackersAreNotKept: a shape whose words are changed between two calls packs by those that it has.
func TestPackersAreNotKept(t *testing.T) {
	s := rec(pick("red", "green"), pick("red", "green"))
	v := recVal(pickVal("red"), pickVal("green"))
	same(t, "as it was", impl.Pack(s, v), "\x00\x02")
	sameValOut(t, "as it was", impl.UnpackAll(s, "\x00\x02"), impl.ValOut{Val: v})
	s.Shapes[0].Syms[0], s.Shapes[0].Syms[1] = "green", "red"
	same(t, "exchanged", impl.Pack(s, v), "\x02\x02")
	sameValOut(t, "exchanged", impl.UnpackAll(s, "\x02\x02"), impl.ValOut{Val: v})
	s.Shapes[1] = flag
	same(t, "another kind", impl.Pack(s, v), "")
	sameValOut(t, "another kind", impl.UnpackAll(s, "\x00\x02"), impl.ValOut{Val: recVal(pickVal("green"), flagVal(1))})
}
