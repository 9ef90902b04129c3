package tests

import (
	"encoding/binary"
	"math"
	"math/rand"
	"testing"

	"loop.example/g00848/impl"
)

// someNumbers are those about each power of two, where one more byte or bit comes to be needed, and others.
func someNumbers() []int64 {
	out := []int64{math.MinInt64, math.MinInt64 + 1, math.MaxInt64 - 1, math.MaxInt64}
	for shift := range 63 {
		for d := int64(-2); d <= 2; d++ {
			out = append(out, 1<<shift+d, -(1<<shift)+d)
		}
	}
	r := rand.New(rand.NewSource(1))
	for range 2000 {
		out = append(out, int64(r.Uint64())>>r.Intn(64))
	}
	return out
}

func TestPutNumBytes(t *testing.T) {
	for _, c := range []struct {
		n    int64
		want string
	}{
		{0, "\x00"},
		{-1, "\x01"},
		{1, "\x02"},
		{-2, "\x03"},
		{63, "\x7e"},
		{-64, "\x7f"},
		{64, "\x80\x01"},
		{-65, "\x81\x01"},
		{8191, "\xfe\x7f"},
		{-8192, "\xff\x7f"},
		{8192, "\x80\x80\x01"},
		{1 << 62, times("\x80", 9) + "\x01"},
		{1<<62 - 1, "\xfe" + times("\xff", 7) + "\x7f"},
		{-1 << 62, times("\xff", 8) + "\x7f"},
		{math.MaxInt64, "\xfe" + times("\xff", 8) + "\x01"},
		{math.MinInt64, times("\xff", 9) + "\x01"},
	} {
		same(t, "PutNum", impl.PutNum(c.n), c.want)
	}
	for _, n := range someNumbers() {
		same(t, "PutNum beside encoding/binary", impl.PutNum(n), string(binary.AppendVarint(nil, n)))
	}
}

func TestNumbersComeBack(t *testing.T) {
	for _, n := range someNumbers() {
		text := impl.PutNum(n)
		end := int64(len(text))
		same(t, "alone", impl.GetNum(text, 0), impl.NumOut{N: n, At: end})
		same(t, "behind others", impl.GetNum("\xff\x80"+text, 2), impl.NumOut{N: n, At: end + 2})
		same(t, "ahead of others", impl.GetNum(text+"\xff\x00", 0), impl.NumOut{N: n, At: end})
		for cut := range text {
			same(t, "cut off", impl.GetNum(text[:cut], 0), impl.NumOut{Code: impl.ErrShort})
		}
	}
	text := ""
	for _, n := range someNumbers()[:600] {
		text += impl.PutNum(n)
	}
	at := int64(0)
	for _, n := range someNumbers()[:600] {
		got := impl.GetNum(text, at)
		same(t, "in a row", got.N, n)
		at = got.At
	}
	same(t, "the end of the row", at, int64(len(text)))
}

func TestGetNumPlaces(t *testing.T) {
	full := times("\x00", impl.MaxBytes)
	for _, c := range []struct {
		what string
		text string
		at   int64
		want impl.NumOut
	}{
		{"below 0", "\x02", -1, impl.NumOut{Code: impl.ErrForm}},
		{"below 0, of none", "", -1, impl.NumOut{Code: impl.ErrForm}},
		{"the least place", "\x02", math.MinInt64, impl.NumOut{Code: impl.ErrForm}},
		{"none", "", 0, impl.NumOut{Code: impl.ErrShort}},
		{"the end", "\x02", 1, impl.NumOut{Code: impl.ErrShort}},
		{"behind the end", "\x02", 2, impl.NumOut{Code: impl.ErrShort}},
		{"the greatest place", "\x02", math.MaxInt64, impl.NumOut{Code: impl.ErrShort}},
		{"beyond 32 bits", "\x02", 1 << 32, impl.NumOut{Code: impl.ErrShort}},
		{"from the middle", "\x80\x01", 1, impl.NumOut{N: -1, At: 2}},
		{"the last of MaxBytes", full, impl.MaxBytes - 1, impl.NumOut{At: impl.MaxBytes}},
		{"behind MaxBytes", full, impl.MaxBytes, impl.NumOut{Code: impl.ErrShort}},
		{"too long", tooLong, 0, impl.NumOut{Code: impl.ErrSize}},
		{"too long ahead of below 0", tooLong, -1, impl.NumOut{Code: impl.ErrSize}},
		{"too long ahead of short", tooLong, impl.MaxBytes + 1, impl.NumOut{Code: impl.ErrSize}},
	} {
		same(t, c.what, impl.GetNum(c.text, c.at), c.want)
	}
}

func TestGetNumFaults(t *testing.T) {
	nine := times("\x80", 9)
	for _, c := range []struct {
		what string
		text string
		want impl.NumOut
	}{
		{"one byte, more to come", "\x80", impl.NumOut{Code: impl.ErrShort}},
		{"nine bytes, more to come", nine, impl.NumOut{Code: impl.ErrShort}},
		{"the tenth 1", nine + "\x01", impl.NumOut{N: 1 << 62, At: 10}},
		{"the tenth 2", nine + "\x02", impl.NumOut{Code: impl.ErrSyntax}},
		{"the tenth 127", times("\xff", 9) + "\x7f", impl.NumOut{Code: impl.ErrSyntax}},
		{"the tenth 128, and no eleventh", nine + "\x80", impl.NumOut{Code: impl.ErrSyntax}},
		{"the tenth 129, and an eleventh", nine + "\x81\x00", impl.NumOut{Code: impl.ErrSyntax}},
		{"the tenth 0", nine + "\x00", impl.NumOut{Code: impl.ErrSyntax}},
		{"0 in two bytes", "\x80\x00", impl.NumOut{Code: impl.ErrSyntax}},
		{"1 in two bytes", "\x82\x00", impl.NumOut{Code: impl.ErrSyntax}},
		{"64 in three bytes", "\x80\x81\x00", impl.NumOut{Code: impl.ErrSyntax}},
		{"noughts within", "\x80\x80\x01", impl.NumOut{N: 8192, At: 3}},
	} {
		same(t, c.what, impl.GetNum(c.text, 0), c.want)
		if c.want.Code == impl.OK {
			c.want.At += 3
		}
		same(t, c.what+", behind others", impl.GetNum("\x00\x80\x00"+c.text, 3), c.want)
	}
}

// TestGetNumIsPutNum holds each short text of some bytes against all numbers that could stand there.
func TestGetNumIsPutNum(t *testing.T) {
	numbers := map[string]int64{}
	for n := int64(-3 << 20); n < 3<<20; n++ {
		if p := impl.PutNum(n); len(p) <= 3 {
			numbers[p] = n
		}
	}
	alphabet := []byte{0, 1, 2, 126, 127, 128, 129, 130, 254, 255}
	for _, a := range alphabet {
		for _, b := range alphabet {
			for _, c := range alphabet {
				text := string([]byte{a, b, c})
				want := impl.NumOut{Code: impl.ErrSyntax}
				if c >= 128 && b >= 128 && a >= 128 {
					want.Code = impl.ErrShort
				}
				for end := 1; end <= 3; end++ {
					if n, ok := numbers[text[:end]]; ok {
						want = impl.NumOut{N: n, At: int64(end)}
					}
				}
				same(t, "GetNum", impl.GetNum(text, 0), want)
			}
		}
	}
}
