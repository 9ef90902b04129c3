package tests

import (
	"math"
	"testing"

	"loop.example/g00848/impl"
)

func TestPutTextBytes(t *testing.T) {
	same(t, "none", impl.PutText(""), "\x00")
	same(t, "two bytes", impl.PutText("ab"), "\x04ab")
	same(t, "any bytes", impl.PutText("\x00\xff"), "\x04\x00\xff")
	most := filled(impl.MaxBytes)
	same(t, "MaxBytes", impl.PutText(most), "\x80\x7d"+most)
	same(t, "one more", impl.PutText(tooLong), "")
	apart(t, "PutText", impl.PutText(most), most)
}

func TestTextsComeBack(t *testing.T) {
	for _, size := range []int{0, 1, 2, 63, 64, 65, 127, 128, 1000, 7997, 7998} {
		inner := filled(size)
		text := impl.PutText(inner)
		end := int64(len(text))
		got := impl.GetText(text, 0)
		same(t, "alone", got, impl.TextOut{Text: inner, At: end})
		apart(t, "GetText", got.Text, text)
		if size < 7990 {
			same(t, "between others", impl.GetText("\xff\x80"+text+"\x00", 2), impl.TextOut{Text: inner, At: end + 2})
		}
		same(t, "one byte less", impl.GetText(text[:end-1], 0), impl.TextOut{Code: impl.ErrShort})
	}
	row := impl.PutText("a") + impl.PutText("") + impl.PutText("bc")
	first := impl.GetText(row, 0)
	second := impl.GetText(row, first.At)
	third := impl.GetText(row, second.At)
	same(t, "in a row", first.Text+","+second.Text+","+third.Text, "a,,bc")
	same(t, "the end of the row", third.At, int64(len(row)))
}

// Of more than 7998 bytes a text does not fit in: with its length ahead it is more than a call takes.
func TestTextsThatDoNotFitIn(t *testing.T) {
	for _, size := range []int{7999, impl.MaxBytes} {
		text := impl.PutText(filled(size))
		same(t, "PutText", len(text), size+2)
		same(t, "GetText", impl.GetText(text, 0), impl.TextOut{Code: impl.ErrSize})
		same(t, "cut to MaxBytes", impl.GetText(text[:impl.MaxBytes], 0), impl.TextOut{Code: impl.ErrShort})
	}
}

func TestGetTextFaults(t *testing.T) {
	for _, c := range []struct {
		what string
		text string
		at   int64
		want impl.TextOut
	}{
		{"below 0", "\x02a", -1, impl.TextOut{Code: impl.ErrForm}},
		{"the least place", "\x02a", math.MinInt64, impl.TextOut{Code: impl.ErrForm}},
		{"none", "", 0, impl.TextOut{Code: impl.ErrShort}},
		{"the end", "\x02a", 2, impl.TextOut{Code: impl.ErrShort}},
		{"behind the end", "\x02a", 3, impl.TextOut{Code: impl.ErrShort}},
		{"the greatest place", "\x02a", math.MaxInt64, impl.TextOut{Code: impl.ErrShort}},
		{"no whole length", "\x80", 0, impl.TextOut{Code: impl.ErrShort}},
		{"a length in too many bytes", "\x82\x00a", 0, impl.TextOut{Code: impl.ErrSyntax}},
		{"the tenth byte above 1", times("\x80", 9) + "\x02", 0, impl.TextOut{Code: impl.ErrSyntax}},
		{"a length of -1", "\x01a", 0, impl.TextOut{Code: impl.ErrSyntax}},
		{"the least length", impl.PutNum(math.MinInt64), 0, impl.TextOut{Code: impl.ErrSyntax}},
		{"the greatest length", impl.PutNum(math.MaxInt64), 0, impl.TextOut{Code: impl.ErrSyntax}},
		{"a length of MaxBytes and one", impl.PutNum(impl.MaxBytes+1) + "a", 0, impl.TextOut{Code: impl.ErrSyntax}},
		{"a length of MaxBytes", impl.PutNum(impl.MaxBytes) + "a", 0, impl.TextOut{Code: impl.ErrShort}},
		{"no text behind its length", "\x02", 0, impl.TextOut{Code: impl.ErrShort}},
		{"a part of the text", "\x06ab", 0, impl.TextOut{Code: impl.ErrShort}},
		{"too long", tooLong, 0, impl.TextOut{Code: impl.ErrSize}},
		{"too long ahead of below 0", tooLong, -1, impl.TextOut{Code: impl.ErrSize}},
		{"an empty one at the last place", "x\x00", 1, impl.TextOut{At: 2}},
	} {
		same(t, c.what, impl.GetText(c.text, c.at), c.want)
	}
}

func TestNameRight(t *testing.T) {
	for _, right := range []string{"a", "z", "m", "a_9", "a0", "zz__", "abcdefghij0123456789"} {
		same(t, right, impl.NameRight(right), true)
	}
	for _, wrong := range []string{"", "_a", "9a", "A", "aB", "a-b", "a b", "a\x00", "a\xe4", "ä", "`", "{", "a`", "a{", "a/", "a:", "a@", "a[", "a^", "abcdefghij01234567890", times("a", impl.MaxBytes), times("a", impl.MaxBytes+1)} {
		same(t, wrong, impl.NameRight(wrong), false)
	}
	for b := range 256 {
		small := b >= 'a' && b <= 'z'
		one := string([]byte{byte(b)})
		same(t, "first "+one, impl.NameRight(one), small)
		same(t, "behind "+one, impl.NameRight("x"+one), small || b >= '0' && b <= '9' || b == '_')
	}
}
