package tests

import (
	"hash/crc32"
	"math"
	"testing"

	"loop.example/g00848/impl"
)

func TestCrc(t *testing.T) {
	for _, c := range []struct {
		text string
		want int64
	}{
		{"", 0},
		{"a", 0xe8b7be43},
		{"123456789", 0xcbf43926},
		{"\x00", 0xd202ef8d},
		{"\xff\xff\xff\xff", 0xffffffff},
	} {
		same(t, "Crc", impl.Crc(c.text), c.want)
	}
	for _, size := range []int{1, 2, 3, 255, 256, 257, 4000, impl.MaxBytes} {
		text := filled(size)
		same(t, "Crc beside hash/crc32", impl.Crc(text), int64(crc32.ChecksumIEEE([]byte(text))))
	}
	same(t, "too long", impl.Crc(tooLong), 0)
}

func TestCrcGoesOn(t *testing.T) {
	text := filled(600)
	for cut := 0; cut <= len(text); cut += 25 {
		same(t, "CrcMore", impl.CrcMore(impl.Crc(text[:cut]), text[cut:]), impl.Crc(text))
	}
	step := int64(0)
	for i := range len(text) {
		step = impl.CrcMore(step, text[i:i+1])
	}
	same(t, "byte by byte", step, impl.Crc(text))
	most := filled(impl.MaxBytes)
	twice := crc32.ChecksumIEEE([]byte(most + most))
	same(t, "beyond MaxBytes", impl.CrcMore(impl.Crc(most), most), int64(twice))
}

func TestCrcMoreRange(t *testing.T) {
	const top = 1<<32 - 1
	for _, c := range []struct {
		what string
		crc  int64
		text string
		want int64
	}{
		{"nothing behind it", 12345, "", 12345},
		{"from 0", 0, "a", 0xe8b7be43},
		{"from the greatest", top, "", top},
		{"from the greatest, a byte", top, "\x00", int64(crc32.Update(top, crc32.IEEETable, []byte{0}))},
		{"one above", top + 1, "a", 0},
		{"one above, nothing behind it", top + 1, "", 0},
		{"below 0", -1, "a", 0},
		{"below 0, nothing behind it", -1, "", 0},
		{"the least", math.MinInt64, "a", 0},
		{"the greatest of all", math.MaxInt64, "a", 0},
		{"too long", 1, tooLong, 0},
		{"too long, and out of range", -1, tooLong, 0},
	} {
		same(t, c.what, impl.CrcMore(c.crc, c.text), c.want)
	}
}

func TestSealBytes(t *testing.T) {
	same(t, "none", impl.Seal(""), "\x00\x00\x00\x00")
	same(t, "digits", impl.Seal("123456789"), "123456789\x26\x39\xf4\xcb")
	most := filled(impl.MaxBytes - 4)
	same(t, "the longest", len(impl.Seal(most)), impl.MaxBytes)
	same(t, "one more", impl.Seal(filled(impl.MaxBytes-3)), "")
	same(t, "MaxBytes", impl.Seal(filled(impl.MaxBytes)), "")
	same(t, "too long", impl.Seal(tooLong), "")
	apart(t, "Seal", impl.Seal(most), most)
}

func TestSealsComeBack(t *testing.T) {
	for _, size := range []int{0, 1, 2, 3, 4, 5, 300, impl.MaxBytes - 5, impl.MaxBytes - 4} {
		inner := filled(size)
		sealed := impl.Seal(inner)
		got := impl.Unseal(sealed)
		same(t, "Unseal", got, impl.TextOut{Text: inner})
		apart(t, "Unseal", got.Text, sealed)
	}
	twice := impl.Seal(impl.Seal("ab"))
	same(t, "a seal in a seal", impl.Unseal(impl.Unseal(twice).Text).Text, "ab")
}

func TestTurnedBytesAreRefused(t *testing.T) {
	for _, inner := range []string{"", "a", "\x00\x00\x00\x00", filled(40)} {
		sealed := impl.Seal(inner)
		for at := range len(sealed) {
			for turn := 1; turn < 256; turn++ {
				turned := []byte(sealed)
				turned[at] ^= byte(turn)
				same(t, "turned", impl.Unseal(string(turned)), impl.TextOut{Code: impl.ErrSum})
			}
		}
	}
	longest := impl.Seal(filled(impl.MaxBytes - 4))
	for at := 0; at < len(longest); at += 777 {
		turned := []byte(longest)
		turned[at]++
		same(t, "turned in the longest", impl.Unseal(string(turned)), impl.TextOut{Code: impl.ErrSum})
	}
}

func TestUnsealFaults(t *testing.T) {
	sealed := impl.Seal("ab")
	for _, c := range []struct {
		what string
		text string
		want int64
	}{
		{"none", "", impl.ErrShort},
		{"three bytes", "\x00\x00\x00", impl.ErrShort},
		{"four that are no seal", "\x00\x00\x00\x01", impl.ErrSum},
		{"the last byte lacks", sealed[:5], impl.ErrSum},
		{"the first byte lacks", sealed[1:], impl.ErrSum},
		{"one byte more", sealed + "\x00", impl.ErrSum},
		{"the highest byte first", "123456789\xcb\xf4\x39\x26", impl.ErrSum},
		{"MaxBytes that are no seal", filled(impl.MaxBytes), impl.ErrSum},
		{"too long", tooLong, impl.ErrSize},
		{"a seal of too much", tooLong + "\x00\x00\x00\x00", impl.ErrSize},
	} {
		same(t, c.what, impl.Unseal(c.text), impl.TextOut{Code: c.want})
	}
}

func TestNothingIsKept(t *testing.T) {
	before := impl.Crc("ab")
	sealed := impl.Seal("ab")
	impl.CrcMore(7, "other")
	impl.Seal("other")
	impl.Unseal(sealed + "x")
	impl.GetText("\x04xy", 0)
	same(t, "Crc", impl.Crc("ab"), before)
	same(t, "Seal", impl.Seal("ab"), sealed)
	same(t, "Unseal", impl.Unseal(sealed), impl.TextOut{Text: "ab"})
}
