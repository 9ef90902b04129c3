package impl

import (
	"errors"
	"strconv"
	"strings"
)

// Constants, see chapter 1.
const (
	OK        = 0
	ErrForm   = 1
	ErrSize   = 2
	ErrSyntax = 3
	ErrShort  = 4
	ErrSum    = 5
	ErrNone   = 6
	ErrThere  = 7
	ErrRange  = 8
	ErrFull   = 9
	ErrState  = 10
	MaxBytes  = 8000
	MaxList   = 400
	MaxTime   = 1000000
)

// NumOut is a thing of chapter 2.
type NumOut struct {
	N    int64
	At   int64
	Code int64
}

// TextOut is a thing of chapter 2.
type TextOut struct {
	Text string
	At   int64
	Code int64
}

// byteFault is the error of bytes at which no number and no text stands.
type byteFault struct {
	code int64
}

func (f byteFault) Error() string {
	return "impl: bytes not readable, code " + strconv.FormatInt(f.code, 10)
}

func tooLong(t string) bool {
	return len(t) > MaxBytes
}

// joined copies, so that what is handed out shares no memory with what was handed in.
func joined(a string, b string) string {
	out := make([]byte, len(a)+len(b))
	end := copy(out, a)
	copy(out[end:], b)
	return string(out)
}

// unsigned puts the sign lowest: small numbers stay short on both sides of 0.
func unsigned(n int64) uint64 {
	if n < 0 {
		// -n would overflow at the smallest int64; ^n is -n-1 and never does.
		return uint64(^n)<<1 | 1
	}
	return uint64(n) << 1
}

func signed(u uint64) int64 {
	half := int64(u >> 1)
	if u&1 == 1 {
		return ^half
	}
	return half
}

// PutNum: see chapter 2.
func PutNum(n int64) string {
	var out []byte
	u := unsigned(n)
	for u >= 128 {
		out = append(out, byte(u)|128)
		u >>= 7
	}
	return string(append(out, byte(u)))
}

// readNum tells the number at that place, and the place behind it.
func readNum(text string, at int64) (int64, int64, error) {
	const tenthByte = 63
	var u uint64
	var b byte
	shift := 0
	fault := byteFault{code: ErrShort}
	if at < 0 {
		fault.code = ErrForm
		goto wrong
	}
more:
	if at >= int64(len(text)) {
		goto wrong
	}
	b = text[at]
	at++
	// 63 bits stand in nine bytes: the tenth one has room for one bit, and for no sign that an eleventh follows.
	if shift == tenthByte && b > 1 {
		fault.code = ErrSyntax
		goto wrong
	}
	u |= uint64(b&127) << shift
	if b < 128 {
		goto last
	}
	shift += 7
	goto more
last:
	// A last byte of 0 behind others adds nothing: fewer bytes would have done.
	if b > 0 || shift == 0 {
		return signed(u), at, nil
	}
	fault.code = ErrSyntax
wrong:
	return 0, 0, fault
}

// GetNum: see chapter 2.
func GetNum(text string, at int64) NumOut {
	if tooLong(text) {
		return NumOut{Code: ErrSize}
	}
	n, end, err := readNum(text, at)
	var fault byteFault
	if errors.As(err, &fault) {
		return NumOut{Code: fault.code}
	}
	return NumOut{N: n, At: end}
}

// PutText: see chapter 2.
func PutText(t string) string {
	if tooLong(t) {
		return ""
	}
	return joined(PutNum(int64(len(t))), t)
}

// readText tells the text at that place, and the place behind it.
func readText(text string, at int64) (string, int64, error) {
	size, from, err := readNum(text, at)
	if err != nil {
		return "", 0, err
	}
	if size < 0 || size > MaxBytes {
		return "", 0, byteFault{code: ErrSyntax}
	}
	end := from + size
	if end > int64(len(text)) {
		return "", 0, byteFault{code: ErrShort}
	}
	return strings.Clone(text[from:end]), end, nil
}

// GetText: see chapter 2.
func GetText(text string, at int64) TextOut {
	if tooLong(text) {
		return TextOut{Code: ErrSize}
	}
	t, end, err := readText(text, at)
	var fault byteFault
	if errors.As(err, &fault) {
		return TextOut{Code: fault.code}
	}
	return TextOut{Text: t, At: end}
}

func smallLetter(c byte) bool {
	return c >= 'a' && c <= 'z'
}

func digit(c byte) bool {
	return c >= '0' && c <= '9'
}

func nameByte(c byte) bool {
	return smallLetter(c) || digit(c) || c == '_'
}

// NameRight: see chapter 2.
func NameRight(t string) bool {
	const maxName = 20
	if len(t) == 0 || len(t) > maxName || !smallLetter(t[0]) {
		return false
	}
	for i := range len(t) {
		if !nameByte(t[i]) {
			return false
		}
	}
	return true
}

// Crc: see chapter 2.
func Crc(text string) int64 {
	// The CRC of no bytes is 0: to begin is to go on from it.
	return CrcMore(0, text)
}

// CrcMore: see chapter 2.
func CrcMore(crc int64, text string) int64 {
	const maxCrc = 1<<32 - 1
	if tooLong(text) || crc < 0 || crc > maxCrc {
		return 0
	}
	// A CRC is the register with all bits turned, so turning them back is where the text ahead of this one left off.
	register := ^uint32(crc)
	for i := range len(text) {
		register = crcByte(register, text[i])
	}
	return int64(^register)
}

func crcByte(register uint32, b byte) uint32 {
	const polynomial = 0xEDB88320
	register ^= uint32(b)
	for range 8 {
		low := register & 1
		register >>= 1
		if low == 1 {
			register ^= polynomial
		}
	}
	return register
}

const sumSize = 4

func sumBytes(crc int64) string {
	var out [sumSize]byte
	for i := range out {
		out[i] = byte(crc >> (8 * i))
	}
	return string(out[:])
}

// Seal: see chapter 2.
func Seal(text string) string {
	if len(text) > MaxBytes-sumSize {
		return ""
	}
	return joined(text, sumBytes(Crc(text)))
}

// Unseal: see chapter 2.
func Unseal(text string) TextOut {
	if tooLong(text) {
		return TextOut{Code: ErrSize}
	}
	if len(text) < sumSize {
		return TextOut{Code: ErrShort}
	}
	inner := text[:len(text)-sumSize]
	if Seal(inner) != text {
		return TextOut{Code: ErrSum}
	}
	return TextOut{Text: strings.Clone(inner)}
}
