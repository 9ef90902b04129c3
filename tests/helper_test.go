package tests

import (
	"fmt"
	"strings"
	"testing"
	"unsafe"

	"loop.example/g00848/impl"
)

func same[T comparable](t *testing.T, what string, got T, want T) {
	t.Helper()
	if got != want {
		t.Errorf("%s: got %s, want %s", what, shown(got), shown(want))
	}
}

// shown quotes what bytes there are, and cuts off what would hide the other failures.
func shown(v any) string {
	const most = 200
	s := fmt.Sprintf("%#v", v)
	if len(s) > most {
		return s[:most] + ".."
	}
	return s
}

// filled is a text of that many bytes that is not the same byte all along, so that a shifted one differs.
func filled(size int) string {
	out := make([]byte, size)
	for i := range out {
		out[i] = byte(i*7 + i>>8)
	}
	return string(out)
}

// apart fails if the answer lies within the memory of what was handed in.
func apart(t *testing.T, what string, answer string, handed string) {
	t.Helper()
	a := uintptr(unsafe.Pointer(unsafe.StringData(answer)))
	h := uintptr(unsafe.Pointer(unsafe.StringData(handed)))
	if len(answer) > 0 && a >= h && a < h+uintptr(len(handed)) {
		t.Errorf("%s: the answer shares memory with what was handed in", what)
	}
}

func times(b string, n int) string {
	return strings.Repeat(b, n)
}

// putTogether is whatever can be put together of 1 to most pieces.
func putTogether(pieces []string, most int) []string {
	out := []string{}
	last := []string{""}
	for range most {
		next := []string{}
		for _, text := range last {
			for _, piece := range pieces {
				next = append(next, text+piece)
			}
		}
		last = next
		out = append(out, last...)
	}
	return out
}

// turned is what comes of a text where it begins later or ends earlier, or where one byte is another one of these, goes, or comes.
func turned(text string, bytes string) []string {
	out := []string{}
	for at := range len(text) {
		ahead, behind := text[:at], text[at+1:]
		out = append(out, ahead, behind, ahead+behind)
		for i := range len(bytes) {
			out = append(out, ahead+bytes[i:i+1]+behind, ahead+bytes[i:i+1]+text[at:])
		}
	}
	return out
}

var tooLong = filled(impl.MaxBytes + 1)
