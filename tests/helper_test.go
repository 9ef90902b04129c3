package tests

import (
	"fmt"
	"strings"
	"testing"
	"unsafe"

	"loop.example/g00848/impl"
)

func same[T comparable](t *testing.T, what string, got T, want T) {
	t.Helper()
	if got != want {
		t.Errorf("%s: got %s, want %s", what, shown(got), shown(want))
	}
}

// shown quotes what bytes there are, and cuts off what would hide the other failures.
func shown(v any) string {
	const most = 200
	s := fmt.Sprintf("%#v", v)
	if len(s) > most {
		return s[:most] + ".."
	}
	return s
}

// filled is a text of that many bytes that is not the same byte all along, so that a shifted one differs.
func filled(size int) string {
	out := make([]byte, size)
	for i := range out {
		out[i] = byte(i*7 + i>>8)
	}
	return string(out)
}

// apart fails if the answer lies within the memory of what was handed in.
func apart(t *testing.T, what string, answer string, handed string) {
	t.Helper()
	a := uintptr(unsafe.Pointer(unsafe.StringData(answer)))
	h := uintptr(unsafe.Pointer(unsafe.StringData(handed)))
	if len(answer) > 0 && a >= h && a < h+uintptr(len(handed)) {
		t.Errorf("%s: the answer shares memory with what was handed in", what)
	}
}

func times(b string, n int) string {
	return strings.Repeat(b, n)
}

var tooLong = filled(impl.MaxBytes + 1)
