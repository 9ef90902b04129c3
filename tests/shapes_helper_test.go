package tests

import (
	"math/rand"
	"slices"
	"strings"
	"testing"
	"unsafe"

	"loop.example/g00848/impl"
)

var (
	flag = impl.Shape{Kind: impl.ShFlag}
	num  = impl.Shape{Kind: impl.ShNum}
	text = impl.Shape{Kind: impl.ShText}
)

func pick(syms ...string) impl.Shape {
	return impl.Shape{Kind: impl.ShPick, Syms: syms}
}

func maybe(one impl.Shape) impl.Shape {
	return impl.Shape{Kind: impl.ShMaybe, Shapes: []impl.Shape{one}}
}

func list(one impl.Shape) impl.Shape {
	return impl.Shape{Kind: impl.ShList, Shapes: []impl.Shape{one}}
}

// rec has as many of the names a, b, c .. as there are shapes.
func rec(shapes ...impl.Shape) impl.Shape {
	s := impl.Shape{Kind: impl.ShRec, Shapes: shapes}
	for i := range shapes {
		s.Names = append(s.Names, letter(i))
	}
	return s
}

func letter(i int) string {
	return string(rune('a' + i))
}

// lists is that many lists around a number.
func lists(n int) impl.Shape {
	s := num
	for range n {
		s = list(s)
	}
	return s
}

// wide is a record of MaxFields records, and so on, of that many levels.
func wide(levels int) impl.Shape {
	if levels == 1 {
		return num
	}
	parts := make([]impl.Shape, impl.MaxFields)
	for i := range parts {
		parts[i] = wide(levels - 1)
	}
	return rec(parts...)
}

// ring is a list of itself.
func ring(kind int64) impl.Shape {
	s := []impl.Shape{{Kind: kind}}
	s[0].Shapes = s
	return s[0]
}

// sized is a right shape whose text has that many bytes, of 4800 to 13000.
func sized(size int) impl.Shape {
	s := rec(wide(3), wide(3), wide(3), wide(3), wide(3), wide(3))
	leaves := []*impl.Shape{}
	for i := range s.Shapes {
		for j := range s.Shapes[i].Shapes {
			for k := range s.Shapes[i].Shapes[j].Shapes {
				leaf := &s.Shapes[i].Shapes[j].Shapes[k]
				*leaf = pick("a", "b", "c", "d", "e", "f")
				leaves = append(leaves, leaf)
			}
		}
	}
	more := size - len(written(s))
	for _, leaf := range leaves {
		for i := range leaf.Syms {
			longer := min(more, 7)
			leaf.Syms[i] = times(leaf.Syms[i], 1+longer)
			more -= longer
		}
	}
	return s
}

// putAround is a shape alone, and in others.
func putAround(s impl.Shape) map[string]impl.Shape {
	return map[string]impl.Shape{"": s, "in a list: ": list(s), "in a maybe: ": maybe(s), "in a record: ": rec(num, s), "far in: ": rec(num, list(maybe(rec(s))))}
}

// written is the text of a right shape, put together beside the program.
func written(s impl.Shape) string {
	switch s.Kind {
	case impl.ShFlag:
		return "flag"
	case impl.ShNum:
		return "num"
	case impl.ShText:
		return "text"
	case impl.ShPick:
		return "pick(" + strings.Join(s.Syms, ",") + ")"
	case impl.ShMaybe:
		return "maybe(" + written(s.Shapes[0]) + ")"
	case impl.ShList:
		return "list(" + written(s.Shapes[0]) + ")"
	}
	fields := []string{}
	for i, name := range s.Names {
		fields = append(fields, name+":"+written(s.Shapes[i]))
	}
	return "rec(" + strings.Join(fields, ",") + ")"
}

// alike holds all fields against each other beside the program; an empty list and none are the same.
func alike(a impl.Shape, b impl.Shape) bool {
	return a.Kind == b.Kind && slices.Equal(a.Syms, b.Syms) && slices.Equal(a.Names, b.Names) && slices.EqualFunc(a.Shapes, b.Shapes, alike)
}

// copied shares no memory with what it is of.
func copied(s impl.Shape) impl.Shape {
	out := impl.Shape{Kind: s.Kind, Syms: slices.Clone(s.Syms), Names: slices.Clone(s.Names)}
	for _, part := range s.Shapes {
		out.Shapes = append(out.Shapes, copied(part))
	}
	return out
}

func sameShapeOut(t *testing.T, what string, got impl.ShapeOut, want impl.ShapeOut) {
	t.Helper()
	if got.Code != want.Code || !alike(got.Shape, want.Shape) {
		t.Errorf("%s: got %s, want %s", what, shown(got), shown(want))
	}
}

func someWords(r *rand.Rand, most int) []string {
	out := []string{}
	for range r.Intn(most + 1) {
		word := ""
		for range 1 + r.Intn(8) {
			word += letter(r.Intn(26))
		}
		if !slices.Contains(out, word) {
			out = append(out, word)
		}
	}
	return out
}

// someShape is any right shape of at most that many levels.
func someShape(r *rand.Rand, levels int) impl.Shape {
	kind := 1 + r.Intn(7)
	if levels == 1 {
		kind = 1 + r.Intn(4)
	}
	switch kind {
	case impl.ShPick:
		syms := someWords(r, impl.MaxFields)
		if len(syms) == 0 {
			return pick("z")
		}
		return pick(syms...)
	case impl.ShMaybe:
		return maybe(someShape(r, levels-1))
	case impl.ShList:
		return list(someShape(r, levels-1))
	case impl.ShRec:
		s := impl.Shape{Kind: impl.ShRec, Names: someWords(r, impl.MaxFields)}
		for range s.Names {
			s.Shapes = append(s.Shapes, someShape(r, levels-1))
		}
		return s
	}
	return impl.Shape{Kind: int64(kind)}
}

// stretch is where in memory a list or a text lies, with what a list could grow into.
type stretch struct {
	what string
	from uintptr
	to   uintptr
}

func stretchOf[T any](what string, l []T) stretch {
	from := uintptr(unsafe.Pointer(unsafe.SliceData(l)))
	var one T
	return stretch{what: what, from: from, to: from + uintptr(cap(l))*unsafe.Sizeof(one)}
}

// listsOf is where all lists of a shape lie.
func listsOf(s impl.Shape, what string) []stretch {
	out := []stretch{stretchOf(what+".Syms", s.Syms), stretchOf(what+".Names", s.Names), stretchOf(what+".Shapes", s.Shapes)}
	for i, part := range s.Shapes {
		out = append(out, listsOf(part, what+"/"+letter(i))...)
	}
	return out
}

// wordsOf is all texts of a shape.
func wordsOf(s impl.Shape) []string {
	out := slices.Concat(s.Syms, s.Names)
	for _, part := range s.Shapes {
		out = append(out, wordsOf(part)...)
	}
	return out
}

// apartAll fails if two of them have a byte in common.
func apartAll(t *testing.T, all []stretch) {
	t.Helper()
	for i, a := range all {
		for _, b := range all[:i] {
			if a.from < b.to && b.from < a.to {
				t.Errorf("%s and %s share memory", a.what, b.what)
			}
		}
	}
}
