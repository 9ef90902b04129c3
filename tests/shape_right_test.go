package tests

import (
	"math"
	"math/rand"
	"reflect"
	"testing"

	"loop.example/g00848/impl"
)

func TestWordRight(t *testing.T) {
	for _, right := range []string{"a", "z", "m", "red", "abcdefgh", "zzzzzzzz", "flag", "rec"} {
		same(t, right, impl.WordRight(right), true)
	}
	for _, wrong := range []string{"", "abcdefghi", "A", "aB", "a1", "1", "a_", "_", "a-b", "a b", " a", "a ", "a\n", "a\x00", "ä", "a\xe4", "*", times("a", impl.MaxBytes), times("a", impl.MaxBytes+1)} {
		same(t, wrong, impl.WordRight(wrong), false)
	}
	for b := range 256 {
		small := b >= 'a' && b <= 'z'
		one := string([]byte{byte(b)})
		same(t, "alone "+one, impl.WordRight(one), small)
		same(t, "behind "+one, impl.WordRight("x"+one), small)
		same(t, "last "+one, impl.WordRight("abcdefg"+one), small)
	}
}

type sizes struct {
	right bool
	deep  int64
	nodes int64
}

func sizesOf(s impl.Shape) sizes {
	return sizes{impl.ShapeRight(s), impl.DeepOf(s), impl.NodesOf(s)}
}

func TestRightShapes(t *testing.T) {
	for _, c := range []struct {
		shape impl.Shape
		deep  int64
		nodes int64
	}{
		{flag, 1, 1},
		{num, 1, 1},
		{text, 1, 1},
		{pick("a"), 1, 1},
		{pick("a", "b", "c", "d", "e", "f"), 1, 1},
		{pick("abcdefgh", "abcdefg"), 1, 1},
		{maybe(flag), 2, 2},
		{list(text), 2, 2},
		{rec(), 1, 1},
		{rec(num), 2, 2},
		{rec(rec(), rec()), 2, 3},
		{rec(num, num, num, num, num, num), 2, 7},
		{impl.Shape{Kind: impl.ShRec, Names: []string{"abcdefgh"}, Shapes: []impl.Shape{num}}, 2, 2},
		{rec(num, list(maybe(text))), 4, 5},
		{rec(list(list(num)), num), 4, 5},
		{rec(num, list(num), num), 3, 5},
		{rec(maybe(pick("a")), list(pick("a"))), 3, 5},
		{lists(impl.MaxDeep - 1), 5, 5},
		{rec(rec(rec(rec(rec())))), 5, 5},
		{wide(impl.MaxDeep), 5, 1555},
		{impl.Shape{Kind: impl.ShNum, Syms: []string{}, Names: []string{}, Shapes: []impl.Shape{}}, 1, 1},
		{impl.Shape{Kind: impl.ShPick, Syms: []string{"a"}, Names: []string{}, Shapes: []impl.Shape{}}, 1, 1},
		{impl.Shape{Kind: impl.ShRec, Syms: []string{}, Names: []string{}}, 1, 1},
	} {
		same(t, written(c.shape), sizesOf(c.shape), sizes{true, c.deep, c.nodes})
	}
}

// wrongShapes are not right by what stands in their own fields, or by how deep they are.
func wrongShapes() map[string]impl.Shape {
	words := []string{"a"}
	one := []impl.Shape{num}
	two := []impl.Shape{num, num}
	seven := []string{"a", "b", "c", "d", "e", "f", "g"}
	out := map[string]impl.Shape{
		"zero":                       {},
		"kind 8":                     {Kind: 8},
		"kind -1":                    {Kind: -1},
		"the least kind":             {Kind: math.MinInt64},
		"the greatest kind":          {Kind: math.MaxInt64},
		"kind 1 beyond 32 bits":      {Kind: 1<<32 + 1},
		"no kind, with Syms":         {Syms: words},
		"pick of none":               pick(),
		"pick of seven":              pick(seven...),
		"pick of two alike":          pick("a", "b", "a"),
		"pick of two alike, last":    pick("a", "b", "c", "d", "e", "e"),
		"pick of an empty word":      pick("a", ""),
		"pick of nine letters":       pick("abcdefghi"),
		"pick of a digit":            pick("a1"),
		"pick with names":            {Kind: impl.ShPick, Syms: words, Names: words},
		"pick with shapes":           {Kind: impl.ShPick, Syms: words, Shapes: one},
		"pick by names":              {Kind: impl.ShPick, Names: words},
		"rec of seven":               rec(num, num, num, num, num, num, num),
		"rec of two alike":           {Kind: impl.ShRec, Names: []string{"a", "a"}, Shapes: two},
		"rec of an empty name":       {Kind: impl.ShRec, Names: []string{""}, Shapes: one},
		"rec of nine letters":        {Kind: impl.ShRec, Names: []string{"abcdefghi"}, Shapes: one},
		"rec of a name, not a word":  {Kind: impl.ShRec, Names: []string{"a_9"}, Shapes: one},
		"rec of a star":              {Kind: impl.ShRec, Names: []string{"*"}, Shapes: one},
		"rec of fewer shapes":        {Kind: impl.ShRec, Names: []string{"a", "b"}, Shapes: one},
		"rec of more shapes":         {Kind: impl.ShRec, Names: words, Shapes: two},
		"rec of names, no shapes":    {Kind: impl.ShRec, Names: words},
		"rec of shapes, no names":    {Kind: impl.ShRec, Shapes: one},
		"rec with syms":              {Kind: impl.ShRec, Syms: words, Names: words, Shapes: one},
		"rec of none, with syms":     {Kind: impl.ShRec, Syms: words},
		"one deeper than MaxDeep":    lists(impl.MaxDeep),
		"records one deeper":         wide(impl.MaxDeep + 1),
		"empty records one deeper":   rec(rec(rec(rec(rec(rec()))))),
		"much deeper":                lists(1000),
		"deeper in the last field":   rec(num, num, lists(impl.MaxDeep-1)),
		"a maybe one deeper":         maybe(maybe(maybe(maybe(maybe(flag))))),
		"a list of itself":           ring(impl.ShList),
		"a maybe of itself":          ring(impl.ShMaybe),
		"a list of a list of itself": list(ring(impl.ShList)),
	}
	for name, kind := range map[string]int64{"flag": impl.ShFlag, "num": impl.ShNum, "text": impl.ShText} {
		out[name+" with syms"] = impl.Shape{Kind: kind, Syms: words}
		out[name+" with names"] = impl.Shape{Kind: kind, Names: words}
		out[name+" with shapes"] = impl.Shape{Kind: kind, Shapes: one}
	}
	for name, kind := range map[string]int64{"maybe": impl.ShMaybe, "list": impl.ShList} {
		out[name+" of none"] = impl.Shape{Kind: kind}
		out[name+" of two"] = impl.Shape{Kind: kind, Shapes: two}
		out[name+" with syms"] = impl.Shape{Kind: kind, Syms: words, Shapes: one}
		out[name+" with names"] = impl.Shape{Kind: kind, Names: words, Shapes: one}
	}
	return out
}

func TestWrongShapes(t *testing.T) {
	for what, s := range wrongShapes() {
		for where, s := range putAround(s) {
			same(t, where+what, sizesOf(s), sizes{})
			same(t, where+what, impl.ShapeText(s), "")
		}
	}
}

func TestShapeSame(t *testing.T) {
	shapes := []impl.Shape{
		flag, num, text, pick("a"), pick("b"), pick("a", "b"), pick("b", "a"), maybe(num), maybe(flag), list(num), list(list(num)),
		rec(), rec(num), rec(text), rec(num, num), rec(num, text), rec(text, num), rec(rec(num)), rec(rec(num), num), list(rec(num)),
		{Kind: impl.ShRec, Names: []string{"b"}, Shapes: []impl.Shape{num}},
		{Kind: impl.ShRec, Names: []string{"b", "a"}, Shapes: []impl.Shape{num, num}},
		lists(4), wide(5), sized(impl.MaxBytes), sized(impl.MaxBytes + 1),
	}
	// All fields are looked at, also where they are not right. Lists within themselves can not be copied: they have a test of their own.
	for what, s := range wrongShapes() {
		if s.Kind != impl.ShList && s.Kind != impl.ShMaybe || what == "list of two" || what == "maybe of none" {
			shapes = append(shapes, s)
		}
	}
	for i, a := range shapes {
		for j, b := range shapes {
			if impl.ShapeSame(a, copied(b)) != (i == j) {
				t.Errorf("%s beside %s: not %t", shown(a), shown(b), i == j)
			}
		}
	}
}

func TestShapeSameOfEmptyLists(t *testing.T) {
	empty := impl.Shape{Kind: impl.ShRec, Syms: []string{}, Names: []string{}, Shapes: []impl.Shape{}}
	same(t, "none, and empty ones", impl.ShapeSame(rec(), empty), true)
	same(t, "empty ones, and none", impl.ShapeSame(list(empty), list(rec())), true)
	same(t, "zero, and itself", impl.ShapeSame(impl.Shape{}, impl.Shape{}), true)
	same(t, "zero, and num", impl.ShapeSame(impl.Shape{}, num), false)
}

// TestShapeSameEnds: of what stands within itself, of what is deep, and of what is much only by standing in many places.
func TestShapeSameEnds(t *testing.T) {
	same(t, "lists of themselves", impl.ShapeSame(ring(impl.ShList), ring(impl.ShList)), true)
	same(t, "a list of itself, and a maybe of itself", impl.ShapeSame(ring(impl.ShList), ring(impl.ShMaybe)), false)
	same(t, "a list of itself, and one of a maybe", impl.ShapeSame(ring(impl.ShList), list(list(ring(impl.ShMaybe)))), false)
	same(t, "a list of itself, and lists", impl.ShapeSame(ring(impl.ShList), lists(1000)), false)
	same(t, "deep ones", impl.ShapeSame(lists(100000), lists(100000)), true)
	same(t, "deep ones, one deeper", impl.ShapeSame(lists(100000), lists(100001)), false)
	a, b, c := num, num, text
	for range 60 {
		a, b, c = rec(a, a), rec(b, b), rec(c, c)
	}
	same(t, "many places", impl.ShapeSame(a, b), true)
	same(t, "many places, one unlike", impl.ShapeSame(a, c), false)
	shared := list(num)
	for what, other := range map[string]impl.Shape{"first": rec(list(text), list(num)), "last": rec(list(num), list(text))} {
		same(t, "one in two places, and another one "+what, impl.ShapeSame(rec(shared, shared), other), false)
		same(t, "the other way round, "+what, impl.ShapeSame(other, rec(shared, shared)), false)
	}
}

func TestShapesAreNotChanged(t *testing.T) {
	r := rand.New(rand.NewSource(3))
	shapes := []impl.Shape{{}, pick("b", "a"), rec(pick("b", "a"), num), rec(rec(rec(rec(rec(rec()))))), pick("a", "a")}
	for range 100 {
		shapes = append(shapes, someShape(r, impl.MaxDeep))
	}
	for _, s := range shapes {
		before := copied(s)
		impl.ShapeRight(s)
		impl.ShapeSame(s, s)
		impl.ShapeSame(s, rec(s))
		impl.DeepOf(s)
		impl.NodesOf(s)
		impl.ShapeText(s)
		same(t, "as it was", alike(s, before), true)
	}
}

// TestNothingIsPutBehind: a list that is handed in may have room behind its end, which is not the program's.
func TestNothingIsPutBehind(t *testing.T) {
	syms := []string{"a", "b", "behind"}
	names := []string{"a", "b", "behind"}
	shapes := []impl.Shape{pick(syms[:2]...), num, text}
	s := impl.Shape{Kind: impl.ShRec, Names: names[:2], Shapes: shapes[:2]}
	impl.ShapeSame(s, copied(s))
	same(t, "sizes", sizesOf(s), sizes{true, 2, 3})
	same(t, "text", impl.ShapeText(s), "rec(a:pick(a,b),b:num)")
	same(t, "syms", reflect.DeepEqual(syms, []string{"a", "b", "behind"}), true)
	same(t, "names", reflect.DeepEqual(names, []string{"a", "b", "behind"}), true)
	same(t, "shapes", reflect.DeepEqual(shapes[2], text), true)
}
