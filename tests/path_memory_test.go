package tests

import (
	"math/rand"
	"reflect"
	"slices"
	"testing"

	"loop.example/g00848/impl"
)

// shapeApart fails if an answer has memory of what was handed in, or the same memory in two places.
func shapeApart(t *testing.T, what string, answer impl.Shape, p []string, handed ...impl.Shape) {
	t.Helper()
	all := append(listsOf(answer, what), stretchOf("the path", p))
	words := slices.Clone(p)
	for _, s := range handed {
		// What is handed in may have one list in two places, but the answer may have none of it.
		for _, other := range listsOf(s, "handed in") {
			apartAll(t, append(slices.Clone(all), other))
		}
		words = append(words, wordsOf(s)...)
	}
	wordsApart(t, what, wordsOf(answer), words)
}

func wordsApart(t *testing.T, what string, answer []string, handed []string) {
	t.Helper()
	for _, word := range answer {
		for _, other := range handed {
			apart(t, what, word, other)
		}
	}
}

func TestPartsAreNewMemory(t *testing.T) {
	random := rand.New(rand.NewSource(33))
	swapped := 0
	for range 400 {
		s, part := someShape(random, impl.MaxDeep), someShape(random, 2)
		if impl.NodesOf(s) > 40 {
			continue
		}
		for _, p := range [][]string{nil, somePath(random, s), somePath(random, s)} {
			shapeApart(t, "PartAt", impl.PartAt(s, p).Shape, p, s)
			got := impl.Swap(s, p, part)
			shapeApart(t, "Swap", got.Shape, p, s, part)
			if got.Code == impl.OK {
				swapped++
			}
		}
	}
	same(t, "enough are swapped", swapped > 300, true)
}

// pathsApart fails if the answer has memory of what was handed in, or the same memory in two places.
func pathsApart(t *testing.T, what string, paths [][]string, s impl.Shape) {
	t.Helper()
	apartAll(t, append(pathStretches(paths, what), listsOf(s, "handed in")...))
	wordsApart(t, what, slices.Concat(paths...), wordsOf(s))
	for i, p := range paths {
		wordsApart(t, what+", one path beside others", p, slices.Concat(paths[:i]...))
	}
}

func TestPathsAreNewMemory(t *testing.T) {
	random := rand.New(rand.NewSource(34))
	for range 200 {
		s := someShape(random, impl.MaxDeep)
		if impl.NodesOf(s) < 40 {
			pathsApart(t, "PathsOf", impl.PathsOf(s), s)
		}
	}
	pathsApart(t, "PathsOf", impl.PathsOf(wide(3)), wide(3))
	for _, text := range []string{"/a", "/*", "/abcdefgh/*/b", "/abcdefgh/bcdefghi/cdefghij/defghijk/efghijkl"} {
		p := impl.PathRead(text)
		wordsApart(t, "PathRead", p, []string{text})
		wordsApart(t, "PathText", []string{impl.PathText(p)}, p)
	}
}

// TestPathsStandAlone: whoever changes one path, or puts something behind it, changes no other one.
func TestPathsStandAlone(t *testing.T) {
	s := rec(list(maybe(num)), rec(num, text), list(num))
	want := impl.PathsOf(s)
	got := impl.PathsOf(s)
	for i, p := range got {
		_ = append(p, "behind")
		_ = append(p[:0], "z", "z", "z")
		for j := i + 1; j < len(got); j++ {
			samePath(t, "one behind it", got[j], want[j])
		}
	}
	samePaths(t, "another answer", impl.PathsOf(s), want)
	for i := range want {
		clear(impl.PathRead("/a/b"))
		clear(got[i])
	}
	samePath(t, "another answer", impl.PathRead("/a/b"), path("ab"))
	samePaths(t, "another answer, again", impl.PathsOf(s), want)
}

// TestEmptyShapeListsAreNotHandedOn: a list of none may have room, which is not the answer's.
func TestEmptyShapeListsAreNotHandedOn(t *testing.T) {
	for kind := int64(impl.ShFlag); kind <= impl.ShRec; kind++ {
		s := impl.Shape{Kind: kind, Syms: make([]string, 0, 5), Names: make([]string, 0, 5), Shapes: make([]impl.Shape, 0, 5)}
		switch kind {
		case impl.ShPick:
			s.Syms = append(s.Syms, "a")
		case impl.ShMaybe, impl.ShList:
			s.Shapes = append(s.Shapes, num)
		}
		for _, p := range [][]string{nil, make([]string, 0, 5)} {
			shapeApart(t, "PartAt", impl.PartAt(s, p).Shape, p, s)
			shapeApart(t, "Swap, in", impl.Swap(s, p, s).Shape, p, s)
		}
		shapeApart(t, "PartAt", impl.PartAt(list(s), path("*")).Shape, nil, s)
		shapeApart(t, "Swap", impl.Swap(list(num), path("*"), s).Shape, nil, s)
		shapeApart(t, "Swap, beside", impl.Swap(rec(s, num), path("b"), num).Shape, nil, s)
	}
}

// TestOneListInTwoPlaces: only the place that the path leads to is changed, and the answer has two lists.
func TestOneListInTwoPlaces(t *testing.T) {
	names := []string{"a", "b"}
	parts := []impl.Shape{num, pick("a")}
	one := impl.Shape{Kind: impl.ShRec, Names: names, Shapes: parts}
	s := impl.Shape{Kind: impl.ShRec, Names: names, Shapes: []impl.Shape{one, one}}
	for _, c := range []struct {
		path string
		want string
	}{
		{"aa", "rec(a:rec(a:text,b:pick(a)),b:rec(a:num,b:pick(a)))"},
		{"ba", "rec(a:rec(a:num,b:pick(a)),b:rec(a:text,b:pick(a)))"},
		{"b", "rec(a:rec(a:num,b:pick(a)),b:text)"},
	} {
		got := impl.Swap(s, path(c.path), text)
		same(t, c.path, written(got.Shape), c.want)
		shapeApart(t, "Swap", got.Shape, nil, s)
	}
	shapeApart(t, "PartAt", impl.PartAt(s, nil).Shape, nil, s)
	whole := impl.Swap(list(list(num)), path("*"), one)
	shapeApart(t, "Swap", whole.Shape, nil, one)
	itself := impl.Swap(one, path("a"), one)
	same(t, "itself in itself", written(itself.Shape), "rec(a:rec(a:num,b:pick(a)),b:pick(a))")
	shapeApart(t, "itself in itself", itself.Shape, nil, one)
	apartAll(t, listsOf(itself.Shape, "itself in itself"))
}

func TestPathsChangeNothing(t *testing.T) {
	random := rand.New(rand.NewSource(35))
	for range 500 {
		s, part := someShape(random, impl.MaxDeep), someShape(random, 3)
		p := somePath(random, s)
		sBefore, partBefore, pBefore := copied(s), copied(part), slices.Clone(p)
		impl.PathRight(p)
		impl.PathText(p)
		impl.PartAt(s, p)
		impl.Swap(s, p, part)
		impl.Swap(part, p, s)
		impl.PathsOf(s)
		same(t, "the shape as it was", alike(s, sBefore), true)
		same(t, "the part as it was", alike(part, partBefore), true)
		samePath(t, "the path as it was", p, pBefore)
	}
}

// TestNothingIsPutBehindParts: a list that is handed in may have room behind its end, which is not the program's.
func TestNothingIsPutBehindParts(t *testing.T) {
	steps := []string{"b", "*", "behind"}
	names := []string{"a", "b", "behind"}
	shapes := []impl.Shape{pick("a"), list(num), text}
	s := impl.Shape{Kind: impl.ShRec, Names: names[:2], Shapes: shapes[:2]}
	samePartOut(t, "PartAt", impl.PartAt(s, steps[:2]), impl.PartOut{Shape: num})
	sameShapeOut(t, "Swap", impl.Swap(s, steps[:2], flag), impl.ShapeOut{Shape: rec(pick("a"), list(flag))})
	sameShapeOut(t, "Swap, one step", impl.Swap(s, steps[:1], flag), impl.ShapeOut{Shape: rec(pick("a"), flag)})
	samePaths(t, "PathsOf", impl.PathsOf(s), [][]string{{}, {"a"}, {"b"}, {"b", "*"}})
	same(t, "PathText", impl.PathText(steps[:2]), "/b/*")
	samePath(t, "steps", steps, []string{"b", "*", "behind"})
	samePath(t, "names", names, []string{"a", "b", "behind"})
	same(t, "shapes", reflect.DeepEqual(shapes, []impl.Shape{pick("a"), list(num), text}), true)
}

// TestPartsAreNotKept: a shape that is changed between two calls is gone into as it is then, and who changes an answer
// changes neither another one nor what was handed in.
func TestPartsAreNotKept(t *testing.T) {
	s, p := rec(list(pick("red")), num), path("a*")
	first := impl.PartAt(s, p)
	first.Shape.Syms[0] = "blue"
	samePartOut(t, "another answer", impl.PartAt(s, p), impl.PartOut{Shape: pick("red")})
	swapped := impl.Swap(s, path("b"), pick("red"))
	swapped.Shape.Shapes[0].Shapes[0].Syms[0] = "blue"
	swapped.Shape.Shapes[1].Syms[0] = "blue"
	swapped.Shape.Names[0] = "z"
	sameShapeOut(t, "another answer", impl.Swap(s, path("b"), pick("red")), impl.ShapeOut{Shape: rec(list(pick("red")), pick("red"))})
	s.Names[0] = "c"
	samePartOut(t, "another name", impl.PartAt(s, p), impl.PartOut{Code: impl.ErrNone})
	samePaths(t, "another name", impl.PathsOf(s), [][]string{{}, {"c"}, {"c", "*"}, {"b"}})
	s.Shapes[0] = text
	samePartOut(t, "another shape", impl.PartAt(s, path("c")), impl.PartOut{Shape: text})
	samePartOut(t, "another shape", impl.PartAt(s, path("c*")), impl.PartOut{Code: impl.ErrNone})
}
