package tests

import (
	"fmt"
	"math/rand"
	"slices"
	"testing"

	"loop.example/g00848/impl"
)

// diffApart holds the memory of what lies between two shapes against these, and each edit's against the others'.
func diffApart(t *testing.T, a impl.Shape, b impl.Shape) {
	t.Helper()
	l := impl.DiffOf(a, b)
	all := []stretch{stretchOf("DiffOf", l)}
	parts := [][]string{}
	for i, e := range l {
		all = append(all, editStretches(e, fmt.Sprint("edit ", i))...)
		parts = append(parts, editTexts(e))
	}
	handed := append(listsOf(a, "a"), listsOf(b, "b")...)
	answerApart(t, written(a)+" to "+written(b), all, parts, handed, append(wordsOf(a), wordsOf(b)...))
}

func TestDiffsAreNewMemory(t *testing.T) {
	random := rand.New(rand.NewSource(70))
	done := map[int64]int{}
	for range 2000 {
		a, b := someUnlike(random)
		if impl.NodesOf(a)+impl.NodesOf(b) > 60 {
			continue
		}
		for _, e := range impl.DiffOf(a, b) {
			done[e.Kind]++
		}
		diffApart(t, a, b)
	}
	for kind := int64(impl.EdAdd); kind <= impl.EdSet; kind++ {
		same(t, fmt.Sprint("enough are of ", kind, ": ", done[kind]), kind == impl.EdName || done[kind] > 20, true)
	}
}

// TestPathsOfDiffsAreEachTheirOwn: many edits at one place, and at places that begin alike.
func TestPathsOfDiffsAreEachTheirOwn(t *testing.T) {
	for _, c := range [][2]string{
		{"pick(a,b,c)", "pick(a,d,e)"},
		{"rec(a:num,b:text)", "rec(c:num,d:text)"},
		{"list(maybe(rec(a:num,b:pick(x,y),c:num)))", "list(maybe(rec(a:text,b:pick(x,z),c:flag)))"},
		{"rec(a:rec(a:rec(a:num,b:num),b:rec(a:num,b:num)))", "rec(a:rec(a:rec(a:text,b:text),b:rec(a:text,b:text)))"},
		{"rec(a:rec(a:rec(a:pick(x,y),b:pick(x,y))))", "rec(a:rec(a:rec(a:pick(x,z),b:pick(x,z))))"},
		{"rec(a:list(num),b:list(num),c:list(num))", "rec(a:list(text),b:list(maybe(num)),c:list(list(text)))"},
	} {
		a, b := readShape(t, c[0]), readShape(t, c[1])
		differsAsBeside(t, a, b)
		diffApart(t, a, b)
		l := impl.DiffOf(a, b)
		for i := range l {
			others := editsCopied(l)
			for at := range l[i].Path {
				l[i].Path[at] = "changed"
			}
			_ = append(l[i].Path, "changed")
			others[i].Path = slices.Clone(l[i].Path)
			sameEdits(t, "the others, as they were", l, others)
		}
	}
}

// TestOneListInManyPlacesOfBoth: one list in two places of what is handed in is two lists in what is answered.
func TestOneListInManyPlacesOfBoth(t *testing.T) {
	part := recOf("ab", pick("x", "y"), list(text))
	other := impl.Shape{Kind: impl.ShRec, Names: part.Names, Shapes: []impl.Shape{list(text), part.Shapes[0]}}
	words := []string{"a", "b"}
	both := impl.Shape{Kind: impl.ShRec, Names: words, Shapes: []impl.Shape{pick(words...), pick(words...)}}
	for _, c := range [][2]impl.Shape{
		{rec(), rec(part, part)},
		{rec(part, part), rec()},
		{rec(part, part), rec(other, other)},
		{part, rec(part, part)},
		{rec(num, num, text), rec(part, part, part)},
		{rec(num, part, part), rec(part, num, maybe(part))},
		{both, pick(words...)},
		{both, rec(num, num)},
		{num, both},
		{rec(), both},
		{both, recOf("ba", pick(words...), pick(words...))},
		{rec(list(part), list(part)), rec(list(part), part)},
	} {
		differsAsBeside(t, c[0], c[1])
		diffApart(t, c[0], c[1])
		diffApart(t, c[1], c[0])
	}
}

func TestDiffsChangeNothing(t *testing.T) {
	random := rand.New(rand.NewSource(71))
	for range 2000 {
		a, b := someUnlike(random)
		l := []impl.Edit{someEdit(random, a), someEdit(random, b), someEdit(random, a)}
		aBefore, bBefore, lBefore := copied(a), copied(b), editsCopied(l)
		impl.DiffOf(a, b)
		impl.DiffOf(b, a)
		impl.Cost(l)
		impl.EditSame(l[0], l[1])
		impl.EditSame(l[0], l[2])
		same(t, "a as it was", alike(a, aBefore), true)
		same(t, "b as it was", alike(b, bBefore), true)
		sameEdits(t, "the edits as they were", l, lBefore)
	}
}

// TestNothingIsPutBehindWhatDiffers: a list that is handed in may have room behind its end, which is not the program's.
func TestNothingIsPutBehindWhatDiffers(t *testing.T) {
	const behind = "behind"
	syms, names := []string{"x", "y", behind, behind}, []string{"a", "b", behind, behind}
	shapes := []impl.Shape{{Kind: impl.ShPick, Syms: syms[:2]}, text, {Names: []string{behind}}, {Names: []string{behind}}}
	s := impl.Shape{Kind: impl.ShRec, Names: names[:2], Shapes: shapes[:2]}
	for _, other := range []impl.Shape{rec(), rec(pick("x"), text, num), recOf("cab", pick("z"), pick("x", "y", "z"), list(text)), recOf("ba", text, pick("x", "y")), num, maybe(s), list(s)} {
		differsAsBeside(t, s, other)
		differsAsBeside(t, other, s)
	}
	samePath(t, "syms", syms, []string{"x", "y", behind, behind})
	samePath(t, "names", names, []string{"a", "b", behind, behind})
	for _, one := range shapes[2:] {
		same(t, "shapes", alike(one, impl.Shape{Names: []string{behind}}), true)
	}
	l := append(wrapped(2), nameOf("", "behind", "behind"))
	same(t, "Cost", impl.Cost(l[:2]), 1)
	sameEdit(t, "behind the edits", l[2], nameOf("", "behind", "behind"))
}

// TestEmptyListsOfDiffsAreNotHandedOn: a list of none may have room, which is not the answer's.
func TestEmptyListsOfDiffsAreNotHandedOn(t *testing.T) {
	room := func(s impl.Shape) impl.Shape {
		return impl.Shape{Kind: s.Kind, Syms: slices.Grow(s.Syms, 5), Names: slices.Grow(s.Names, 5), Shapes: slices.Grow(s.Shapes, 5)}
	}
	for _, x := range kinds() {
		for _, y := range kinds() {
			a, b := room(copied(x.shape)), room(copied(y.shape))
			differsAsBeside(t, a, b)
			diffApart(t, a, b)
			diffApart(t, room(rec(a)), room(rec(b)))
			diffApart(t, room(rec(a)), room(recOf("b", b)))
		}
	}
}

// TestDiffsAreNotKept: what is changed between two calls is asked as it is then, and who changes an answer changes neither
// another one nor what was handed in.
func TestDiffsAreNotKept(t *testing.T) {
	a, b := rec(pick("x", "y"), num), recOf("cab", list(pick("z")), pick("x", "z"), list(text))
	want := "unsym /a 1 y; sym /a 1 z; set /b list(text) num"
	first := impl.DiffOf(a, b)
	same(t, "the first answer", editsWritten(first), "add / 0 c list(pick(z)); "+want)
	first[0].Shape.Shapes[0].Syms[0], first[0].Name = "changed", "changed"
	first[1].Path[0] = "changed"
	first[3].Shape.Shapes[0] = flag
	clear(first)
	same(t, "another answer", editsWritten(impl.DiffOf(a, b)), "add / 0 c list(pick(z)); "+want)
	b.Names[0] = "d"
	same(t, "another name", editsWritten(impl.DiffOf(a, b)), "add / 0 d list(pick(z)); "+want)
	b.Shapes[0] = flag
	same(t, "another part", editsWritten(impl.DiffOf(a, b)), "add / 0 d flag; "+want)
	a.Names[0] = "A"
	sameEdits(t, "a wrong name", impl.DiffOf(a, b), nil)
	l := impl.DiffOf(rec(num), rec(text))
	same(t, "Cost", impl.Cost(l), 1)
	same(t, "EditSame", impl.EditSame(l[0], setOf("a", text, num)), true)
	l[0].Was = impl.Shape{}
	same(t, "Cost of what is wrong now", impl.Cost(l), -1)
	same(t, "EditSame of what is another now", impl.EditSame(l[0], setOf("a", text, num)), false)
}
