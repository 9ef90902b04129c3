package tests

import (
	"fmt"
	"math/rand"
	"reflect"
	"slices"
	"testing"

	"loop.example/g00848/impl"
)

// editStretches is where all lists of an edit lie.
func editStretches(e impl.Edit, what string) []stretch {
	return slices.Concat([]stretch{stretchOf(what+".Path", e.Path)}, listsOf(e.Shape, what+".Shape"), listsOf(e.Was, what+".Was"))
}

// editTexts is all texts of an edit.
func editTexts(e impl.Edit) []string {
	return slices.Concat(e.Path, []string{e.Name, e.To}, wordsOf(e.Shape), wordsOf(e.Was))
}

// editedApart fails if a shape has memory of what was handed in, or the same memory in two places.
func editedApart(t *testing.T, what string, answer impl.Shape, s impl.Shape, l []impl.Edit) {
	t.Helper()
	shapeApart(t, what, answer, nil, s)
	for _, e := range l {
		shapeApart(t, what, answer, e.Path, e.Shape, e.Was)
		wordsApart(t, what, wordsOf(answer), editTexts(e))
	}
}

// editsApart fails if edits have memory of what was handed in, or the same memory in two places.
func editsApart(t *testing.T, what string, answer []impl.Edit, l []impl.Edit) {
	t.Helper()
	all := []stretch{stretchOf(what, answer)}
	texts := []string{}
	for i, e := range answer {
		all = append(all, editStretches(e, fmt.Sprint(what, " ", i))...)
		wordsApart(t, what+", one edit beside others", editTexts(e), texts)
		texts = append(texts, editTexts(e)...)
	}
	apartAll(t, all)
	handed := []stretch{stretchOf("handed in", l)}
	for _, e := range l {
		handed = append(handed, editStretches(e, "handed in")...)
		wordsApart(t, what, texts, editTexts(e))
	}
	// What is handed in may have one list in two places, but the answer may have none of it.
	for _, other := range handed {
		apartAll(t, append(slices.Clone(all), other))
	}
}

func TestEditsAreNewMemory(t *testing.T) {
	random := rand.New(rand.NewSource(45))
	done := map[int64]int{}
	for range 10000 {
		s := someShape(random, 1+random.Intn(4))
		e := someEdit(random, s)
		if impl.NodesOf(s)+impl.NodesOf(e.Shape)+impl.NodesOf(e.Was) > 40 {
			continue
		}
		got := impl.EditApply(s, e)
		if got.Code == impl.OK {
			done[e.Kind]++
		}
		l := []impl.Edit{e, impl.EditBack(e), e}
		editedApart(t, "EditApply", got.Shape, s, l[:1])
		editedApart(t, "EditsApply", impl.EditsApply(s, l).Shape, s, l)
		editsApart(t, "EditBack", []impl.Edit{impl.EditBack(e)}, l[:1])
		editsApart(t, "EditsBack", impl.EditsBack(l), l)
		text := impl.EditText(e)
		wordsApart(t, "EditText", []string{text}, editTexts(e))
		read := impl.EditRead(text).Edit
		editsApart(t, "EditRead", []impl.Edit{read}, nil)
		wordsApart(t, "EditRead", editTexts(read), []string{text})
	}
	for kind := int64(impl.EdAdd); kind <= impl.EdSet; kind++ {
		same(t, fmt.Sprint("enough are done of ", kind, ": ", done[kind]), done[kind] > 3, true)
	}
}

func TestNoEditsAreNewMemory(t *testing.T) {
	for _, s := range []impl.Shape{rec(pick("a"), list(rec(num))), pick("a", "b"), wide(3)} {
		for _, l := range [][]impl.Edit{nil, {}} {
			got := impl.EditsApply(s, l)
			sameShapeOut(t, "no edits", got, impl.ShapeOut{Shape: s})
			editedApart(t, "no edits", got.Shape, s, nil)
		}
	}
}

// TestOneListInManyEdits: one list in two places of what is handed in is two lists in what is answered.
func TestOneListInManyEdits(t *testing.T) {
	part := recOf("ab", num, pick("x", "y"))
	s := impl.Shape{Kind: impl.ShRec, Names: part.Names, Shapes: []impl.Shape{part, part}}
	for _, c := range []struct {
		l    []impl.Edit
		want string
	}{
		{[]impl.Edit{nameOf("a", "b", "c")}, "rec(a:rec(a:num,c:pick(x,y)),b:rec(a:num,b:pick(x,y)))"},
		{[]impl.Edit{symOf("bb", 1, "z")}, "rec(a:rec(a:num,b:pick(x,y)),b:rec(a:num,b:pick(x,z,y)))"},
		{[]impl.Edit{dropOf("a", 0, "a", num)}, "rec(a:rec(b:pick(x,y)),b:rec(a:num,b:pick(x,y)))"},
		{[]impl.Edit{bareOf(impl.EdMaybe, "a"), bareOf(impl.EdSure, "a")}, "rec(a:rec(a:num,b:pick(x,y)),b:rec(a:num,b:pick(x,y)))"},
		{[]impl.Edit{addOf("", 0, "c", part), addOf("", 3, "d", part)}, "rec(c:rec(a:num,b:pick(x,y)),a:rec(a:num,b:pick(x,y)),b:rec(a:num,b:pick(x,y)),d:rec(a:num,b:pick(x,y)))"},
		{[]impl.Edit{addOf("", 2, "c", part), setOf("ca", part, num), unsymOf("cab", 1, "y")}, "rec(a:rec(a:num,b:pick(x,y)),b:rec(a:num,b:pick(x,y)),c:rec(a:rec(a:num,b:pick(x)),b:pick(x,y)))"},
		{[]impl.Edit{setOf("a", part, part)}, "rec(a:rec(a:num,b:pick(x,y)),b:rec(a:num,b:pick(x,y)))"},
		{[]impl.Edit{setOf("aa", s, num)}, "rec(a:rec(a:rec(a:rec(a:num,b:pick(x,y)),b:rec(a:num,b:pick(x,y))),b:pick(x,y)),b:rec(a:num,b:pick(x,y)))"},
	} {
		got := impl.EditsApply(s, c.l)
		same(t, editsWritten(c.l), written(got.Shape), c.want)
		editedApart(t, editsWritten(c.l), got.Shape, s, c.l)
	}
	p := []string{"a"}
	twice := impl.Edit{Kind: impl.EdSet, Path: p, Shape: part, Was: part}
	l := []impl.Edit{twice, twice, {Kind: impl.EdMaybe, Path: p}, {Kind: impl.EdName, Path: p, Name: p[0], To: "b"}}
	editsApart(t, "EditsBack", impl.EditsBack(l), l)
	editsApart(t, "EditBack", []impl.Edit{impl.EditBack(twice)}, l)
}

func TestEditsChangeNothing(t *testing.T) {
	random := rand.New(rand.NewSource(46))
	for range 3000 {
		s := someShape(random, 1+random.Intn(4))
		l := []impl.Edit{someEdit(random, s), someEdit(random, s), someEdit(random, s)}
		sBefore, lBefore := copied(s), editsCopied(l)
		for _, e := range l {
			impl.EditRight(e)
			impl.EditApply(s, e)
			impl.EditBack(e)
			impl.EditText(e)
		}
		impl.EditsApply(s, l)
		impl.EditsApply(s, impl.EditsBack(l[:1]))
		impl.EditsBack(l)
		same(t, "the shape as it was", alike(s, sBefore), true)
		sameEdits(t, "the edits as they were", l, lBefore)
	}
}

// TestNothingIsPutBehindEdits: a list that is handed in may have room behind its end, which is not the program's.
func TestNothingIsPutBehindEdits(t *testing.T) {
	const behind = "behind"
	steps := []string{"b", "*", behind}
	names := []string{"a", "b", behind}
	syms := []string{"x", "y", behind}
	shapes := []impl.Shape{pick("a"), list(impl.Shape{Kind: impl.ShPick, Syms: syms[:2]}), text}
	s := impl.Shape{Kind: impl.ShRec, Names: names[:2], Shapes: shapes[:2]}
	edits := []impl.Edit{
		addOf("", 2, "c", num), addOf("", 0, "c", num), dropOf("", 0, "a", pick("a")), nameOf("", "b", "c"), nameOf("", "a", "c"),
		{Kind: impl.EdSym, Path: steps[:2], At: 2, Name: "z"}, {Kind: impl.EdSym, Path: steps[:2], At: 1, Name: "z"}, {Kind: impl.EdUnsym, Path: steps[:2], At: 1, Name: "y"},
		{Kind: impl.EdMaybe, Path: steps[:2]}, {Kind: impl.EdList, Path: steps[:1]}, {Kind: impl.EdOne, Path: steps[:1]}, {Kind: impl.EdSet, Path: steps[:1], Shape: s, Was: s.Shapes[1]},
	}
	for i, e := range edits {
		same(t, editWritten(e), editsAsBeside(t, s, e), impl.OK)
		l := append(slices.Clone(edits[:i+1]), impl.Edit{Name: behind})
		impl.EditsApply(s, l[:i+1])
		impl.EditsBack(l[:i+1])
		same(t, "the edit behind", l[i+1].Name, behind)
	}
	samePath(t, "steps", steps, []string{"b", "*", behind})
	samePath(t, "names", names, []string{"a", "b", behind})
	samePath(t, "syms", syms, []string{"x", "y", behind})
	same(t, "shapes", reflect.DeepEqual(shapes, []impl.Shape{pick("a"), list(pick("x", "y")), text}), true)
}

// TestEmptyListsOfEditsAreNotHandedOn: a list of none may have room, which is not the answer's.
func TestEmptyListsOfEditsAreNotHandedOn(t *testing.T) {
	room := func(s impl.Shape) impl.Shape {
		return impl.Shape{Kind: s.Kind, Syms: slices.Grow(s.Syms, 5), Names: slices.Grow(s.Names, 5), Shapes: slices.Grow(s.Shapes, 5)}
	}
	for _, e := range oneOfEachKind() {
		e.Path, e.Shape, e.Was = make([]string, 0, 5), room(e.Shape), room(e.Was)
		editsApart(t, "EditBack", []impl.Edit{impl.EditBack(e)}, []impl.Edit{e})
		editsApart(t, "EditsBack", impl.EditsBack([]impl.Edit{e, e}), []impl.Edit{e})
		for _, c := range kinds() {
			s := room(copied(c.shape))
			editedApart(t, "EditApply", impl.EditApply(s, e).Shape, s, []impl.Edit{e})
		}
	}
	for _, c := range []struct {
		s impl.Shape
		e impl.Edit
	}{
		{rec(), addOf("", 0, "a", room(num))}, {rec(num), dropOf("", 0, "a", room(num))}, {rec(num), nameOf("", "a", "b")}, {num, setOf("", room(text), room(num))},
		{maybe(room(num)), bareOf(impl.EdSure, "")}, {list(room(num)), bareOf(impl.EdOne, "")}, {pick("a"), symOf("", 1, "b")}, {pick("a", "b"), unsymOf("", 1, "b")},
	} {
		s := room(c.s)
		got := impl.EditApply(s, c.e)
		same(t, editWritten(c.e), got.Code, impl.OK)
		editedApart(t, editWritten(c.e), got.Shape, s, []impl.Edit{c.e})
	}
}

// TestEditsAreNotKept: what is changed between two calls is asked as it is then, and who changes an answer changes neither
// another one nor what was handed in.
func TestEditsAreNotKept(t *testing.T) {
	s, e := rec(pick("red"), num), addOf("", 2, "c", pick("red"))
	first := impl.EditApply(s, e)
	first.Shape.Names[0] = "z"
	first.Shape.Shapes[0].Syms[0] = "blue"
	first.Shape.Shapes[2].Syms[0] = "blue"
	want := impl.ShapeOut{Shape: rec(pick("red"), num, pick("red"))}
	sameShapeOut(t, "another answer", impl.EditApply(s, e), want)
	l := []impl.Edit{e, setOf("c", num, pick("red"))}
	back := impl.EditsBack(l)
	back[0].Path[0], back[0].Shape.Syms[0], back[1].Shape.Syms[0] = "z", "blue", "blue"
	sameEdits(t, "another answer", impl.EditsBack(l), []impl.Edit{setOf("c", pick("red"), num), dropOf("", 2, "c", pick("red"))})
	sameShapeOut(t, "another answer", impl.EditApply(s, e), want)
	s.Names[0] = "c"
	tells(t, "another name", impl.EditApply(s, e), impl.ErrThere)
	s.Names = append(s.Names, "d")
	tells(t, "a name more", impl.EditApply(s, e), impl.ErrForm)
	e.Shape.Syms[0] = "A"
	tells(t, "another word", impl.EditApply(rec(), e), impl.ErrForm)
	read := impl.EditRead("set /a pick(x) pick(y)").Edit
	read.Path[0], read.Shape.Syms[0], read.Was.Syms[0] = "b", "z", "z"
	sameEditOut(t, "another answer", impl.EditRead("set /a pick(x) pick(y)"), impl.EditOut{Edit: setOf("a", pick("x"), pick("y"))})
}
