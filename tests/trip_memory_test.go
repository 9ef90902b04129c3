package tests

import (
	"fmt"
	"math/rand"
	"slices"
	"testing"

	"loop.example/g00848/impl"
)

// tripHanded is where all lists lie that are handed in to a trip, and all texts of these.
func tripHanded(s impl.Shape, l []impl.Edit, v impl.Val, stages []impl.Val) ([]stretch, []string) {
	lists := append(listsOf(s, "the shape"), stretchOf("the edits", l), stretchOf("the stages", stages))
	texts := wordsOf(s)
	for i, e := range l {
		lists = append(lists, editStretches(e, fmt.Sprint("edit ", i))...)
		texts = append(texts, editTexts(e)...)
	}
	for i, one := range append([]impl.Val{v}, stages...) {
		lists = append(lists, valStretches(one, fmt.Sprint("handed in ", i))...)
		texts = append(texts, textsOf(one)...)
	}
	return lists, texts
}

// answerApart fails if what is answered lies within what is handed in, or one part of it within another one; the texts are
// those of each part.
func answerApart(t *testing.T, what string, all []stretch, parts [][]string, handed []stretch, handedTexts []string) {
	t.Helper()
	apartAll(t, all)
	// What is handed in may have one list in two places, but the answer may have none of it.
	for _, other := range handed {
		for _, one := range all {
			apartAll(t, []stretch{one, other})
		}
	}
	others := slices.Clone(handedTexts)
	for _, texts := range parts {
		wordsApart(t, what, texts, others)
		others = append(others, texts...)
	}
}

// tripApart holds the memory of all that a trip tells against what is handed in.
func tripApart(t *testing.T, s impl.Shape, l []impl.Edit, v impl.Val, w impl.Val, stages ...impl.Val) {
	t.Helper()
	what := editsWritten(l)
	for way, got := range map[string]impl.TripOut{"right": impl.Right(s, l, v, stages), "left": impl.Left(s, l, w, stages)} {
		handed, texts := tripHanded(s, l, v, append(slices.Clone(stages), w))
		handed = append(handed, stretchOf("the stages", stages))
		all := []stretch{stretchOf(way, got.Stages)}
		parts := [][]string{}
		for i, stage := range got.Stages {
			all = append(all, valStretches(stage, fmt.Sprint(way, " stage ", i))...)
			parts = append(parts, textsOf(stage))
		}
		answerApart(t, what+", "+way, all, parts, handed, texts)
	}
	handed, texts := tripHanded(s, l, v, nil)
	shapes := impl.Along(s, l)
	all := []stretch{stretchOf("Along", shapes)}
	parts := [][]string{}
	for i, one := range shapes {
		all = append(all, listsOf(one, fmt.Sprint("shape ", i))...)
		parts = append(parts, wordsOf(one))
	}
	answerApart(t, what+", Along", all, parts, handed, texts)
	editsApart(t, what+", Trim", impl.Trim(l), l)
}

func TestTripsAreNewMemory(t *testing.T) {
	random := rand.New(rand.NewSource(65))
	done := map[int64]int{}
	for range 1000 {
		s, l, shapes := someTrip(random, 4)
		size := 0
		stages := likelyTrip(random, shapes)
		for i, one := range shapes {
			size += int(impl.NodesOf(one)) + len(valsOf(&stages[i]))
		}
		if size > 150 {
			continue
		}
		for _, e := range l {
			done[e.Kind]++
		}
		v, w := likelyVal(random, s), likelyVal(random, shapes[len(l)])
		tripApart(t, s, l, v, w)
		tripApart(t, s, l, v, w, stages...)
		tripApart(t, s, l, stages[0], stages[len(l)], stages...)
		tripApart(t, s, l, v, w, rightBy(shapes, l, v, nil)...)
	}
	for kind := int64(impl.EdAdd); kind <= impl.EdSet; kind++ {
		same(t, fmt.Sprint("enough are done of ", kind, ": ", done[kind]), done[kind] > 10, true)
	}
}

// TestOneListInManyStages: one list in two places of what is handed in is two lists in what is answered.
func TestOneListInManyStages(t *testing.T) {
	part := recOf("ab", pick("x", "y"), list(text))
	one := recVal(pickVal("y"), listVal(textVal("x"), textVal("y")))
	s, v := rec(part, part), recVal(one, one)
	for _, l := range [][]impl.Edit{
		{},
		{nameOf("", "a", "c"), nameOf("", "c", "a")},
		{nameOf("a", "a", "c"), nameOf("a", "c", "a")},
		{setOf("a", part, part), setOf("b", part, part)},
		{bareOf(impl.EdList, "a"), bareOf(impl.EdOne, "a")},
		{bareOf(impl.EdMaybe, ""), bareOf(impl.EdSure, "")},
	} {
		stages := slices.Repeat([]impl.Val{v}, len(l)+1)
		for i, e := range l[:max(len(l)-1, 0)] {
			switch {
			case e.Kind == impl.EdList:
				stages[i+1] = recVal(listVal(one, one), one)
			case e.Kind == impl.EdMaybe:
				stages[i+1] = maybeVal(v)
			}
		}
		tripsAsBeside(t, s, l, v, v)
		tripsAsBeside(t, s, l, v, v, stages...)
		tripApart(t, s, l, v, v)
		tripApart(t, s, l, v, v, stages...)
	}
	p := []string{"a"}
	twice := impl.Edit{Kind: impl.EdSet, Path: p, Shape: part, Was: part}
	l := []impl.Edit{twice, twice, {Kind: impl.EdMaybe, Path: p}, {Kind: impl.EdList, Path: p}, {Kind: impl.EdOne, Path: p}}
	sameEdits(t, "Trim", impl.Trim(l), l[:3])
	editsApart(t, "Trim", impl.Trim(l), l)
}

func TestTripsChangeNothing(t *testing.T) {
	random := rand.New(rand.NewSource(66))
	for range 500 {
		s, l, shapes := someTrip(random, 6)
		l = padded(random, s, l)
		if shapes = shapesBy(s, l); len(shapes) == 0 {
			t.Fatalf("%s of %s can not be done", editsWritten(l), written(s))
		}
		v, w, stages := likelyVal(random, s), likelyVal(random, shapes[len(l)]), likelyTrip(random, shapes)
		sBefore, lBefore, vBefore, wBefore := copied(s), editsCopied(l), valCopied(v), valCopied(w)
		stagesBefore := recVal(stages...)
		stagesBefore = valCopied(stagesBefore)
		impl.Along(s, l)
		impl.TripRight(s, l, stages)
		for _, stood := range [][]impl.Val{nil, stages, stages[1:]} {
			impl.Right(s, l, v, stood)
			impl.Left(s, l, w, stood)
		}
		impl.Trim(l)
		same(t, "the shape as it was", alike(s, sBefore), true)
		sameEdits(t, "the edits as they were", l, lBefore)
		sameVal(t, "v as it was", v, vBefore)
		sameVal(t, "w as it was", w, wBefore)
		sameVal(t, "the stages as they were", recVal(stages...), stagesBefore)
	}
}

// TestTrimTakesNothingFromWhatIsHandedIn: wherever the pair stands that goes, and also if there is room behind the last edit.
func TestTrimTakesNothingFromWhatIsHandedIn(t *testing.T) {
	stays := []impl.Edit{bareOf(impl.EdSure, ""), dropOf("", 0, "a", num), setOf("", num, num), unsymOf("", 1, "x")}
	pair := []impl.Edit{addOf("", 0, "a", pick("x")), dropOf("", 0, "a", pick("x"))}
	behind := nameOf("", "behind", "behind")
	for place := range len(stays) + 1 {
		for _, count := range []int{1, 2, 3} {
			whole := append(slices.Insert(slices.Clone(stays), place, slices.Repeat(pair, count)...), behind, behind)
			before := editsCopied(whole)
			l := whole[:len(whole)-2]
			sameEdits(t, fmt.Sprint(count, " pairs at ", place), impl.Trim(l), stays)
			sameEdits(t, fmt.Sprint(count, " pairs at ", place, ", as it was"), whole, before)
			editsApart(t, "Trim", impl.Trim(l), l)
		}
	}
}

// TestNothingIsPutBehindStages: a list that is handed in may have room behind its end, which is not the program's.
func TestNothingIsPutBehindStages(t *testing.T) {
	behind := textVal("behind")
	s := rec(num)
	l := []impl.Edit{addOf("", 1, "b", text), addOf("", 2, "c", flag), dropOf("", 0, "a", num), bareOf(impl.EdName, "")}[:3]
	items := []impl.Val{numVal(1), behind, behind}
	stages := []impl.Val{
		recVal(items[:1]...), recVal(numVal(2), textVal("x")), recVal(numVal(3), textVal("y"), flagVal(1)),
		recVal(textVal("z"), flagVal(0)), behind, behind,
	}
	before := valCopied(recVal(stages...))
	tripsAsBeside(t, s, l, stages[0], stages[3])
	tripsAsBeside(t, s, l, stages[0], stages[3], stages[:4]...)
	impl.Trim(l)
	sameVal(t, "behind the stages", recVal(stages...), before)
	sameVal(t, "behind the Items", recVal(items...), recVal(numVal(1), behind, behind))
	sameEdit(t, "behind the edits", l[:4][3], bareOf(impl.EdName, ""))
}

// TestEmptyListsOfTripsAreNotHandedOn: a list of none may have room, which is not the answer's.
func TestEmptyListsOfTripsAreNotHandedOn(t *testing.T) {
	for _, c := range kinds() {
		s, v := copied(c.shape), valCopied(c.val)
		s.Syms, s.Names, s.Shapes = slices.Grow(s.Syms, 5), slices.Grow(s.Names, 5), slices.Grow(s.Shapes, 5)
		v.Items = slices.Grow(v.Items, 5)
		for _, l := range [][]impl.Edit{make([]impl.Edit, 0, 5), {setOf("", s, s)}, {bareOf(impl.EdMaybe, ""), bareOf(impl.EdSure, "")}} {
			for i := range l {
				l[i].Path = make([]string, 0, 5)
			}
			tripApart(t, s, l, v, v, make([]impl.Val, 0, 5)...)
			tripApart(t, s, l, v, v, impl.Right(s, l, v, nil).Stages...)
		}
	}
}

// TestTripsAreNotKept: what is changed between two calls is asked as it is then, and who changes an answer changes neither
// another one nor what was handed in.
func TestTripsAreNotKept(t *testing.T) {
	s, v := rec(pick("red", "green")), recVal(pickVal("green"))
	l := []impl.Edit{addOf("", 1, "b", list(num)), unsymOf("a", 1, "green")}
	stages := []impl.Val{recVal(pickVal("green")), recVal(pickVal("green"), listVal(numVal(1))), recVal(pickVal("red"), listVal(numVal(1)))}
	first := impl.Right(s, l, v, stages)
	want := impl.TripOut{Stages: stages}
	sameTrip(t, "as it was", first, want)
	first.Stages[1].Items[1].Items[0] = numVal(9)
	clear(first.Stages[0].Items)
	clear(first.Stages)
	left := impl.Left(s, l, stages[2], stages)
	sameTrip(t, "back", left, want)
	clear(left.Stages)
	sameTrip(t, "another answer", impl.Right(s, l, v, stages), want)
	shapes := impl.Along(s, l)
	shapes[0].Shapes[0].Syms[1], shapes[0].Names[0] = "blue", "z"
	clear(shapes[1].Shapes)
	sameShapes(t, "another answer", impl.Along(s, l), shapesBy(s, l))
	sameTrip(t, "another answer", impl.Right(s, l, v, stages), want)
	m := []impl.Edit{l[0]}
	trimmed := impl.Trim(m)
	trimmed[0].Shape.Shapes[0] = text
	trimmed[0].Name = "z"
	sameEdits(t, "another answer", impl.Trim(m), l[:1])
	stages[1].Items[1] = listVal()
	stages[2].Items[1] = listVal()
	sameTrip(t, "other stages", impl.Right(s, l, v, stages), impl.TripOut{Stages: stages})
	stages[2].Items[0] = pickVal("green")
	notGone(t, "a stage that does not fit", s, l, v, stages, impl.ErrForm)
	l[1].At = 0
	noTrip(t, "another place", s, l, v)
	l[1].At = -1
	sameEdits(t, "another place", impl.Trim(l), nil)
}
