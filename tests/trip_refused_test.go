package tests

import (
	"fmt"
	"math/rand"
	"slices"
	"testing"

	"loop.example/g00848/impl"
)

func TestNoTripsOfWrongShapes(t *testing.T) {
	for what, wrong := range wrongShapes() {
		for where, s := range putAround(wrong) {
			for _, v := range []impl.Val{{}, numVal(0), {Kind: wrong.Kind}, {Kind: wrong.Kind, T: "a"}, {Kind: wrong.Kind, Items: many(numVal(0), 1)}, listVal(), maybeVal(), recVal()} {
				noTrip(t, where+what, s, nil, v)
				noTrip(t, where+what, s, []impl.Edit{bareOf(impl.EdMaybe, "")}, v)
				noTrip(t, where+what, s, []impl.Edit{bareOf(impl.EdList, "a"), setOf("", num, num)}, v)
			}
		}
	}
}

// TestNoTripsByWrongEdits: a wrong edit is refused at whichever place, also where another one would make up for it.
func TestNoTripsByWrongEdits(t *testing.T) {
	done := []impl.Edit{addOf("", 0, "z", flag), bareOf(impl.EdMaybe, ""), bareOf(impl.EdSure, "")}
	v := recVal(numVal(1))
	for _, right := range oneOfEachKind() {
		right.Path = path("")
		for what, turned := range wrongTurns() {
			e := editCopied(right)
			turned(&e)
			for place := range len(done) + 1 {
				what := fmt.Sprint(what, " of kind ", right.Kind, " at ", place)
				l := slices.Insert(editsCopied(done), place, e)
				noTrip(t, what, rec(num), l, v)
				sameEdits(t, what+": Trim", impl.Trim(l), nil)
			}
			for _, c := range kinds() {
				noTrip(t, what+", "+c.what, c.shape, []impl.Edit{e}, c.val)
			}
			sameEdits(t, what+": Trim", impl.Trim([]impl.Edit{e, e}), nil)
		}
	}
}

// TestNoTripsByEditsThatCanNotBeDone: whichever code EditsApply tells, the trip tells ErrForm.
func TestNoTripsByEditsThatCanNotBeDone(t *testing.T) {
	s := rec(num, pick("x", "y"))
	v := recVal(numVal(1), pickVal("y"))
	done := []impl.Edit{addOf("", 2, "z", flag), bareOf(impl.EdList, "z"), nameOf("", "z", "v")}
	for _, c := range []struct {
		what string
		e    impl.Edit
		code int64
	}{
		{"not right", addOf("", 0, "A", num), impl.ErrForm},
		{"nowhere", bareOf(impl.EdMaybe, "u"), impl.ErrNone},
		{"another name", dropOf("", 0, "b", num), impl.ErrNone},
		{"of another kind", bareOf(impl.EdSure, "a"), impl.ErrState},
		{"there", addOf("", 0, "a", num), impl.ErrThere},
		{"another shape", dropOf("", 0, "a", text), impl.ErrThere},
		{"not what was there", setOf("a", flag, text), impl.ErrThere},
		{"too far", symOf("b", 4, "w"), impl.ErrRange},
		{"the word at 0", unsymOf("b", 0, "x"), impl.ErrRange},
		{"too deep", setOf("a", lists(4), num), impl.ErrFull},
	} {
		for place := range len(done) + 1 {
			l := slices.Insert(editsCopied(done), place, c.e)
			tells(t, c.what, impl.EditsApply(s, l), c.code)
			noTrip(t, fmt.Sprint(c.what, " at ", place), s, l, v)
			noTrip(t, fmt.Sprint(c.what, " at ", place, ", and what does not fit"), s, l, numVal(-1))
		}
	}
	noTrip(t, "twice the same", s, []impl.Edit{done[0], done[0]}, v)
	noTrip(t, "back ahead of there", s, []impl.Edit{impl.EditBack(done[0]), done[0]}, v)
}

// TestEndsThatDoNotFit: v fits the first shape, or, to the left, the last one; it is not enough that it fits the other one.
func TestEndsThatDoNotFit(t *testing.T) {
	refused := 0
	for _, cases := range [][]fitCase{leafCases(), partCases(), kinds(), strayCases()} {
		for _, c := range cases {
			for _, e := range changing(c.shape) {
				what := c.what + ", " + editWritten(e)
				changed := edited(t, c.shape, e)
				l, back := []impl.Edit{e}, []impl.Edit{impl.EditBack(e)}
				stages := []impl.Val{impl.Blank(c.shape), impl.Blank(changed)}
				if c.fits {
					tripsAsBeside(t, c.shape, l, c.val, stages[1], stages...)
					continue
				}
				refused++
				for _, stages := range [][]impl.Val{nil, stages} {
					sameTrip(t, what+", right", impl.Right(c.shape, l, c.val, stages), impl.TripOut{Code: impl.ErrForm})
				}
				slices.Reverse(stages)
				for _, stages := range [][]impl.Val{nil, stages} {
					sameTrip(t, what+", left", impl.Left(changed, back, c.val, stages), impl.TripOut{Code: impl.ErrForm})
				}
			}
			if !c.fits {
				notGone(t, c.what, c.shape, nil, c.val, nil, impl.ErrForm)
				notGone(t, c.what, c.shape, nil, c.val, []impl.Val{impl.Blank(c.shape)}, impl.ErrForm)
			}
		}
	}
	same(t, "enough do not fit", refused > 100, true)
	l := []impl.Edit{bareOf(impl.EdList, ""), bareOf(impl.EdMaybe, "")}
	stages := []impl.Val{numVal(5), listVal(numVal(5)), maybeVal(listVal(numVal(5)))}
	for at, v := range stages {
		for _, stood := range [][]impl.Val{nil, stages} {
			what := fmt.Sprint("what fits shape ", at)
			same(t, what+", right", impl.Right(num, l, v, stood).Code == impl.OK, at == 0)
			same(t, what+", left", impl.Left(num, l, v, stood).Code == impl.OK, at == 2)
		}
	}
	for _, v := range []impl.Val{{}, numVal(-1), valRing(impl.ShList), valRing(impl.ShMaybe), valLists(1000)} {
		notGone(t, "what fits none", num, l, v, nil, impl.ErrForm)
		notGone(t, "what fits none", num, l, v, stages, impl.ErrForm)
	}
}

// TestStagesThatAreNoRightTrip: one fewer, one more, and one that does not fit, at whichever place.
func TestStagesThatAreNoRightTrip(t *testing.T) {
	s := rec(num, pick("x", "y"))
	l := []impl.Edit{addOf("", 2, "c", text), bareOf(impl.EdList, "a"), dropOf("", 1, "b", pick("x", "y"))}
	v, w := recVal(numVal(1), pickVal("y")), recVal(listVal(numVal(1)), textVal("hi"))
	right := []impl.Val{
		v, recVal(numVal(1), pickVal("y"), textVal("hi")),
		recVal(listVal(numVal(1)), pickVal("y"), textVal("hi")), w,
	}
	tripsAsBeside(t, s, l, v, w, right...)
	refused := func(what string, stages []impl.Val) {
		t.Helper()
		same(t, what, impl.TripRight(s, l, stages), false)
		sameTrip(t, what+", right", impl.Right(s, l, v, stages), impl.TripOut{Code: impl.ErrForm})
		sameTrip(t, what+", left", impl.Left(s, l, w, stages), impl.TripOut{Code: impl.ErrForm})
	}
	for size := 1; size < len(right); size++ {
		refused(fmt.Sprint("the first ", size), right[:size])
		refused(fmt.Sprint("the last ", size), right[len(right)-size:])
	}
	for place := range len(right) + 1 {
		for _, one := range right {
			refused(fmt.Sprint("one more at ", place), slices.Insert(slices.Clone(right), place, one))
		}
	}
	refused("twice", slices.Concat(right, right))
	wrong := []impl.Val{{}, numVal(-1), numVal(0), recVal(), recVal(numVal(-1), pickVal("y")), recVal(numVal(1), pickVal("z"), textVal("hi")), valRing(impl.ShRec), valRing(impl.ShList), valLists(1000)}
	for place := range right {
		for _, one := range slices.Concat(wrong, right[:place], right[place+1:]) {
			stages := slices.Clone(right)
			stages[place] = one
			refused(fmt.Sprint("one that does not fit at ", place), stages)
		}
	}
	for _, none := range [][]impl.Val{nil, {}} {
		same(t, "none is no right trip", impl.TripRight(s, l, none), false)
		sameTrip(t, "none, right", impl.Right(s, l, v, none), impl.TripOut{Stages: rightBy(shapesBy(s, l), l, v, nil)})
		sameTrip(t, "none, left", impl.Left(s, l, w, none), impl.TripOut{Stages: leftBy(shapesBy(s, l), l, w, nil)})
	}
	refused("as many as may be handed in", many(v, impl.MaxList))
}

// TestTooManyEditsOrStages: this is looked for ahead of all else.
func TestTooManyEditsOrStages(t *testing.T) {
	wrong := numVal(-1)
	for _, more := range []int{1, 2, impl.MaxList} {
		size := impl.MaxList + more
		l, stages := wrapped(size), many(numVal(5), size)
		for i := 1; i < size; i += 2 {
			stages[i] = maybeVal(numVal(5))
		}
		what := fmt.Sprint(size, " of them")
		sameShapes(t, what, impl.Along(num, l), nil)
		sameEdits(t, what, impl.Trim(l), nil)
		for _, stood := range [][]impl.Val{nil, {numVal(5)}, {wrong}, stages, stages[:impl.MaxList]} {
			for _, s := range []impl.Shape{num, maybe(num), {}, ring(impl.ShList)} {
				for _, v := range []impl.Val{numVal(5), maybeVal(), wrong} {
					same(t, what+" edits", impl.TripRight(s, l, stood), false)
					notGone(t, what+" edits", s, l, v, stood, impl.ErrSize)
				}
			}
		}
		for _, l := range [][]impl.Edit{nil, wrapped(2), wrapped(impl.MaxList), {{}}, {bareOf(impl.EdSure, "")}} {
			for _, s := range []impl.Shape{num, {}, ring(impl.ShList)} {
				for _, v := range []impl.Val{numVal(5), wrong} {
					same(t, what+" stages", impl.TripRight(s, l, stages), false)
					notGone(t, what+" stages", s, l, v, stages, impl.ErrSize)
					notGone(t, what+" wrong stages", s, l, v, many(wrong, size), impl.ErrSize)
				}
			}
		}
	}
	// What is no list that is handed in as such does not count, but is not right.
	e := bareOf(impl.EdMaybe, "")
	e.Path = manySteps[:impl.MaxList+1]
	noTrip(t, "a path of many steps", num, []impl.Edit{e}, numVal(5))
	notGone(t, "many Items", list(num), nil, listVal(many(numVal(5), impl.MaxList+1)...), nil, impl.ErrForm)
	notGone(t, "many Items stood there", list(num), nil, listVal(), []impl.Val{listVal(many(numVal(5), impl.MaxList+1)...)}, impl.ErrForm)
}

// TestTwoTripFaults: what is too long is told first; whichever two others there are, both are ErrForm.
func TestTwoTripFaults(t *testing.T) {
	l, no := []impl.Edit{bareOf(impl.EdMaybe, "")}, []impl.Edit{bareOf(impl.EdSure, "")}
	wrong := numVal(-1)
	right := []impl.Val{numVal(5), maybeVal()}
	for _, c := range []struct {
		what   string
		s      impl.Shape
		l      []impl.Edit
		v      impl.Val
		stages []impl.Val
		code   int64
	}{
		{"a wrong shape, and an edit that can not be done", pick(), no, pickVal("a"), nil, impl.ErrForm},
		{"a wrong shape, and what does not fit", pick(), l, wrong, nil, impl.ErrForm},
		{"an edit that can not be done, and what does not fit", num, no, wrong, nil, impl.ErrForm},
		{"an edit that can not be done, and a stage fewer", num, no, numVal(5), right[:1], impl.ErrForm},
		{"what does not fit, and a stage fewer", num, l, wrong, right[:1], impl.ErrForm},
		{"what does not fit, though the stages do", num, l, wrong, right, impl.ErrForm},
		{"a stage that does not fit, and what does not", num, l, wrong, []impl.Val{wrong, maybeVal()}, impl.ErrForm},
		{"too many edits, and a wrong shape", pick(), wrapped(impl.MaxList + 1), pickVal("a"), nil, impl.ErrSize},
		{"too many edits, and the last one not right", num, append(wrapped(impl.MaxList), impl.Edit{}), numVal(5), nil, impl.ErrSize},
		{"too many edits, and the first one not right", num, append([]impl.Edit{{}}, wrapped(impl.MaxList)...), numVal(5), nil, impl.ErrSize},
		{"too many edits, and what does not fit", num, wrapped(impl.MaxList + 1), wrong, nil, impl.ErrSize},
		{"too many edits, and a stage fewer", num, wrapped(impl.MaxList + 1), numVal(5), right[:1], impl.ErrSize},
		{"too many stages, and a wrong shape", pick(), l, pickVal("a"), many(numVal(5), impl.MaxList+1), impl.ErrSize},
		{"too many stages, and an edit that can not be done", num, no, numVal(5), many(numVal(5), impl.MaxList+1), impl.ErrSize},
		{"too many stages, and what does not fit", num, l, wrong, many(numVal(5), impl.MaxList+1), impl.ErrSize},
		{"too many of both", num, wrapped(impl.MaxList + 1), numVal(5), many(numVal(5), impl.MaxList+1), impl.ErrSize},
	} {
		notGone(t, c.what, c.s, c.l, c.v, c.stages, c.code)
	}
}

// TestSomeTripsThatAreNone: of turned stages, shapes and edits, TripRight tells what is told beside the program.
func TestSomeTripsThatAreNone(t *testing.T) {
	random := rand.New(rand.NewSource(63))
	turned, undone := 0, 0
	for range 1000 {
		s, l, shapes := someTrip(random, 6)
		stages := likelyTrip(random, shapes)
		v, w := stages[0], stages[len(l)]
		all := valsOf(&stages[random.Intn(len(stages))])
		turn(random, all[random.Intn(len(all))])
		right := fittingTrip(shapes, stages)
		what := fmt.Sprint(editsWritten(l), " of ", written(s))
		same(t, what, impl.TripRight(s, l, stages), right)
		if !right {
			turned++
			sameTrip(t, what+", right", impl.Right(s, l, v, stages), impl.TripOut{Code: impl.ErrForm})
			sameTrip(t, what+", left", impl.Left(s, l, w, stages), impl.TripOut{Code: impl.ErrForm})
		}
		m := append(l, someEdit(random, shapes[len(l)]))
		random.Shuffle(len(m), func(i, j int) { m[i], m[j] = m[j], m[i] })
		if shapesBy(s, m) == nil {
			undone++
			noTrip(t, what+", shuffled", s, m, impl.Blank(s))
		}
	}
	same(t, fmt.Sprint("enough are turned: ", turned), turned > 200, true)
	same(t, fmt.Sprint("enough can not be done: ", undone), undone > 200, true)
}
