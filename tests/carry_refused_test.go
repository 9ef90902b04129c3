package tests

import (
	"fmt"
	"math/rand"
	"testing"

	"loop.example/g00848/impl"
)

// notCarried: that code is told, and nothing beside it.
func notCarried(t *testing.T, what string, s impl.Shape, e impl.Edit, v impl.Val, old impl.Val, has bool, code int64) {
	t.Helper()
	sameValOut(t, what, impl.Carry(s, e, v, old, has), impl.ValOut{Code: code})
}

// neverCarried: that code is told, whatever stood there.
func neverCarried(t *testing.T, what string, s impl.Shape, e impl.Edit, v impl.Val, code int64, olds ...impl.Val) {
	t.Helper()
	for _, old := range append(olds, impl.Val{}, v, numVal(0), textVal(""), maybeVal(), listVal(), recVal(), numVal(-1), valRing(impl.ShList)) {
		notCarried(t, what+", with an old one", s, e, v, old, true, code)
		notCarried(t, what+", with none", s, e, v, old, false, code)
	}
}

func TestNothingIsCarriedByWrongShapes(t *testing.T) {
	for what, wrong := range wrongShapes() {
		vals := []impl.Val{{}, {Kind: wrong.Kind}, {Kind: wrong.Kind, T: "a"}, {Kind: wrong.Kind, Items: many(numVal(0), 1)}, recVal(), listVal(), valRing(impl.ShList)}
		for where, s := range putAround(wrong) {
			for _, e := range oneOfEachKind() {
				for _, steps := range []string{"", "*", "a"} {
					e.Path = path(steps)
					for _, v := range vals {
						notCarried(t, where+what, s, e, v, impl.Val{}, false, impl.ErrForm)
						notCarried(t, where+what, s, e, v, v, true, impl.ErrForm)
					}
				}
			}
		}
	}
}

// TestWrongWhereNothingIsCarried: a shape is refused also for what the edit would take away, and for what there is none of.
func TestWrongWhereNothingIsCarried(t *testing.T) {
	wrong := pick()
	neverCarried(t, "a field that goes", recOf("ab", num, wrong), dropOf("", 1, "b", wrong), recVal(numVal(0), pickVal("a")), impl.ErrForm)
	neverCarried(t, "a list of none", list(wrong), bareOf(impl.EdMaybe, ""), listVal(), impl.ErrForm)
	neverCarried(t, "a maybe of none", maybe(wrong), setOf("", num, maybe(wrong)), maybeVal(), impl.ErrForm, numVal(5))
	neverCarried(t, "what is set", num, setOf("", wrong, num), numVal(0), impl.ErrForm)
	neverCarried(t, "what is added to none", list(rec()), addOf("*", 0, "a", wrong), listVal(), impl.ErrForm)
}

func TestNothingIsCarriedByWrongEdits(t *testing.T) {
	for _, right := range oneOfEachKind() {
		right.Path = path("")
		for what, turned := range wrongTurns() {
			e := editCopied(right)
			turned(&e)
			what := fmt.Sprint(what, " of kind ", right.Kind)
			for _, c := range kinds() {
				neverCarried(t, what+", "+c.what, c.shape, e, c.val, impl.ErrForm)
			}
			same(t, "Loses: "+what, impl.Loses(e), false)
		}
	}
}

// changing is edits that can be done of that right shape: of it as a whole, and of what there may be none of.
func changing(s impl.Shape) []impl.Edit {
	out := []impl.Edit{setOf("", num, s), setOf("", s, s)}
	if impl.DeepOf(s) < impl.MaxDeep {
		out = append(out, bareOf(impl.EdMaybe, ""), bareOf(impl.EdList, ""))
	}
	switch s.Kind {
	case impl.ShMaybe:
		out = append(out, bareOf(impl.EdSure, ""), setOf("*", flag, s.Shapes[0]))
	case impl.ShList:
		out = append(out, bareOf(impl.EdOne, ""), setOf("*", flag, s.Shapes[0]))
	}
	if s.Kind == impl.ShPick && len(s.Syms) < impl.MaxFields {
		out = append(out, symOf("", 1, "blue"))
	}
	if s.Kind == impl.ShRec && len(s.Names) < impl.MaxFields {
		out = append(out, addOf("", 0, "z", num))
	}
	if len(s.Names) > 0 {
		out = append(out, dropOf("", 0, s.Names[0], s.Shapes[0]), nameOf("", s.Names[0], "z"))
	}
	return out
}

func TestWhatDoesNotFitIsNotCarried(t *testing.T) {
	refused := 0
	for _, cases := range [][]fitCase{leafCases(), partCases(), kinds(), strayCases()} {
		for _, c := range cases {
			for _, e := range changing(c.shape) {
				what := c.what + ", " + editWritten(e)
				if c.fits {
					carriesAsBeside(t, c.shape, e, c.val)
					continue
				}
				refused++
				changed := edited(t, c.shape, e)
				neverCarried(t, what, c.shape, e, c.val, impl.ErrForm, impl.Blank(changed))
				// What did not fit where it was does not fit as an old one, either, where the edit is undone.
				notCarried(t, what+", as an old one", changed, impl.EditBack(e), impl.Blank(changed), c.val, true, impl.ErrForm)
				carriesAsBeside(t, changed, impl.EditBack(e), impl.Blank(changed))
				if impl.DeepOf(c.shape) == impl.MaxDeep {
					continue
				}
				s := rec(list(num), c.shape)
				neverCarried(t, what+", beside", s, setOf("a", text, list(num)), recVal(listVal(), c.val), impl.ErrForm, recVal(textVal(""), impl.Blank(c.shape)))
				notCarried(t, what+", an old one beside", s, setOf("a", text, list(num)), impl.Blank(s), recVal(textVal(""), c.val), true, impl.ErrForm)
			}
		}
	}
	same(t, "enough do not fit", refused > 100, true)
}

// TestOldsThatDoNotFit: an old one has the changed shape, also where it is not taken, and not that of v.
func TestOldsThatDoNotFit(t *testing.T) {
	for _, c := range []struct {
		what string
		s    impl.Shape
		e    impl.Edit
		v    impl.Val
		old  impl.Val
	}{
		{"a field less", rec(num), addOf("", 1, "b", text), recVal(numVal(1)), recVal(numVal(1))},
		{"a field more", rec(num, text), dropOf("", 1, "b", text), recVal(numVal(1), textVal("")), recVal(numVal(1), textVal(""))},
		{"the other place", rec(num), addOf("", 0, "b", text), recVal(numVal(1)), recVal(numVal(1), textVal("x"))},
		{"a sym that goes", pick("a", "b"), unsymOf("", 1, "b"), pickVal("a"), pickVal("b")},
		{"a sym that there is not", pick("a", "b"), symOf("", 1, "c"), pickVal("a"), pickVal("d")},
		{"no maybe", num, bareOf(impl.EdMaybe, ""), numVal(0), numVal(0)},
		{"a maybe of two", num, bareOf(impl.EdMaybe, ""), numVal(0), maybeVal(numVal(0), numVal(0))},
		{"a maybe", maybe(num), bareOf(impl.EdSure, ""), maybeVal(), maybeVal()},
		{"no list", num, bareOf(impl.EdList, ""), numVal(0), numVal(0)},
		{"a maybe, no list", num, bareOf(impl.EdList, ""), numVal(0), maybeVal(numVal(0))},
		{"a list of 7", num, bareOf(impl.EdList, ""), numVal(0), listVal(many(numVal(0), 7)...)},
		{"the last of a list", num, bareOf(impl.EdList, ""), numVal(0), listVal(numVal(0), numVal(-1))},
		{"a list", list(num), bareOf(impl.EdOne, ""), listVal(), listVal()},
		{"what was set", num, setOf("", text, num), numVal(1), numVal(1)},
		{"beside, where it is not taken", rec(num, num), nameOf("", "a", "c"), recVal(numVal(1), numVal(1)), recVal(numVal(1), numVal(-1))},
		{"behind, where it is not taken", list(num), setOf("*", text, num), listVal(numVal(1)), listVal(textVal(""), numVal(1))},
		{"in a list of none", list(num), setOf("*", text, num), listVal(), listVal(numVal(1))},
		{"in a maybe of none", maybe(num), setOf("*", text, num), maybeVal(), maybeVal(numVal(1))},
		{"zero", num, setOf("", num, num), numVal(1), impl.Val{}},
		{"a list of itself", num, bareOf(impl.EdList, ""), numVal(0), valRing(impl.ShList)},
		{"many lists", num, bareOf(impl.EdList, ""), numVal(0), valLists(1000)},
	} {
		notCarried(t, c.what, c.s, c.e, c.v, c.old, true, impl.ErrForm)
		carriesAsBeside(t, c.s, c.e, c.v)
		sameValOut(t, c.what+", not asked for", impl.Carry(c.s, c.e, c.v, c.old, false), impl.ValOut{Val: carriedBy(c.s, c.e, c.v)})
	}
}

// TestEditsThatDoNotCarry: all codes of EditApply, whatever stood there.
func TestEditsThatDoNotCarry(t *testing.T) {
	six := rec(num, num, num, num, num, num)
	for _, c := range []struct {
		what string
		s    impl.Shape
		e    impl.Edit
		code int64
	}{
		{"nowhere", rec(num), bareOf(impl.EdMaybe, "b"), impl.ErrNone},
		{"nowhere, by a star", rec(num), setOf("*", num, num), impl.ErrNone},
		{"nowhere, by a name", list(num), setOf("a", num, num), impl.ErrNone},
		{"nowhere, in a list of none", list(num), setOf("**", num, num), impl.ErrNone},
		{"no record", num, addOf("", 0, "a", num), impl.ErrState},
		{"no pick", num, symOf("", 1, "a"), impl.ErrState},
		{"no maybe", list(num), bareOf(impl.EdSure, ""), impl.ErrState},
		{"no list", maybe(num), bareOf(impl.EdOne, ""), impl.ErrState},
		{"no list, in a maybe of none", maybe(num), bareOf(impl.EdOne, "*"), impl.ErrState},
		{"that name is there", rec(num), addOf("", 1, "a", num), impl.ErrThere},
		{"too far", rec(num), addOf("", 2, "b", num), impl.ErrRange},
		{"too many", six, addOf("", 0, "g", num), impl.ErrFull},
		{"another name", rec(num), dropOf("", 0, "b", num), impl.ErrNone},
		{"another shape", rec(num), dropOf("", 0, "a", text), impl.ErrThere},
		{"no such name", rec(num), nameOf("", "b", "c"), impl.ErrNone},
		{"to one that is there", rec(num), nameOf("", "a", "a"), impl.ErrThere},
		{"that word is there", pick("a"), symOf("", 1, "a"), impl.ErrThere},
		{"a word at 0", pick("a"), symOf("", 0, "b"), impl.ErrRange},
		{"too many words", pick("a", "b", "c", "d", "e", "f"), symOf("", 1, "g"), impl.ErrFull},
		{"another word", pick("a", "b"), unsymOf("", 1, "c"), impl.ErrNone},
		{"the word at 0", pick("a", "b"), unsymOf("", 0, "a"), impl.ErrRange},
		{"too deep, by a maybe", lists(4), bareOf(impl.EdMaybe, "*"), impl.ErrFull},
		{"too deep, by a list", lists(4), bareOf(impl.EdList, ""), impl.ErrFull},
		{"too deep, by what is set", list(num), setOf("*", lists(4), num), impl.ErrFull},
		{"not what was there", num, setOf("", num, text), impl.ErrThere},
		{"not what was there, and to the same", list(num), setOf("*", num, text), impl.ErrThere},
	} {
		for _, v := range fewVals(c.s) {
			neverCarried(t, c.what, c.s, c.e, v, c.code)
		}
	}
}

// TestFirstOfTwoCarryFaults: in the order of the chapter, whatever else there is.
func TestFirstOfTwoCarryFaults(t *testing.T) {
	wrong := numVal(-1)
	for _, c := range []struct {
		what string
		s    impl.Shape
		e    impl.Edit
		v    impl.Val
		code int64
	}{
		{"a wrong edit, and nowhere", num, impl.Edit{Kind: impl.EdMaybe, Path: path("a"), At: 1}, numVal(0), impl.ErrForm},
		{"a wrong edit, and too deep", lists(4), impl.Edit{Kind: impl.EdList, At: 1}, listVal(), impl.ErrForm},
		{"a wrong edit, and what does not fit", num, impl.Edit{}, wrong, impl.ErrForm},
		{"a wrong shape, and nowhere", pick(), bareOf(impl.EdMaybe, "a"), pickVal("a"), impl.ErrForm},
		{"a wrong shape, and of another kind", list(pick()), bareOf(impl.EdSure, ""), listVal(), impl.ErrForm},
		{"what does not fit, and nowhere", num, bareOf(impl.EdMaybe, "a"), wrong, impl.ErrForm},
		{"what does not fit, and of another kind", num, bareOf(impl.EdSure, ""), wrong, impl.ErrForm},
		{"what does not fit, and there", rec(num), addOf("", 0, "a", num), recVal(wrong), impl.ErrForm},
		{"what does not fit, and too far", rec(num), addOf("", 5, "b", num), recVal(wrong), impl.ErrForm},
		{"what does not fit, and too deep", lists(4), bareOf(impl.EdList, ""), listVal(wrong), impl.ErrForm},
		{"what fits the changed shape, and of another kind", num, bareOf(impl.EdSure, ""), maybeVal(), impl.ErrForm},
		{"nowhere", num, bareOf(impl.EdMaybe, "a"), numVal(0), impl.ErrNone},
		{"of another kind", num, bareOf(impl.EdSure, ""), numVal(0), impl.ErrState},
		{"there", rec(num), addOf("", 0, "a", num), recVal(numVal(0)), impl.ErrThere},
		{"there, and too far", rec(num), addOf("", 5, "a", num), recVal(numVal(0)), impl.ErrThere},
		{"too far", rec(num), addOf("", 5, "b", num), recVal(numVal(0)), impl.ErrRange},
		{"too far, and too deep", rec(num), addOf("", 5, "b", lists(4)), recVal(numVal(0)), impl.ErrRange},
		{"too deep", lists(4), bareOf(impl.EdList, ""), listVal(), impl.ErrFull},
	} {
		// An old one that does not fit comes last of all.
		neverCarried(t, c.what+", and an old one", c.s, c.e, c.v, c.code, wrong)
	}
	for _, e := range changing(num) {
		notCarried(t, "what does not fit, and an old one that does not, either", num, e, wrong, wrong, true, impl.ErrForm)
		notCarried(t, "what does not fit, and an old one that is not asked for", num, e, wrong, wrong, false, impl.ErrForm)
	}
}

// TestSomeThatAreNotCarried: the code is that of EditApply, where all else is right; and turned ones do not fit.
func TestSomeThatAreNotCarried(t *testing.T) {
	random := rand.New(rand.NewSource(53))
	codes := map[int64]int{}
	turned := 0
	for range 20000 {
		s := someShape(random, 1+random.Intn(impl.MaxDeep))
		if impl.NodesOf(s) > 40 {
			continue
		}
		e, v := someEdit(random, s), likelyVal(random, s)
		changed := impl.EditApply(s, e)
		codes[changed.Code]++
		if changed.Code != impl.OK {
			notCarried(t, editWritten(e)+" of "+written(s), s, e, v, v, true, changed.Code)
			notCarried(t, editWritten(e)+" of "+written(s), s, e, v, v, false, changed.Code)
			continue
		}
		old := likelyVal(random, changed.Shape)
		all := valsOf(&old)
		turn(random, all[random.Intn(len(all))])
		if fitting(changed.Shape, old) {
			carriesAsBeside(t, s, e, v, old)
			continue
		}
		turned++
		notCarried(t, shown(old)+" as an old one", s, e, v, old, true, impl.ErrForm)
	}
	for code, least := range map[int64]int{impl.ErrNone: 100, impl.ErrThere: 100, impl.ErrRange: 50, impl.ErrFull: 50, impl.ErrState: 50} {
		same(t, fmt.Sprint("enough tell ", code, ": ", codes[code]), codes[code] > least, true)
	}
	same(t, fmt.Sprint("enough are turned: ", turned), turned > 500, true)
}
