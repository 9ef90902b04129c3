package tests

import (
	"fmt"
	"math/rand"
	"slices"
	"testing"

	"loop.example/g00848/impl"
)

func TestNoWrongShapeIsEdited(t *testing.T) {
	for what, wrong := range wrongShapes() {
		for where, s := range putAround(wrong) {
			what := where + what
			tells(t, what+", no edits", impl.EditsApply(s, nil), impl.ErrForm)
			for _, e := range oneOfEachKind() {
				for _, steps := range []string{"", "*", "a", "b", "z"} {
					e.Path = path(steps)
					tells(t, what, impl.EditApply(s, e), impl.ErrForm)
					tells(t, what, impl.EditsApply(s, []impl.Edit{e, e}), impl.ErrForm)
				}
			}
		}
	}
}

// TestFirstOfTwoEditFaults: in the order of the chapter, whatever else there is.
func TestFirstOfTwoEditFaults(t *testing.T) {
	six := rec(num, num, num, num, num, num)
	full := pick("a", "b", "c", "d", "e", "f")
	for _, c := range []struct {
		what string
		s    impl.Shape
		e    impl.Edit
		code int64
	}{
		{"not right, and nowhere", num, addOf("z", 0, "A", num), impl.ErrForm},
		{"not right, and of another kind", num, addOf("", 6, "a", num), impl.ErrForm},
		{"not right, and not there", rec(num), dropOf("", 0, "b", impl.Shape{}), impl.ErrForm},
		{"not right, and there", rec(num), impl.Edit{Kind: impl.EdAdd, Name: "a", To: "b", Shape: num}, impl.ErrForm},
		{"not right, and too deep", lists(4), impl.Edit{Kind: impl.EdList, At: 1}, impl.ErrForm},
		{"nowhere, and too deep", rec(num), setOf("b", lists(4), num), impl.ErrNone},
		{"nowhere, and not what was there", rec(num), setOf("b", text, flag), impl.ErrNone},
		{"of another kind, and too deep", list(num), addOf("*", 0, "a", lists(4)), impl.ErrState},
		{"of another kind, and too far", num, addOf("", 5, "a", num), impl.ErrState},
		{"of another kind, and there is that word", pick("a"), addOf("", 0, "a", num), impl.ErrState},
		{"of another kind, and there is that name", rec(num), symOf("", 0, "a"), impl.ErrState},
		{"of another kind, and at 0", rec(num), unsymOf("", 0, "a"), impl.ErrState},
		{"of another kind, and to itself", list(num), nameOf("", "a", "a"), impl.ErrState},
		{"a list that is to be sure", lists(4), bareOf(impl.EdSure, "*"), impl.ErrState},
		{"there, and too far", rec(num), addOf("", 2, "a", num), impl.ErrThere},
		{"there, and too many", six, addOf("", 0, "f", num), impl.ErrThere},
		{"there, and too deep", rec(num), addOf("", 0, "a", lists(4)), impl.ErrThere},
		{"too far, and too deep", rec(num), addOf("", 2, "b", lists(4)), impl.ErrRange},
		{"too many, and too deep", six, addOf("", 5, "g", lists(4)), impl.ErrFull},
		{"another name, and another shape", rec(num), dropOf("", 0, "b", text), impl.ErrNone},
		{"behind all, and another shape", rec(num), dropOf("", 1, "a", text), impl.ErrNone},
		{"no such name, and to one that is there", rec(num), nameOf("", "b", "a"), impl.ErrNone},
		{"no such name, and to itself", rec(num), nameOf("", "b", "b"), impl.ErrNone},
		{"there, and at 0", full, symOf("", 0, "a"), impl.ErrThere},
		{"there, and too far, of words", pick("a"), symOf("", 3, "a"), impl.ErrThere},
		{"there, and too many words", full, symOf("", 5, "f"), impl.ErrThere},
		{"at 0, and too many words", full, symOf("", 0, "g"), impl.ErrRange},
		{"another word, and at 0", full, unsymOf("", 0, "b"), impl.ErrNone},
		{"not what was there, and too deep", list(num), setOf("*", lists(4), text), impl.ErrThere},
	} {
		tells(t, c.what, impl.EditApply(c.s, c.e), c.code)
		tells(t, c.what+", as a list", impl.EditsApply(c.s, []impl.Edit{c.e}), c.code)
	}
}

// TestFirstEditThatTells: of edits of which more than one can not be done, the first one tells, and nothing is told beside.
func TestFirstEditThatTells(t *testing.T) {
	s := rec(num, pick("x"))
	wrong := impl.Edit{}
	done := addOf("", 0, "z", flag)
	for _, c := range []struct {
		what string
		l    []impl.Edit
		code int64
	}{
		{"a later one", []impl.Edit{done, nameOf("", "y", "x")}, impl.ErrNone},
		{"the same again", []impl.Edit{done, done}, impl.ErrThere},
		{"in between", []impl.Edit{done, addOf("", 5, "y", num), dropOf("", 0, "z", flag)}, impl.ErrRange},
		{"by what one ahead of it made", []impl.Edit{bareOf(impl.EdMaybe, ""), done}, impl.ErrState},
		{"by where one ahead of it put it", []impl.Edit{nameOf("", "b", "c"), symOf("b", 1, "y")}, impl.ErrNone},
		{"too deep in the end", []impl.Edit{bareOf(impl.EdList, ""), bareOf(impl.EdList, ""), bareOf(impl.EdList, ""), bareOf(impl.EdList, "")}, impl.ErrFull},
		{"too deep, and less deep behind it", []impl.Edit{setOf("a", lists(3), num), bareOf(impl.EdMaybe, ""), bareOf(impl.EdSure, "")}, impl.ErrFull},
		{"a wrong one, behind all", []impl.Edit{done, wrong}, impl.ErrForm},
		{"a wrong one, ahead of one that can not be done", []impl.Edit{done, wrong, done}, impl.ErrForm},
		{"a wrong one, behind one that can not be done", []impl.Edit{done, done, wrong}, impl.ErrThere},
		{"a wrong one, behind one that is of another kind", []impl.Edit{bareOf(impl.EdSure, ""), wrong}, impl.ErrState},
		{"two that can not be done", []impl.Edit{bareOf(impl.EdOne, ""), addOf("", 0, "a", num)}, impl.ErrState},
		{"two that can not be done, turned round", []impl.Edit{addOf("", 0, "a", num), bareOf(impl.EdOne, "")}, impl.ErrThere},
	} {
		tells(t, c.what, impl.EditsApply(s, c.l), c.code)
	}
}

// TestTooManyEditsAreToldFirst: ahead of all that the shape and the edits could tell.
func TestTooManyEditsAreToldFirst(t *testing.T) {
	many := wrapped(impl.MaxList + 1)
	for what, s := range wrongShapes() {
		tells(t, what, impl.EditsApply(s, many), impl.ErrSize)
		tells(t, what+", one less", impl.EditsApply(s, many[1:]), impl.ErrForm)
	}
	for _, first := range []impl.Edit{{}, bareOf(impl.EdOne, ""), bareOf(impl.EdMaybe, "zzzzzz"), addOf("z", 0, "a", num)} {
		l := slices.Concat([]impl.Edit{first}, many[1:])
		tells(t, "an edit that can not be done", impl.EditsApply(num, l), impl.ErrSize)
		sameEdits(t, "an edit that can not be done", impl.EditsBack(l), nil)
	}
}

// TestSomeEditsThatFail: the code of a list is that of the first one that tells one, told beside the program.
func TestSomeEditsThatFail(t *testing.T) {
	random := rand.New(rand.NewSource(42))
	codes := map[int64]int{}
	for range 3000 {
		s := someShape(random, 1+random.Intn(3))
		l, now := someEdits(random, s, random.Intn(4))
		e := someEdit(random, now)
		_, code := editedBy(now, e)
		if code == impl.OK {
			continue
		}
		codes[code]++
		behind, _ := someEdits(random, now, 2)
		l = slices.Concat(l, []impl.Edit{e}, behind)
		tells(t, editsWritten(l)+" of "+written(s), impl.EditsApply(s, l), code)
	}
	for _, code := range []int64{impl.ErrNone, impl.ErrThere, impl.ErrRange, impl.ErrState} {
		same(t, fmt.Sprint("enough tell ", code, ": ", codes[code]), codes[code] > 10, true)
	}
}
