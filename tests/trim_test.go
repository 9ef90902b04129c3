package tests

import (
	"fmt"
	"math/rand"
	"slices"
	"strings"
	"testing"

	"loop.example/g00848/impl"
)

// trimsAs holds Trim of right edits against what should stay of them, and against what is told beside the program.
func trimsAs(t *testing.T, l []impl.Edit, want []impl.Edit) {
	t.Helper()
	what := "of " + editsWritten(l)
	got := impl.Trim(l)
	sameEdits(t, what, got, want)
	sameEdits(t, what+", beside", trimBy(l), want)
	sameEdits(t, what+", twice", impl.Trim(got), want)
}

func TestTrim(t *testing.T) {
	for _, c := range []struct {
		l    string
		want string
	}{
		{"", ""},
		{"maybe /", "maybe /"},
		{"maybe /; sure /", ""},
		{"list /a; one /a", ""},
		{"add /a/* 2 abc list(num); drop /a/* 2 abc list(num)", ""},
		{"name /b abc d; name /b d abc", ""},
		{"name / a a; name / a a", ""},
		{"sym /* 1 blue; unsym /* 1 blue", ""},
		// Of two that would undo each other the first one loses.
		{"sure /; maybe /", "sure /; maybe /"},
		{"one /a; list /a", "one /a; list /a"},
		{"drop / 0 b num; add / 0 b num", "drop / 0 b num; add / 0 b num"},
		{"unsym / 1 blue; sym / 1 blue", "unsym / 1 blue; sym / 1 blue"},
		{"set / num text; set / text num", "set / num text; set / text num"},
		{"set / num num; set / num num", "set / num num; set / num num"},
		// Pairs within pairs, and such as stand side by side only when others have gone.
		{"list /; maybe /a; sure /a; one /", ""},
		{"list /; maybe /a; sure /a", "list /"},
		{"maybe /a; sure /a; one /", "one /"},
		{"maybe /; list /; add / 0 a num; drop / 0 a num; name / a b; name / b a; one /; sure /", ""},
		{"maybe /; list /; one /; list /; one /; sure /; maybe /", "maybe /"},
		{"list /; maybe /; maybe /; sure /; sure /; one /", ""},
		{"sure /; maybe /; sure /; maybe /; sure /", "sure /"},
		{"one /; list /; maybe /; sure /; one /; list /", "one /; list /"},
		{"drop / 0 a num; maybe /; sure /; add / 0 a num", "drop / 0 a num; add / 0 a num"},
		{"drop / 0 a num; add / 0 a num; drop / 0 a num; add / 0 a num", "drop / 0 a num; add / 0 a num"},
		{"name / a b; name / b a; name / a b", "name / a b"},
		{"name / a a; name / a a; name / a a", "name / a a"},
		{"name / a b; name / b c; name / c b; name / b a", ""},
		{"maybe /; sure /; maybe /; sure /; list /; one /", ""},
		// They stand side by side, or they stay.
		{"maybe /; list /a; sure /", "maybe /; list /a; sure /"},
		{"maybe /; set /a num num; sure /", "maybe /; set /a num num; sure /"},
		{"maybe /; list /; sure /; one /", "maybe /; list /; sure /; one /"},
		// What can not be done, or not twice, is not asked.
		{"add /a/b/c/d/e 5 a num; drop /a/b/c/d/e 5 a num", ""},
		{"sure /; sure /; maybe /; sure /", "sure /; sure /"},
	} {
		texts := slices.DeleteFunc(strings.Split(c.l, "; "), func(text string) bool { return text == "" })
		left := slices.DeleteFunc(strings.Split(c.want, "; "), func(text string) bool { return text == "" })
		trimsAs(t, readEdits(t, texts...), readEdits(t, left...))
	}
	trimsAs(t, nil, nil)
}

// TestTrimOfTwo: only such go as are each other's EditBack, with all fields alike.
func TestTrimOfTwo(t *testing.T) {
	for _, gone := range [][2]string{
		{"add /a 1 b num", "drop /a 1 b num"},
		{"add / 0 b rec(a:pick(x,y))", "drop / 0 b rec(a:pick(x,y))"},
		{"name / a b", "name / b a"},
		{"sym /a 1 b", "unsym /a 1 b"}, {"sym / 0 b", "unsym / 0 b"},
		{"maybe /a", "sure /a"}, {"maybe /", "sure /"},
		{"list /a", "one /a"}, {"list /*", "one /*"},
	} {
		trimsAs(t, readEdits(t, gone[0], gone[1]), nil)
	}
	for _, stays := range [][2]string{
		{"add /a 1 b num", "drop /a 0 b num"}, {"add /a 1 b num", "drop /a 1 c num"}, {"add /a 1 b num", "drop /a 1 b text"},
		{"add /a 1 b num", "drop / 1 b num"}, {"add /a 1 b num", "drop /b 1 b num"}, {"add /a 1 b num", "drop /a/* 1 b num"},
		{"add /a 1 b num", "add /a 1 b num"}, {"add /a 1 b num", "unsym /a 1 b"},
		{"add / 0 b rec(a:pick(x,y))", "drop / 0 b rec(a:pick(y,x))"}, {"add / 0 b rec(a:pick(x,y))", "drop / 0 b rec(b:pick(x,y))"},
		{"add / 0 b rec(a:pick(x,y))", "drop / 0 b rec(a:pick(x))"}, {"add / 0 b rec(a:pick(x,y))", "drop / 0 b rec(a:pick(x,y),b:num)"},
		{"name / a b", "name / b c"}, {"name / a b", "name / c a"}, {"name / a b", "name /a b a"}, {"name / a b", "name / a b"},
		{"sym /a 1 b", "unsym /a 2 b"}, {"sym /a 1 b", "unsym /a 1 c"}, {"sym /a 1 b", "unsym /* 1 b"}, {"sym /a 1 b", "drop /a 1 b num"}, {"sym /a 1 b", "sym /a 1 b"},
		{"maybe /a", "sure /"}, {"maybe /a", "sure /*"}, {"maybe /a", "sure /a/a"}, {"maybe /a", "one /a"}, {"maybe /a", "maybe /a"},
		{"list /a", "one /"}, {"list /a", "sure /a"}, {"list /a", "list /a"},
		{"set / num text", "set / text num"}, {"set / num text", "set / num text"}, {"set / num text", "set / text flag"},
		{"set / num text", "set / flag num"}, {"set / num text", "set /a text num"},
	} {
		l := readEdits(t, stays[0], stays[1])
		trimsAs(t, l, l)
		slices.Reverse(l)
		trimsAs(t, l, l)
	}
	for _, e := range oneOfEachKind() {
		trimsAs(t, []impl.Edit{e}, []impl.Edit{e})
		l := []impl.Edit{e, backBy(e)}
		if losesBy(e) {
			trimsAs(t, l, l)
			continue
		}
		trimsAs(t, l, nil)
	}
}

// TestTrimOfTwoWithOneFieldTurned: of two that would go one has another field, which its Kind may not even have.
func TestTrimOfTwoWithOneFieldTurned(t *testing.T) {
	for _, e := range oneOfEachKind() {
		for what, turned := range map[string]func(e *impl.Edit){
			"At":    func(e *impl.Edit) { e.At = 3 },
			"Name":  func(e *impl.Edit) { e.Name = "other" },
			"To":    func(e *impl.Edit) { e.To = "other" },
			"Shape": func(e *impl.Edit) { e.Shape = rec(flag) },
			"Was":   func(e *impl.Edit) { e.Was = rec(flag) },
			"Path":  func(e *impl.Edit) { e.Path = append(slices.Clone(e.Path), "*") },
		} {
			for place := range 2 {
				l := []impl.Edit{e, backBy(e)}
				turned(&l[place])
				want := l
				if !impl.EditRight(l[place]) {
					want = nil
				}
				sameEdits(t, fmt.Sprint(editWritten(e), ", another ", what), impl.Trim(l), want)
			}
		}
	}
}

// TestTrimOfMany: as many as may be, side by side and within each other, and one more.
func TestTrimOfMany(t *testing.T) {
	sameEdits(t, "side by side", impl.Trim(wrapped(impl.MaxList)), nil)
	sameEdits(t, "side by side, and one", impl.Trim(wrapped(impl.MaxList-1)), wrapped(1))
	within := make([]impl.Edit, impl.MaxList)
	lose := make([]impl.Edit, impl.MaxList)
	for i := range within {
		within[i] = bareOf([]int64{impl.EdList, impl.EdOne}[i/(impl.MaxList/2)], "")
		lose[i] = bareOf(impl.EdOne, "")
	}
	sameEdits(t, "within each other", impl.Trim(within), nil)
	sameEdits(t, "within each other, and one", impl.Trim(within[1:]), lose[:1])
	sameEdits(t, "such as lose", impl.Trim(lose), lose)
	sameEdits(t, "one more that loses", impl.Trim(append(lose, lose[0])), nil)
	sameEdits(t, "one more that goes", impl.Trim(append(wrapped(impl.MaxList), bareOf(impl.EdMaybe, ""))), nil)
	for _, place := range []int{0, 1, impl.MaxList / 2, impl.MaxList - 1} {
		l := slices.Clone(lose)
		l[place] = impl.Edit{}
		sameEdits(t, fmt.Sprint("zero at ", place), impl.Trim(l), nil)
	}
}

// TestTrimOfWhateverOfFew: whatever stands side by side of a few edits and what undoes them.
func TestTrimOfWhateverOfFew(t *testing.T) {
	few := []impl.Edit{bareOf(impl.EdMaybe, ""), bareOf(impl.EdSure, ""), nameOf("", "a", "b"), nameOf("", "b", "a"), setOf("", num, num)}
	lists := [][]impl.Edit{{}}
	for range 6 {
		next := [][]impl.Edit{}
		for _, l := range lists {
			for _, e := range few {
				next = append(next, append(slices.Clone(l), e))
			}
		}
		for _, l := range next {
			sameEdits(t, editsWritten(l), impl.Trim(l), trimBy(l))
		}
		lists = next
	}
}

// TestTrimLeavesOutWhatComesToNothing: promise 10, of shapes and of what has them.
func TestTrimLeavesOutWhatComesToNothing(t *testing.T) {
	random := rand.New(rand.NewSource(64))
	shorter := 0
	for range 800 {
		s, l, shapes := someTrip(random, 6)
		more := padded(random, s, l)
		what := editsWritten(more) + " of " + written(s)
		got := impl.Trim(more)
		sameEdits(t, what, got, trimBy(l))
		sameEdits(t, what+", beside", got, trimBy(more))
		shorter += len(more) - len(got)
		sameShapeOut(t, what+": the shape", impl.EditsApply(s, got), impl.ShapeOut{Shape: shapes[len(l)]})
		v, w := likelyVal(random, s), likelyVal(random, shapes[len(l)])
		full, trimmed := impl.Right(s, more, v, nil), impl.Right(s, got, v, nil)
		sameVal(t, what+": the last stage", trimmed.Stages[len(got)], full.Stages[len(more)])
		full, trimmed = impl.Left(s, more, w, nil), impl.Left(s, got, w, nil)
		sameVal(t, what+": the first stage", trimmed.Stages[0], full.Stages[0])
	}
	same(t, fmt.Sprint("enough have gone: ", shorter), shorter > 2000, true)
}
