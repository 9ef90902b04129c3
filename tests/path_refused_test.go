package tests

import (
	"fmt"
	"slices"
	"testing"

	"loop.example/g00848/impl"
)

// tells is the code of PartAt, or of Swap, and that nothing is told beside it.
func tells(t *testing.T, what string, got impl.ShapeOut, code int64) {
	t.Helper()
	sameShapeOut(t, what, got, impl.ShapeOut{Code: code})
}

// bothTell: PartAt and Swap tell that code, whatever right part there is.
func bothTell(t *testing.T, what string, s impl.Shape, p []string, code int64) {
	t.Helper()
	samePartOut(t, "PartAt: "+what, impl.PartAt(s, p), impl.PartOut{Code: code})
	for _, part := range []impl.Shape{num, pick("a"), lists(4), rec()} {
		tells(t, "Swap: "+what, impl.Swap(s, p, part), code)
	}
}

func TestNoPathsInWrongShapes(t *testing.T) {
	for what, wrong := range wrongShapes() {
		for where, s := range putAround(wrong) {
			samePaths(t, where+what, impl.PathsOf(s), nil)
			for _, p := range []string{"", "a", "b", "*", "**", "b**a", "a*b"} {
				bothTell(t, where+what, s, path(p), impl.ErrForm)
			}
		}
	}
}

func TestNoWrongPartIsPut(t *testing.T) {
	for what, wrong := range wrongShapes() {
		for where, part := range putAround(wrong) {
			what := where + what
			tells(t, what, impl.Swap(num, nil, part), impl.ErrForm)
			tells(t, what, impl.Swap(list(num), path("*"), part), impl.ErrForm)
			tells(t, what, impl.Swap(rec(num, num), path("b"), part), impl.ErrForm)
			tells(t, what+", nowhere", impl.Swap(rec(num, num), path("z"), part), impl.ErrForm)
			tells(t, what+", nowhere", impl.Swap(num, path("*"), part), impl.ErrForm)
			tells(t, what+", as deep as may be", impl.Swap(lists(4), path("****"), part), impl.ErrForm)
		}
	}
}

func TestNoWrongPathLeads(t *testing.T) {
	for _, wrong := range wrongSteps {
		for _, s := range []impl.Shape{num, list(num), maybe(rec(num)), rec(num, list(num)), rec()} {
			what := fmt.Sprintf("%s in %s", shown(wrong), written(s))
			bothTell(t, what, s, []string{wrong}, impl.ErrForm)
			bothTell(t, what, s, []string{"a", wrong}, impl.ErrForm)
			bothTell(t, what, s, []string{"*", wrong}, impl.ErrForm)
			bothTell(t, what, s, []string{wrong, "*"}, impl.ErrForm)
			bothTell(t, what+", behind what leads nowhere", s, []string{"z", "z", "z", "z", wrong}, impl.ErrForm)
		}
	}
}

func TestStepsThatLeadTooFar(t *testing.T) {
	stars := slices.Repeat([]string{"*"}, impl.MaxList+1)
	for _, s := range []impl.Shape{num, lists(4), rec(rec(rec(rec(rec())))), wide(5)} {
		for _, steps := range [][]string{stars, manySteps} {
			what := shown(steps[0]) + " in " + shown(written(s))
			bothTell(t, what, s, steps[:impl.MaxDeep], impl.ErrNone)
			for _, size := range []int{impl.MaxDeep + 1, impl.MaxDeep + 2, impl.MaxList - 1, impl.MaxList} {
				bothTell(t, what, s, steps[:size], impl.ErrForm)
			}
			bothTell(t, what, s, steps, impl.ErrSize)
		}
	}
}

// TestSizeIsToldFirst: ahead of all that the shapes could tell.
func TestSizeIsToldFirst(t *testing.T) {
	for _, last := range append([]string{"a", "*"}, wrongSteps...) {
		steps := append(slices.Clone(manySteps[:impl.MaxList]), last)
		for _, p := range [][]string{steps, slices.Concat(steps, steps, manySteps)} {
			for what, wrong := range wrongShapes() {
				bothTell(t, what, wrong, p, impl.ErrSize)
				tells(t, "part: "+what, impl.Swap(num, p, wrong), impl.ErrSize)
				tells(t, "both: "+what, impl.Swap(wrong, p, wrong), impl.ErrSize)
			}
			bothTell(t, "right", rec(num), p, impl.ErrSize)
		}
	}
}

// TestLongStepsAreNoLongTexts: what stands within a list is not handed in as such.
func TestLongStepsAreNoLongTexts(t *testing.T) {
	for _, size := range []int{impl.MaxBytes - 1, impl.MaxBytes, impl.MaxBytes + 1, 2 * impl.MaxBytes} {
		bothTell(t, "a long step", rec(num), []string{times("a", size)}, impl.ErrForm)
	}
}

// TestNowhereIsToldAheadOfTooDeep: there is no telling how deep it would be.
func TestNowhereIsToldAheadOfTooDeep(t *testing.T) {
	for _, deep := range []impl.Shape{lists(3), lists(4), wide(5), rec(rec(rec(rec(rec()))))} {
		tells(t, "a name that it has not", impl.Swap(rec(num), path("z"), deep), impl.ErrNone)
		tells(t, "into a record", impl.Swap(rec(num), path("*"), deep), impl.ErrNone)
		tells(t, "far in", impl.Swap(rec(list(num)), path("a*a"), deep), impl.ErrNone)
		tells(t, "too far in", impl.Swap(lists(4), path("*****"), deep), impl.ErrNone)
		tells(t, "nowhere at its first step", impl.Swap(lists(4), path("a***"), deep), impl.ErrNone)
		tells(t, "somewhere", impl.Swap(lists(4), path("***"), deep), impl.ErrFull)
	}
}
