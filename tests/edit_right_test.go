package tests

import (
	"fmt"
	"math"
	"slices"
	"strings"
	"testing"

	"loop.example/g00848/impl"
)

// fieldsOf names the fields that edits of a Kind have beside their Path: At, Name, To, Shape, Was by their first letters.
func fieldsOf(kind int64) string {
	return []string{"", "ANS", "ANS", "NT", "AN", "AN", "", "", "", "", "SW"}[kind]
}

// refusedEdit: what is not right is refused by all that take an edit, whatever the shape.
func refusedEdit(t *testing.T, what string, e impl.Edit) {
	t.Helper()
	same(t, what+": EditRight", impl.EditRight(e), false)
	same(t, what+": EditText", impl.EditText(e), "")
	sameEdit(t, what+": EditBack", impl.EditBack(e), impl.Edit{})
	same(t, what+": Loses", impl.Loses(e), false)
	same(t, what+": Cost", impl.Cost([]impl.Edit{e}), -1)
	for _, s := range []impl.Shape{num, pick("red", "green"), rec(list(rec(num, text)), num), lists(4), {}, pick()} {
		tells(t, what+": EditApply", impl.EditApply(s, e), impl.ErrForm)
		tells(t, what+": EditsApply", impl.EditsApply(s, []impl.Edit{e}), impl.ErrForm)
		notCarried(t, what+": Carry", s, e, impl.Blank(s), impl.Blank(s), true, impl.ErrForm)
		notCarried(t, what+": Carry", s, e, impl.Blank(s), impl.Blank(s), false, impl.ErrForm)
	}
	right := bareOf(impl.EdMaybe, "")
	for _, l := range [][]impl.Edit{{e}, {e, right}, {right, e}, {right, right, e, right}, {e, e}} {
		sameEdits(t, what+": EditsBack", impl.EditsBack(l), nil)
	}
}

// rightEdit is taken by all that take an edit; what it can change is not asked.
func rightEdit(t *testing.T, e impl.Edit) {
	t.Helper()
	what := shown(editWritten(e))
	same(t, what+": EditRight", impl.EditRight(e), true)
	same(t, what+": EditText", impl.EditText(e), editWritten(e))
	sameEdit(t, what+": EditBack", impl.EditBack(e), backBy(e))
	sameEdits(t, what+": EditsBack", impl.EditsBack([]impl.Edit{e}), []impl.Edit{backBy(e)})
	editsAsBeside(t, num, e)
}

func TestRightEdits(t *testing.T) {
	empty := impl.Shape{Syms: []string{}, Names: []string{}, Shapes: []impl.Shape{}}
	for _, e := range oneOfEachKind() {
		rightEdit(t, e)
		for _, steps := range []string{"", "a", "*", "zzzzz", "*****", "a*b*c"} {
			e := editCopied(e)
			e.Path = path(steps)
			rightEdit(t, e)
		}
		has := fieldsOf(e.Kind)
		for _, word := range []string{"a", "z", "abcdefgh", "add", "rec"} {
			e := editCopied(e)
			if strings.Contains(has, "N") {
				e.Name = word
			}
			if strings.Contains(has, "T") {
				e.To = word
			}
			rightEdit(t, e)
		}
		for at := range int64(impl.MaxFields) {
			if strings.Contains(has, "A") {
				e.At = at
			}
			rightEdit(t, e)
		}
		for _, s := range []impl.Shape{flag, num, text, pick("a"), rec(), lists(4), wide(5), sized(impl.MaxBytes + 1), empty} {
			e := editCopied(e)
			if strings.Contains(has, "S") == (s.Kind != 0) {
				e.Shape = s
			}
			if strings.Contains(has, "W") == (s.Kind != 0) {
				e.Was = s
			}
			rightEdit(t, e)
		}
	}
}

func TestEditsOfNoKind(t *testing.T) {
	for _, kind := range []int64{0, -1, impl.EdSet + 1, 100, math.MinInt64, math.MaxInt64, 1<<32 + impl.EdMaybe, 256 + impl.EdMaybe} {
		refusedEdit(t, fmt.Sprint("kind ", kind), impl.Edit{Kind: kind})
		for _, e := range oneOfEachKind() {
			e.Kind = kind
			refusedEdit(t, fmt.Sprint("kind ", kind), e)
		}
	}
	refusedEdit(t, "zero", impl.Edit{})
}

func TestEditsByWrongPaths(t *testing.T) {
	for _, e := range oneOfEachKind() {
		for _, wrong := range wrongSteps {
			for _, p := range [][]string{{wrong}, {"a", wrong}, {wrong, "*"}, {"a", "b", "c", "d", wrong}} {
				e.Path = p
				refusedEdit(t, "path "+shown(p), e)
			}
		}
		// Of too many steps, too, ErrForm is told: they are a field of what is handed in.
		for _, size := range []int{impl.MaxDeep + 1, impl.MaxDeep + 2, impl.MaxList, impl.MaxList + 1} {
			e.Path = manySteps[:size]
			refusedEdit(t, fmt.Sprint(size, " steps"), e)
			e.Path = slices.Repeat([]string{"*"}, size)
			refusedEdit(t, fmt.Sprint(size, " stars"), e)
		}
	}
}

var wrongWords = []string{"", " ", "abcdefghi", "A", "aB", "a1", "1", "a_", "*", "/", "a b", " a", "a ", "a\n", "a\x00", "\xe4", times("a", impl.MaxBytes), times("a", impl.MaxBytes+1), tooLong}

func TestEditsOfWrongPlaces(t *testing.T) {
	for _, e := range oneOfEachKind() {
		for _, at := range []int64{-1, impl.MaxFields, impl.MaxFields + 1, 1 << 32, math.MinInt64, math.MaxInt64, 1, 5} {
			if strings.Contains(fieldsOf(e.Kind), "A") && at >= 0 && at < impl.MaxFields {
				continue
			}
			e.At = at
			refusedEdit(t, fmt.Sprint("kind ", e.Kind, " at ", at), e)
		}
	}
}

// wordHeld: may it stand in a field that the Kind has, or has not?
func wordHeld(has bool, word string) bool {
	if !has {
		return word == ""
	}
	return !slices.Contains(wrongWords, word)
}

func TestEditsOfWrongWords(t *testing.T) {
	for _, kind := range oneOfEachKind() {
		has := fieldsOf(kind.Kind)
		for _, word := range append([]string{"a", "abcdefgh"}, wrongWords...) {
			what := fmt.Sprint("kind ", kind.Kind, ", ", shown(word))
			e := kind
			e.Name = word
			if !wordHeld(strings.Contains(has, "N"), word) {
				refusedEdit(t, what+" as Name", e)
			}
			e = kind
			e.To = word
			if !wordHeld(strings.Contains(has, "T"), word) {
				refusedEdit(t, what+" as To", e)
			}
		}
	}
}

func TestEditsOfWrongShapes(t *testing.T) {
	wrong := wrongShapes()
	delete(wrong, "zero")
	for _, kind := range oneOfEachKind() {
		has := fieldsOf(kind.Kind)
		for what, s := range wrong {
			what := fmt.Sprint("kind ", kind.Kind, ", ", what)
			e := kind
			e.Shape = s
			refusedEdit(t, what+" as Shape", e)
			e = kind
			e.Was = s
			refusedEdit(t, what+" as Was", e)
		}
		for _, c := range kinds() {
			e := kind
			e.Shape = c.shape
			if !strings.Contains(has, "S") {
				refusedEdit(t, fmt.Sprint("kind ", e.Kind, " with a Shape, ", c.what), e)
			}
			e = kind
			e.Was = c.shape
			if !strings.Contains(has, "W") {
				refusedEdit(t, fmt.Sprint("kind ", e.Kind, " with a Was, ", c.what), e)
			}
		}
		if strings.Contains(has, "S") {
			e := kind
			e.Shape = impl.Shape{}
			refusedEdit(t, fmt.Sprint("kind ", e.Kind, " without Shape"), e)
		}
		if strings.Contains(has, "W") {
			e := kind
			e.Was = impl.Shape{}
			refusedEdit(t, fmt.Sprint("kind ", e.Kind, " without Was"), e)
		}
	}
	// Not zero, though its Kind is.
	for _, s := range []impl.Shape{{Syms: []string{""}}, {Names: []string{"a"}}, {Shapes: []impl.Shape{{}}}} {
		for _, kind := range []int64{impl.EdName, impl.EdSym, impl.EdMaybe} {
			e := oneOfEachKind()[kind-1]
			e.Shape = s
			refusedEdit(t, fmt.Sprint("kind ", kind, ", a Shape of no kind"), e)
			e.Shape, e.Was = impl.Shape{}, s
			refusedEdit(t, fmt.Sprint("kind ", kind, ", a Was of no kind"), e)
		}
	}
}
