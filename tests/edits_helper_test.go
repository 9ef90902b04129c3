package tests

import (
	"fmt"
	"math/rand"
	"slices"
	"strconv"
	"strings"
	"testing"

	"loop.example/g00848/impl"
)

// addOf and those below take a path of one byte a step.
func addOf(steps string, at int64, name string, s impl.Shape) impl.Edit {
	return impl.Edit{Kind: impl.EdAdd, Path: path(steps), At: at, Name: name, Shape: s}
}

func dropOf(steps string, at int64, name string, s impl.Shape) impl.Edit {
	return impl.Edit{Kind: impl.EdDrop, Path: path(steps), At: at, Name: name, Shape: s}
}

func nameOf(steps string, name string, to string) impl.Edit {
	return impl.Edit{Kind: impl.EdName, Path: path(steps), Name: name, To: to}
}

func symOf(steps string, at int64, name string) impl.Edit {
	return impl.Edit{Kind: impl.EdSym, Path: path(steps), At: at, Name: name}
}

func unsymOf(steps string, at int64, name string) impl.Edit {
	return impl.Edit{Kind: impl.EdUnsym, Path: path(steps), At: at, Name: name}
}

// bareOf is for EdMaybe, EdSure, EdList and EdOne.
func bareOf(kind int64, steps string) impl.Edit {
	return impl.Edit{Kind: kind, Path: path(steps)}
}

func setOf(steps string, s impl.Shape, was impl.Shape) impl.Edit {
	return impl.Edit{Kind: impl.EdSet, Path: path(steps), Shape: s, Was: was}
}

// oneOfEachKind is right edits, each at the place of its Kind.
func oneOfEachKind() []impl.Edit {
	return []impl.Edit{
		impl.EdAdd:   addOf("a*", 2, "abc", list(num)),
		impl.EdDrop:  dropOf("", 0, "b", pick("red", "green")),
		impl.EdName:  nameOf("b", "abc", "d"),
		impl.EdSym:   symOf("*", 1, "blue"),
		impl.EdUnsym: unsymOf("", 5, "abcdefgh"),
		impl.EdMaybe: bareOf(impl.EdMaybe, "ab"),
		impl.EdSure:  bareOf(impl.EdSure, ""),
		impl.EdList:  bareOf(impl.EdList, "****"),
		impl.EdOne:   bareOf(impl.EdOne, "a"),
		impl.EdSet:   setOf("c", maybe(flag), rec(num, text)),
	}[impl.EdAdd:]
}

// wrongTurns is what makes an edit one that is not right, whatever its Kind is.
func wrongTurns() map[string]func(e *impl.Edit) {
	return map[string]func(e *impl.Edit){
		"kind 0":             func(e *impl.Edit) { e.Kind = 0 },
		"kind 11":            func(e *impl.Edit) { e.Kind = impl.EdSet + 1 },
		"kind beyond 8":      func(e *impl.Edit) { e.Kind += 256 },
		"a wrong step":       func(e *impl.Edit) { e.Path = []string{"A"} },
		"six steps":          func(e *impl.Edit) { e.Path = path("******") },
		"many steps":         func(e *impl.Edit) { e.Path = manySteps[:impl.MaxList+1] },
		"at -1":              func(e *impl.Edit) { e.At = -1 },
		"at 6":               func(e *impl.Edit) { e.At = impl.MaxFields },
		"a wrong Name":       func(e *impl.Edit) { e.Name = "A" },
		"a wrong To":         func(e *impl.Edit) { e.To = "a1" },
		"a Name too long":    func(e *impl.Edit) { e.Name = tooLong },
		"a wrong Shape":      func(e *impl.Edit) { e.Shape = pick() },
		"a wrong Was":        func(e *impl.Edit) { e.Was = ring(impl.ShList) },
		"a Shape of no Kind": func(e *impl.Edit) { e.Shape = impl.Shape{Syms: []string{"a"}} },
	}
}

func editAlike(a impl.Edit, b impl.Edit) bool {
	return a.Kind == b.Kind && slices.Equal(a.Path, b.Path) && a.At == b.At && a.Name == b.Name && a.To == b.To && alike(a.Shape, b.Shape) && alike(a.Was, b.Was)
}

func sameEdit(t *testing.T, what string, got impl.Edit, want impl.Edit) {
	t.Helper()
	if !editAlike(got, want) {
		t.Errorf("%s: got %s, want %s", what, shown(got), shown(want))
	}
}

func sameEdits(t *testing.T, what string, got []impl.Edit, want []impl.Edit) {
	t.Helper()
	if !slices.EqualFunc(got, want, editAlike) {
		t.Errorf("%s: got %s, want %s", what, shown(got), shown(want))
	}
}

func sameEditOut(t *testing.T, what string, got impl.EditOut, want impl.EditOut) {
	t.Helper()
	if got.Code != want.Code || !editAlike(got.Edit, want.Edit) {
		t.Errorf("%s: got %s, want %s", what, shown(got), shown(want))
	}
}

// editCopied shares no lists with what it is of.
func editCopied(e impl.Edit) impl.Edit {
	e.Path, e.Shape, e.Was = slices.Clone(e.Path), copied(e.Shape), copied(e.Was)
	return e
}

func editsCopied(l []impl.Edit) []impl.Edit {
	out := []impl.Edit{}
	for _, e := range l {
		out = append(out, editCopied(e))
	}
	return out
}

// editWritten is the text of a right edit, put together beside the program.
func editWritten(e impl.Edit) string {
	heads := []string{"", "add", "drop", "name", "sym", "unsym", "maybe", "sure", "list", "one", "set"}
	head := heads[e.Kind] + " /" + strings.Join(e.Path, "/")
	at := strconv.Itoa(int(e.At))
	switch e.Kind {
	case impl.EdAdd, impl.EdDrop:
		return head + " " + at + " " + e.Name + " " + written(e.Shape)
	case impl.EdName:
		return head + " " + e.Name + " " + e.To
	case impl.EdSym, impl.EdUnsym:
		return head + " " + at + " " + e.Name
	case impl.EdSet:
		return head + " " + written(e.Shape) + " " + written(e.Was)
	}
	return head
}

func editsWritten(l []impl.Edit) string {
	texts := []string{}
	for _, e := range l {
		texts = append(texts, editWritten(e))
	}
	return strings.Join(texts, "; ")
}

// backBy is what undoes a right edit, told beside the program.
func backBy(e impl.Edit) impl.Edit {
	out := editCopied(e)
	out.Kind = []int64{0, impl.EdDrop, impl.EdAdd, impl.EdName, impl.EdUnsym, impl.EdSym, impl.EdSure, impl.EdMaybe, impl.EdOne, impl.EdList, impl.EdSet}[e.Kind]
	if e.Kind == impl.EdName {
		out.Name, out.To = e.To, e.Name
	}
	if e.Kind == impl.EdSet {
		out.Shape, out.Was = copied(e.Was), copied(e.Shape)
	}
	return out
}

// row is the words of a shape, and the shapes behind them, where it has such.
type row struct {
	words  []string
	shapes []impl.Shape
}

// put is the row with one more in it, and cut is the row with one less.
func (r row) put(at int64, word string, s impl.Shape) row {
	var out row
	for i := 0; i <= len(r.words); i++ {
		if i == int(at) {
			out.words, out.shapes = append(out.words, word), append(out.shapes, s)
		}
		if i < len(r.words) {
			out.words, out.shapes = append(out.words, r.words[i]), append(out.shapes, r.shapes[i])
		}
	}
	return out
}

func (r row) cut(at int64) row {
	var out row
	for i, word := range r.words {
		if i != int(at) {
			out.words, out.shapes = append(out.words, word), append(out.shapes, r.shapes[i])
		}
	}
	return out
}

// at is the word at that place, or the empty one.
func (r row) at(at int64) string {
	if at >= int64(len(r.words)) {
		return ""
	}
	return r.words[at]
}

func (r row) has(word string) bool {
	return strings.Contains(","+strings.Join(r.words, ",")+",", ","+word+",")
}

// recEditedBy and those below take what the edit's Kind can change.
func recEditedBy(s impl.Shape, e impl.Edit) (impl.Shape, int64) {
	r := row{s.Names, s.Shapes}
	switch {
	case e.Kind == impl.EdAdd && r.has(e.Name):
		return impl.Shape{}, impl.ErrThere
	case e.Kind == impl.EdAdd && int(e.At) > len(s.Names):
		return impl.Shape{}, impl.ErrRange
	case e.Kind == impl.EdAdd:
		r = r.put(e.At, e.Name, e.Shape)
	case e.Kind == impl.EdDrop && r.at(e.At) != e.Name:
		return impl.Shape{}, impl.ErrNone
	case e.Kind == impl.EdDrop && written(r.shapes[e.At]) != written(e.Shape):
		return impl.Shape{}, impl.ErrThere
	case e.Kind == impl.EdDrop:
		r = r.cut(e.At)
	case !r.has(e.Name):
		return impl.Shape{}, impl.ErrNone
	case r.has(e.To):
		return impl.Shape{}, impl.ErrThere
	default:
		at := int64(0)
		for r.words[at] != e.Name {
			at++
		}
		r = r.cut(at).put(at, e.To, r.shapes[at])
	}
	return impl.Shape{Kind: impl.ShRec, Names: r.words, Shapes: r.shapes}, impl.OK
}

func pickEditedBy(s impl.Shape, e impl.Edit) (impl.Shape, int64) {
	r := row{s.Syms, make([]impl.Shape, len(s.Syms))}
	switch {
	case e.Kind == impl.EdSym && r.has(e.Name):
		return impl.Shape{}, impl.ErrThere
	case e.Kind == impl.EdUnsym && r.at(e.At) != e.Name:
		return impl.Shape{}, impl.ErrNone
	case e.At == 0 || int(e.At) > len(s.Syms):
		return impl.Shape{}, impl.ErrRange
	case e.Kind == impl.EdSym:
		return pick(r.put(e.At, e.Name, impl.Shape{}).words...), impl.OK
	}
	return pick(r.cut(e.At).words...), impl.OK
}

// changesKind is what an edit of that Kind can change, or 0, if that is any.
func changesKind(kind int64) int64 {
	return []int64{0, impl.ShRec, impl.ShRec, impl.ShRec, impl.ShPick, impl.ShPick, 0, impl.ShMaybe, 0, impl.ShList, 0}[kind]
}

func partEditedBy(part impl.Shape, e impl.Edit) (impl.Shape, int64) {
	if kind := changesKind(e.Kind); kind != 0 && kind != part.Kind {
		return impl.Shape{}, impl.ErrState
	}
	switch e.Kind {
	case impl.EdAdd, impl.EdDrop, impl.EdName:
		return recEditedBy(part, e)
	case impl.EdSym, impl.EdUnsym:
		return pickEditedBy(part, e)
	case impl.EdMaybe:
		return maybe(part), impl.OK
	case impl.EdList:
		return list(part), impl.OK
	case impl.EdSure, impl.EdOne:
		return part.Shapes[0], impl.OK
	}
	if written(part) != written(e.Was) {
		return impl.Shape{}, impl.ErrThere
	}
	return e.Shape, impl.OK
}

// editedBy is the text of what becomes of a right shape by a right edit, and the code, both told beside the program.
func editedBy(s impl.Shape, e impl.Edit) (string, int64) {
	part, found := placeAt(s, e.Path)
	if !found {
		return "", impl.ErrNone
	}
	changed, code := partEditedBy(part, e)
	if code != impl.OK {
		return "", code
	}
	whole := writtenWith(s, e.Path, changed)
	if !saysShape(whole, impl.MaxDeep) {
		return "", impl.ErrFull
	}
	return whole, impl.OK
}

// editsAsBeside holds EditApply of a right shape and edit against what is told beside the program, and tells its code. What
// was done is undone.
func editsAsBeside(t *testing.T, s impl.Shape, e impl.Edit) int64 {
	t.Helper()
	what := fmt.Sprintf("%s of %s", editWritten(e), written(s))
	want, code := editedBy(s, e)
	got := impl.EditApply(s, e)
	if code != impl.OK {
		tells(t, what, got, code)
		tells(t, what+", as a list", impl.EditsApply(s, []impl.Edit{e}), code)
		return code
	}
	same(t, what, got.Code, impl.OK)
	same(t, what, written(got.Shape), want)
	same(t, what+": is right", impl.ShapeRight(got.Shape), true)
	sameShapeOut(t, what+", as a list", impl.EditsApply(s, []impl.Edit{e}), got)
	undoneAndDone(t, what, s, e, got.Shape)
	return code
}

// undoneAndDone is promise 8 of an edit by which one shape becomes another one.
func undoneAndDone(t *testing.T, what string, s impl.Shape, e impl.Edit, changed impl.Shape) {
	t.Helper()
	back := impl.EditBack(e)
	same(t, what+": what undoes it is right", impl.EditRight(back), true)
	sameShapeOut(t, what+", undone", impl.EditApply(changed, back), impl.ShapeOut{Shape: s})
	sameShapeOut(t, what+", done again", impl.EditApply(s, impl.EditBack(back)), impl.ShapeOut{Shape: changed})
	sameShapeOut(t, what+", done and undone", impl.EditsApply(s, []impl.Edit{e, back}), impl.ShapeOut{Shape: s})
	sameShapeOut(t, what+", undone and done", impl.EditsApply(changed, []impl.Edit{back, e}), impl.ShapeOut{Shape: changed})
}

// smallEdits is whatever right edit can be put together of a few pieces.
func smallEdits() []impl.Edit {
	out := []impl.Edit{}
	for _, steps := range []string{"", "a", "*", "a*"} {
		for _, at := range []int64{0, 1, 2, 5} {
			for _, name := range []string{"a", "b", "z"} {
				out = append(out, addOf(steps, at, name, list(num)), dropOf(steps, at, name, num), nameOf(steps, name, letter(int(at))), symOf(steps, at, name), unsymOf(steps, at, name))
			}
		}
		for _, kind := range []int64{impl.EdMaybe, impl.EdSure, impl.EdList, impl.EdOne} {
			out = append(out, bareOf(kind, steps))
		}
		out = append(out, setOf(steps, text, num), setOf(steps, num, pick("b", "a")))
	}
	return out
}

// someWord is one that stands there, or any.
func someWord(random *rand.Rand, there []string) string {
	if len(there) > 0 && random.Intn(2) == 0 {
		return there[random.Intn(len(there))]
	}
	return letter(random.Intn(26))
}

// someEdit is any right edit, more often than not one that can be done.
func someEdit(random *rand.Rand, s impl.Shape) impl.Edit {
	e := impl.Edit{Kind: 1 + random.Int63n(10), Path: somePath(random, s)}
	part, _ := placeAt(s, e.Path)
	for changesKind(e.Kind) != 0 && changesKind(e.Kind) != part.Kind && random.Intn(20) > 0 {
		e.Kind = 1 + random.Int63n(10)
	}
	words := slices.Concat(part.Syms, part.Names)
	at := random.Intn(min(len(words)+1, impl.MaxFields))
	if random.Intn(8) == 0 {
		at = random.Intn(impl.MaxFields)
	}
	switch e.Kind {
	case impl.EdAdd:
		e.At, e.Name, e.Shape = int64(at), someWord(random, nil), someShape(random, 1+random.Intn(3))
	case impl.EdDrop:
		e.At, e.Name, e.Shape = int64(at), someWord(random, words), num
		if at < len(part.Names) && random.Intn(6) > 0 {
			e.Name, e.Shape = part.Names[at], beside(random, part.Shapes[at])
		}
	case impl.EdName:
		e.Name, e.To = someWord(random, words), someWord(random, nil)
	case impl.EdSym:
		e.At, e.Name = int64(at), someWord(random, nil)
	case impl.EdUnsym:
		e.At, e.Name = int64(at), someWord(random, words)
		if at < len(part.Syms) && random.Intn(6) > 0 {
			e.Name = part.Syms[at]
		}
	case impl.EdSet:
		e.Shape, e.Was = someShape(random, 1+random.Intn(3)), num
		if part.Kind != 0 {
			e.Was = beside(random, part)
		}
	}
	return editCopied(e)
}

// someEdits is right edits that can be done, one after the other, and what comes of the shape by them.
func someEdits(random *rand.Rand, s impl.Shape, count int) ([]impl.Edit, impl.Shape) {
	const tries = 10000
	out := []impl.Edit{}
	for range tries {
		if len(out) == count {
			break
		}
		e := someEdit(random, s)
		whole, code := editedBy(s, e)
		if code == impl.OK && len(whole) < 500 {
			out = append(out, e)
			s = impl.ShapeRead(whole).Shape
		}
	}
	return out, s
}
