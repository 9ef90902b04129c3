package tests

import (
	"fmt"
	"math/rand"
	"slices"
	"testing"

	"loop.example/g00848/impl"
)

// editCase is a shape, an edit, and what becomes of the shape, or the code.
type editCase struct {
	s    string
	e    impl.Edit
	want string
	code int64
}

// editsAsSaid asks of the shape alone, and of it within others.
func editsAsSaid(t *testing.T, c editCase) {
	t.Helper()
	within := []struct{ ahead, behind, step string }{{"", "", ""}, {"list(", ")", "*"}, {"maybe(", ")", "*"}, {"rec(y:num,z:", ",x:list(text))", "z"}, {"rec(z:rec(z:", "))", "zz"}}
	for _, w := range within {
		read := impl.ShapeRead(w.ahead + c.s + w.behind)
		same(t, c.s+" is right", read.Code, impl.OK)
		s, e := read.Shape, editCopied(c.e)
		e.Path = slices.Concat(path(w.step), e.Path)
		what := fmt.Sprintf("%s of %s", editWritten(e), written(s))
		got := impl.EditApply(s, e)
		same(t, what, got.Code, c.code)
		if c.code == impl.OK {
			same(t, what, written(got.Shape), w.ahead+c.want+w.behind)
		}
		same(t, what+", beside", editsAsBeside(t, s, e), c.code)
	}
}

func TestEditFields(t *testing.T) {
	const none, one, two, six = "rec()", "rec(a:num)", "rec(a:num,b:pick(red,green))", "rec(a:num,b:num,c:num,d:num,e:num,f:text)"
	for _, c := range []editCase{
		{none, addOf("", 0, "a", num), one, impl.OK},
		{none, addOf("", 1, "a", num), "", impl.ErrRange},
		{none, addOf("", 5, "a", num), "", impl.ErrRange},
		{one, addOf("", 0, "b", text), "rec(b:text,a:num)", impl.OK},
		{one, addOf("", 1, "b", text), "rec(a:num,b:text)", impl.OK},
		{one, addOf("", 2, "b", text), "", impl.ErrRange},
		{one, addOf("", 0, "a", num), "", impl.ErrThere},
		{one, addOf("", 1, "a", text), "", impl.ErrThere},
		{one, addOf("", 5, "a", text), "", impl.ErrThere},
		{one, addOf("", 1, "aa", flag), "rec(a:num,aa:flag)", impl.OK},
		{two, addOf("", 0, "abcdefgh", flag), "rec(abcdefgh:flag,a:num,b:pick(red,green))", impl.OK},
		{two, addOf("", 1, "c", list(text)), "rec(a:num,c:list(text),b:pick(red,green))", impl.OK},
		{two, addOf("", 2, "c", rec()), "rec(a:num,b:pick(red,green),c:rec())", impl.OK},
		{two, addOf("", 3, "c", num), "", impl.ErrRange},
		{two, addOf("", 5, "c", num), "", impl.ErrRange},
		{two, addOf("", 2, "red", num), "rec(a:num,b:pick(red,green),red:num)", impl.OK},
		{"rec(a:num,b:num,c:num,d:num,e:num)", addOf("", 5, "f", text), six, impl.OK},
		{"rec(b:num,c:num,d:num,e:num,f:text)", addOf("", 0, "a", num), six, impl.OK},
		{six, addOf("", 0, "g", num), "", impl.ErrFull},
		{six, addOf("", 5, "g", num), "", impl.ErrFull},
		{six, addOf("", 5, "f", num), "", impl.ErrThere},
		{one, dropOf("", 0, "a", num), none, impl.OK},
		{one, dropOf("", 0, "a", text), "", impl.ErrThere},
		{one, dropOf("", 0, "b", num), "", impl.ErrNone},
		{one, dropOf("", 0, "b", text), "", impl.ErrNone},
		{one, dropOf("", 1, "a", num), "", impl.ErrNone},
		{one, dropOf("", 5, "a", num), "", impl.ErrNone},
		{none, dropOf("", 0, "a", num), "", impl.ErrNone},
		{two, dropOf("", 0, "a", num), "rec(b:pick(red,green))", impl.OK},
		{two, dropOf("", 1, "b", pick("red", "green")), one, impl.OK},
		{two, dropOf("", 1, "b", pick("green", "red")), "", impl.ErrThere},
		{two, dropOf("", 1, "b", pick("red")), "", impl.ErrThere},
		{two, dropOf("", 1, "b", num), "", impl.ErrThere},
		{two, dropOf("", 1, "a", num), "", impl.ErrNone},
		{two, dropOf("", 0, "b", pick("red", "green")), "", impl.ErrNone},
		{two, dropOf("", 2, "b", pick("red", "green")), "", impl.ErrNone},
		{six, dropOf("", 5, "f", text), "rec(a:num,b:num,c:num,d:num,e:num)", impl.OK},
		{six, dropOf("", 2, "c", num), "rec(a:num,b:num,d:num,e:num,f:text)", impl.OK},
		{one, nameOf("", "a", "b"), "rec(b:num)", impl.OK},
		{one, nameOf("", "a", "a"), "", impl.ErrThere},
		{one, nameOf("", "b", "a"), "", impl.ErrNone},
		{one, nameOf("", "b", "b"), "", impl.ErrNone},
		{none, nameOf("", "a", "b"), "", impl.ErrNone},
		{two, nameOf("", "a", "z"), "rec(z:num,b:pick(red,green))", impl.OK},
		{two, nameOf("", "b", "abcdefgh"), "rec(a:num,abcdefgh:pick(red,green))", impl.OK},
		{two, nameOf("", "a", "b"), "", impl.ErrThere},
		{two, nameOf("", "b", "a"), "", impl.ErrThere},
		{two, nameOf("", "b", "b"), "", impl.ErrThere},
		{two, nameOf("", "c", "a"), "", impl.ErrNone},
		{two, nameOf("", "red", "blue"), "", impl.ErrNone},
		{six, nameOf("", "f", "g"), "rec(a:num,b:num,c:num,d:num,e:num,g:text)", impl.OK},
	} {
		editsAsSaid(t, c)
	}
}

func TestEditSyms(t *testing.T) {
	const one, two, six = "pick(red)", "pick(red,green)", "pick(a,b,c,d,e,f)"
	for _, c := range []editCase{
		{one, symOf("", 1, "green"), two, impl.OK},
		{one, symOf("", 0, "green"), "", impl.ErrRange},
		{one, symOf("", 2, "green"), "", impl.ErrRange},
		{one, symOf("", 5, "green"), "", impl.ErrRange},
		{one, symOf("", 0, "red"), "", impl.ErrThere},
		{one, symOf("", 1, "red"), "", impl.ErrThere},
		{one, symOf("", 5, "red"), "", impl.ErrThere},
		{two, symOf("", 1, "blue"), "pick(red,blue,green)", impl.OK},
		{two, symOf("", 2, "blue"), "pick(red,green,blue)", impl.OK},
		{two, symOf("", 0, "blue"), "", impl.ErrRange},
		{two, symOf("", 3, "blue"), "", impl.ErrRange},
		{two, symOf("", 1, "green"), "", impl.ErrThere},
		{two, symOf("", 0, "green"), "", impl.ErrThere},
		{two, symOf("", 1, "re"), "pick(red,re,green)", impl.OK},
		{"pick(a,b,c,d,e)", symOf("", 5, "f"), six, impl.OK},
		{"pick(a,c,d,e,f)", symOf("", 1, "b"), six, impl.OK},
		{six, symOf("", 1, "g"), "", impl.ErrFull},
		{six, symOf("", 5, "g"), "", impl.ErrFull},
		{six, symOf("", 0, "g"), "", impl.ErrRange},
		{six, symOf("", 5, "a"), "", impl.ErrThere},
		{two, unsymOf("", 1, "green"), one, impl.OK},
		{two, unsymOf("", 0, "red"), "", impl.ErrRange},
		{two, unsymOf("", 0, "green"), "", impl.ErrNone},
		{two, unsymOf("", 0, "blue"), "", impl.ErrNone},
		{two, unsymOf("", 1, "red"), "", impl.ErrNone},
		{two, unsymOf("", 1, "blue"), "", impl.ErrNone},
		{two, unsymOf("", 2, "green"), "", impl.ErrNone},
		{two, unsymOf("", 5, "green"), "", impl.ErrNone},
		{one, unsymOf("", 0, "red"), "", impl.ErrRange},
		{one, unsymOf("", 0, "green"), "", impl.ErrNone},
		{one, unsymOf("", 1, "red"), "", impl.ErrNone},
		{six, unsymOf("", 5, "f"), "pick(a,b,c,d,e)", impl.OK},
		{six, unsymOf("", 1, "b"), "pick(a,c,d,e,f)", impl.OK},
		{six, unsymOf("", 0, "a"), "", impl.ErrRange},
	} {
		editsAsSaid(t, c)
	}
}

func TestEditAround(t *testing.T) {
	for _, c := range []editCase{
		{"num", bareOf(impl.EdMaybe, ""), "maybe(num)", impl.OK},
		{"num", bareOf(impl.EdList, ""), "list(num)", impl.OK},
		{"maybe(num)", bareOf(impl.EdMaybe, ""), "maybe(maybe(num))", impl.OK},
		{"maybe(num)", bareOf(impl.EdList, ""), "list(maybe(num))", impl.OK},
		{"list(num)", bareOf(impl.EdMaybe, ""), "maybe(list(num))", impl.OK},
		{"maybe(num)", bareOf(impl.EdMaybe, "*"), "maybe(maybe(num))", impl.OK},
		{"list(num)", bareOf(impl.EdMaybe, "*"), "list(maybe(num))", impl.OK},
		{"rec(a:num,b:text)", bareOf(impl.EdList, ""), "list(rec(a:num,b:text))", impl.OK},
		{"rec(a:num,b:text)", bareOf(impl.EdList, "b"), "rec(a:num,b:list(text))", impl.OK},
		{"maybe(num)", bareOf(impl.EdSure, ""), "num", impl.OK},
		{"maybe(list(num))", bareOf(impl.EdSure, ""), "list(num)", impl.OK},
		{"list(maybe(num))", bareOf(impl.EdSure, "*"), "list(num)", impl.OK},
		{"maybe(list(num))", bareOf(impl.EdOne, "*"), "maybe(num)", impl.OK},
		{"list(rec(a:num))", bareOf(impl.EdOne, ""), "rec(a:num)", impl.OK},
		{"rec(a:num,b:list(text))", bareOf(impl.EdOne, "b"), "rec(a:num,b:text)", impl.OK},
		{"rec(a:num,b:maybe(text))", bareOf(impl.EdSure, "b"), "rec(a:num,b:text)", impl.OK},
		{"list(num)", bareOf(impl.EdSure, ""), "", impl.ErrState},
		{"maybe(num)", bareOf(impl.EdOne, ""), "", impl.ErrState},
		{"maybe(list(num))", bareOf(impl.EdSure, "*"), "", impl.ErrState},
		{"maybe(list(num))", bareOf(impl.EdOne, ""), "", impl.ErrState},
		{"num", setOf("", text, num), "text", impl.OK},
		{"num", setOf("", num, num), "num", impl.OK},
		{"num", setOf("", text, flag), "", impl.ErrThere},
		{"num", setOf("", num, text), "", impl.ErrThere},
		{"rec(a:num,b:text)", setOf("a", list(flag), num), "rec(a:list(flag),b:text)", impl.OK},
		{"rec(a:num,b:text)", setOf("a", list(flag), text), "", impl.ErrThere},
		{"rec(a:num,b:text)", setOf("", flag, rec(num, text)), "flag", impl.OK},
		{"rec(a:num,b:text)", setOf("", flag, rec(text, num)), "", impl.ErrThere},
		{"rec(a:num,b:text)", setOf("", flag, recOf("ba", num, text)), "", impl.ErrThere},
		{"list(maybe(num))", setOf("*", pick("a"), maybe(num)), "list(pick(a))", impl.OK},
		{"list(pick(a,b))", setOf("*", num, pick("b", "a")), "", impl.ErrThere},
		{"list(pick(a,b))", setOf("*", num, pick("a")), "", impl.ErrThere},
	} {
		editsAsSaid(t, c)
	}
}

// TestEditInLists: what a path leads to may stand in a list of records, in which there is also another field of that name.
func TestEditInLists(t *testing.T) {
	const s = "rec(a:list(rec(b:pick(x,y),a:maybe(num))),b:num)"
	for _, c := range []struct {
		e    impl.Edit
		want string
	}{
		{addOf("a*", 1, "c", text), "rec(a:list(rec(b:pick(x,y),c:text,a:maybe(num))),b:num)"},
		{dropOf("a*", 1, "a", maybe(num)), "rec(a:list(rec(b:pick(x,y))),b:num)"},
		{dropOf("a*", 0, "b", pick("x", "y")), "rec(a:list(rec(a:maybe(num))),b:num)"},
		{nameOf("a*", "b", "z"), "rec(a:list(rec(z:pick(x,y),a:maybe(num))),b:num)"},
		{nameOf("", "b", "z"), "rec(a:list(rec(b:pick(x,y),a:maybe(num))),z:num)"},
		{symOf("a*b", 1, "z"), "rec(a:list(rec(b:pick(x,z,y),a:maybe(num))),b:num)"},
		{unsymOf("a*b", 1, "y"), "rec(a:list(rec(b:pick(x),a:maybe(num))),b:num)"},
		{bareOf(impl.EdSure, "a*a"), "rec(a:list(rec(b:pick(x,y),a:num)),b:num)"},
		{bareOf(impl.EdOne, "a"), "rec(a:rec(b:pick(x,y),a:maybe(num)),b:num)"},
		{bareOf(impl.EdMaybe, "b"), "rec(a:list(rec(b:pick(x,y),a:maybe(num))),b:maybe(num))"},
		{bareOf(impl.EdList, "a*b"), "rec(a:list(rec(b:list(pick(x,y)),a:maybe(num))),b:num)"},
		{setOf("a*", flag, recOf("ba", pick("x", "y"), maybe(num))), "rec(a:list(flag),b:num)"},
	} {
		same(t, c.want, editsAsBeside(t, impl.ShapeRead(s).Shape, c.e), impl.OK)
		same(t, c.want, written(impl.EditApply(impl.ShapeRead(s).Shape, c.e).Shape), c.want)
	}
}

// TestEditOtherKinds: each Kind of edit, of what is of each Kind.
func TestEditOtherKinds(t *testing.T) {
	for _, e := range oneOfEachKind() {
		for _, c := range kinds() {
			for _, steps := range []string{"", "*", "z", "b*z"} {
				e := editCopied(e)
				e.Path = path(steps)
				s := c.shape
				switch steps {
				case "*":
					s = list(s)
				case "z":
					s = recOf("yz", num, s)
				case "b*z":
					s = rec(num, maybe(recOf("zy", s, num)))
				}
				code := editsAsBeside(t, s, e)
				other := changesKind(e.Kind) != 0 && changesKind(e.Kind) != c.shape.Kind
				same(t, editWritten(e)+" of "+written(s), code == impl.ErrState, other)
			}
		}
	}
}

func TestEditNowhere(t *testing.T) {
	for _, e := range oneOfEachKind() {
		for _, c := range []struct {
			s    impl.Shape
			path string
		}{
			{num, "a"}, {num, "*"}, {rec(), "a"}, {rec(num), "b"}, {rec(num), "*"}, {list(rec(num)), "a"}, {list(rec(num)), "*b"}, {maybe(pick("a")), "*a"},
			{rec(list(rec(num))), "aa"}, {rec(list(rec(num))), "a**"}, {lists(4), "*****"}, {rec(rec(rec(rec(rec())))), "aaaaa"}, {wide(5), "fffff"},
		} {
			e.Path = path(c.path)
			same(t, editWritten(e)+" of "+written(c.s), editsAsBeside(t, c.s, e), impl.ErrNone)
		}
	}
}

// TestEditTooDeep: as deep as may be, and one deeper, by all that makes deeper.
func TestEditTooDeep(t *testing.T) {
	for _, c := range []struct {
		s    impl.Shape
		e    impl.Edit
		code int64
	}{
		{lists(3), bareOf(impl.EdMaybe, ""), impl.OK},
		{lists(3), bareOf(impl.EdList, ""), impl.OK},
		{lists(3), bareOf(impl.EdMaybe, "***"), impl.OK},
		{lists(4), bareOf(impl.EdMaybe, ""), impl.ErrFull},
		{lists(4), bareOf(impl.EdList, ""), impl.ErrFull},
		{lists(4), bareOf(impl.EdMaybe, "**"), impl.ErrFull},
		{lists(4), bareOf(impl.EdList, "****"), impl.ErrFull},
		{rec(num, lists(3)), bareOf(impl.EdList, "a"), impl.OK},
		{rec(num, lists(3)), bareOf(impl.EdList, "b"), impl.ErrFull},
		{rec(num, lists(3)), bareOf(impl.EdMaybe, ""), impl.ErrFull},
		{wide(5), bareOf(impl.EdMaybe, "fffe"), impl.ErrFull},
		{rec(rec(rec(rec(rec())))), bareOf(impl.EdMaybe, "aaaa"), impl.ErrFull},
		{rec(), addOf("", 0, "a", lists(3)), impl.OK},
		{rec(), addOf("", 0, "a", lists(4)), impl.ErrFull},
		{rec(num), addOf("", 1, "b", wide(5)), impl.ErrFull},
		{rec(rec(rec(rec(rec())))), addOf("aaa", 1, "b", num), impl.OK},
		{rec(rec(rec(rec(rec())))), addOf("aaa", 1, "b", rec()), impl.OK},
		{rec(rec(rec(rec(rec())))), addOf("aaa", 1, "b", list(num)), impl.ErrFull},
		{rec(rec(rec(rec(rec())))), addOf("aaaa", 0, "b", num), impl.ErrFull},
		{num, setOf("", lists(4), num), impl.OK},
		{num, setOf("", wide(5), num), impl.OK},
		{wide(5), setOf("", num, wide(5)), impl.OK},
		{list(num), setOf("*", lists(3), num), impl.OK},
		{list(num), setOf("*", lists(4), num), impl.ErrFull},
		{lists(4), setOf("****", text, num), impl.OK},
		{lists(4), setOf("****", rec(), num), impl.OK},
		{lists(4), setOf("****", rec(num), num), impl.ErrFull},
		{lists(4), bareOf(impl.EdOne, ""), impl.OK},
		{lists(4), bareOf(impl.EdOne, "***"), impl.OK},
	} {
		same(t, editWritten(c.e)+" of "+written(c.s), editsAsBeside(t, c.s, c.e), c.code)
	}
}

// TestSmallEdits: whatever edit can be put together of a few pieces, of each small shape.
func TestSmallEdits(t *testing.T) {
	codes := map[int64]int{}
	for _, s := range smallShapes() {
		for _, e := range smallEdits() {
			codes[editsAsBeside(t, s, e)]++
		}
	}
	for _, code := range []int64{impl.OK, impl.ErrNone, impl.ErrThere, impl.ErrRange, impl.ErrState} {
		same(t, fmt.Sprint("enough tell ", code), codes[code] > 100, true)
	}
}

func TestSomeEdits(t *testing.T) {
	random := rand.New(rand.NewSource(40))
	codes := map[int64]int{}
	done := map[int64]int{}
	const rounds = 40000
	for range rounds {
		s := someShape(random, 1+random.Intn(impl.MaxDeep))
		if impl.NodesOf(s) > 60 {
			continue
		}
		e := someEdit(random, s)
		code := editsAsBeside(t, s, e)
		codes[code]++
		if code == impl.OK {
			done[e.Kind]++
		}
	}
	for code, least := range map[int64]int{impl.OK: 2000, impl.ErrNone: 200, impl.ErrThere: 200, impl.ErrRange: 100, impl.ErrFull: 100, impl.ErrState: 100} {
		same(t, fmt.Sprint("enough tell ", code, ": ", codes[code]), codes[code] > least, true)
	}
	for kind := int64(impl.EdAdd); kind <= impl.EdSet; kind++ {
		same(t, fmt.Sprint("enough are done of ", kind, ": ", done[kind]), done[kind] > 40, true)
	}
}
