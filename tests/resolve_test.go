package tests

import (
	"math/rand"
	"testing"

	"loop.example/g00848/impl"
)

// plainKinds is a shape of each kind but ShMaybe, and what fits it that is not its Blank, where there is such.
func plainKinds() []fitCase {
	return []fitCase{
		{"flag", flag, flagVal(1), true},
		{"num", num, numVal(5), true},
		{"text", text, textVal("a"), true},
		{"pick", pick("red", "green"), pickVal("green"), true},
		{"list", list(num), listVal(numVal(1), numVal(2)), true},
		{"rec", rec(num), recVal(numVal(5)), true},
		{"rec of none", rec(), recVal(), true},
	}
}

// TestEachKindByEachKind: w and r are none, the one, the other, or both a ShMaybe, also with one more inside.
func TestEachKindByEachKind(t *testing.T) {
	some := func(v impl.Val) impl.Val { return maybeVal(v) }
	none := maybeVal()
	for _, a := range plainKinds() {
		blank, v, x := impl.Blank(a.shape), a.val, a.shape
		resolvesAsSaid(t, readCase{"the same", x, x, impl.Val{}, []readOne{isRead(v, v), isRead(blank, blank)}})
		resolvesAsSaid(t, readCase{"r maybe", x, maybe(x), impl.Val{}, []readOne{isRead(v, some(v)), isRead(blank, some(blank))}})
		resolvesAsSaid(t, readCase{"r maybe of maybe", x, maybe(maybe(x)), impl.Val{}, []readOne{isRead(v, some(some(v)))}})
		resolvesAsSaid(t, readCase{"w maybe", maybe(x), x, none, []readOne{isRead(some(v), v), isNotRead(none, impl.ErrNone)}})
		resolvesAsSaid(t, readCase{"w maybe of maybe", maybe(maybe(x)), x, none, []readOne{isRead(some(some(v)), v), isNotRead(some(none), impl.ErrNone), isNotRead(none, impl.ErrNone)}})
		resolvesAsSaid(t, readCase{"both maybe", maybe(x), maybe(x), impl.Val{}, []readOne{isRead(some(v), some(v)), isRead(none, none)}})
		resolvesAsSaid(t, readCase{"both, r one more", maybe(x), maybe(maybe(x)), impl.Val{}, []readOne{isRead(some(v), some(some(v))), isRead(none, none)}})
		resolvesAsSaid(t, readCase{"both, w one more", maybe(maybe(x)), maybe(x), some(none), []readOne{isRead(some(some(v)), some(v)), isNotRead(some(none), impl.ErrNone), isRead(none, none)}})
		resolvesAsSaid(t, readCase{"both maybe of maybe", maybe(maybe(x)), maybe(maybe(x)), impl.Val{}, []readOne{isRead(some(some(v)), some(some(v))), isRead(some(none), some(none)), isRead(none, none)}})
		for _, b := range plainKinds() {
			if a.shape.Kind == b.shape.Kind {
				continue
			}
			y := b.shape
			resolvesAsSaid(t, readCase{"others", x, y, blank, []readOne{isNotRead(v, impl.ErrState), isNotRead(blank, impl.ErrState)}})
			resolvesAsSaid(t, readCase{"others, r maybe", x, maybe(y), blank, []readOne{isNotRead(v, impl.ErrState)}})
			resolvesAsSaid(t, readCase{"others, r maybe of maybe", x, maybe(maybe(y)), blank, []readOne{isNotRead(v, impl.ErrState)}})
			resolvesAsSaid(t, readCase{"others, w maybe", maybe(x), y, none, []readOne{isNotRead(some(v), impl.ErrState), isNotRead(none, impl.ErrNone)}})
			resolvesAsSaid(t, readCase{"others, w maybe of maybe", maybe(maybe(x)), y, none, []readOne{isNotRead(some(some(v)), impl.ErrState), isNotRead(some(none), impl.ErrNone), isNotRead(none, impl.ErrNone)}})
			resolvesAsSaid(t, readCase{"others, both maybe", maybe(x), maybe(y), some(blank), []readOne{isNotRead(some(v), impl.ErrState), isRead(none, none)}})
			resolvesAsSaid(t, readCase{"others, both, r one more", maybe(x), maybe(maybe(y)), some(blank), []readOne{isNotRead(some(v), impl.ErrState), isRead(none, none)}})
			resolvesAsSaid(t, readCase{"others, both, w one more", maybe(maybe(x)), maybe(y), some(none), []readOne{isNotRead(some(some(v)), impl.ErrState), isNotRead(some(none), impl.ErrNone), isRead(none, none)}})
		}
	}
}

func pickCases() []readCase {
	red, green, blue := pickVal("red"), pickVal("green"), pickVal("blue")
	three := pick("red", "green", "blue")
	return []readCase{
		{"more syms", pick("red", "green"), three, impl.Val{}, []readOne{isRead(red, red), isRead(green, green)}},
		{"fewer syms, the last one gone", three, pick("red", "green"), blue, []readOne{isRead(red, red), isRead(green, green), isNotRead(blue, impl.ErrRange)}},
		{"fewer syms, the first one gone", three, pick("green", "blue"), red, []readOne{isNotRead(red, impl.ErrRange), isRead(green, green), isRead(blue, blue)}},
		{"two gone", three, pick("red"), green, []readOne{isRead(red, red), isNotRead(green, impl.ErrRange), isNotRead(blue, impl.ErrRange)}},
		{"two gone, in another order", pick("red", "blue", "green"), pick("red"), blue, []readOne{isRead(red, red), isNotRead(green, impl.ErrRange), isNotRead(blue, impl.ErrRange)}},
		{"none the same", pick("red", "green"), pick("blue"), red, []readOne{isNotRead(red, impl.ErrRange), isNotRead(green, impl.ErrRange)}},
		{"another order", pick("red", "green"), pick("green", "red"), impl.Val{}, []readOne{isRead(red, red), isRead(green, green)}},
		{"one gone, others come", pick("red", "green"), pick("blue", "black", "green"), red, []readOne{isNotRead(red, impl.ErrRange), isRead(green, green)}},
		{"a sym that begins another one", pick("re", "red"), pick("red"), pickVal("re"), []readOne{isNotRead(pickVal("re"), impl.ErrRange), isRead(red, red)}},
		{"a sym that another one begins", pick("red", "re"), pick("re"), red, []readOne{isNotRead(red, impl.ErrRange), isRead(pickVal("re"), pickVal("re"))}},
		{"by a maybe", pick("red", "green"), maybe(pick("red")), green, []readOne{isRead(red, maybeVal(red)), isNotRead(green, impl.ErrRange)}},
		{"of a maybe", maybe(pick("red", "green")), pick("red"), maybeVal(), []readOne{isRead(maybeVal(red), red), isNotRead(maybeVal(green), impl.ErrRange), isNotRead(maybeVal(), impl.ErrNone)}},
		{"of a maybe, by a maybe", maybe(pick("red", "green")), maybe(pick("red")), maybeVal(green), []readOne{isRead(maybeVal(red), maybeVal(red)), isNotRead(maybeVal(green), impl.ErrRange), isRead(maybeVal(), maybeVal())}},
	}
}

func listCases() []readCase {
	one, none := numVal(1), maybeVal()
	some := maybeVal(one)
	green := pickVal("green")
	return []readCase{
		{"of none, whose ones can not be read", list(num), list(text), listVal(numVal(0)), []readOne{isRead(listVal(), listVal()), isNotRead(listVal(one), impl.ErrState)}},
		{"of six", list(num), list(num), impl.Val{}, []readOne{isRead(listVal(many(one, 6)...), listVal(many(one, 6)...))}},
		{"of six, by a list of maybe", list(num), list(maybe(num)), impl.Val{}, []readOne{isRead(listVal(many(one, 6)...), listVal(many(some, 6)...)), isRead(listVal(), listVal())}},
		{"in order", list(num), list(maybe(num)), impl.Val{}, []readOne{isRead(listVal(numVal(3), numVal(1), numVal(2)), listVal(maybeVal(numVal(3)), maybeVal(numVal(1)), maybeVal(numVal(2))))}},
		{"of maybes", list(maybe(num)), list(num), listVal(none), []readOne{isRead(listVal(some, some), listVal(one, one)), isNotRead(listVal(some, none), impl.ErrNone), isNotRead(listVal(none, some), impl.ErrNone), isRead(listVal(), listVal())}},
		{"the first fault of two", list(maybe(pick("red", "green"))), list(pick("red")), listVal(none), []readOne{isNotRead(listVal(none, maybeVal(green)), impl.ErrNone), isNotRead(listVal(maybeVal(green), none), impl.ErrRange)}},
		{"the first fault is the last one", list(maybe(num)), list(num), listVal(none), []readOne{isNotRead(listVal(append(many(some, 5), none)...), impl.ErrNone)}},
		{"a fault in the first list, and another one in the second", list(list(maybe(pick("red", "green")))), list(list(pick("red"))), listVal(listVal(none)), []readOne{
			isNotRead(listVal(listVal(), listVal(maybeVal(pickVal("red")), none), listVal(maybeVal(green))), impl.ErrNone),
			isNotRead(listVal(listVal(), listVal(maybeVal(pickVal("red")), maybeVal(green)), listVal(none)), impl.ErrRange),
			isRead(listVal(listVal(), listVal(maybeVal(pickVal("red")))), listVal(listVal(), listVal(pickVal("red")))),
		}},
		{"by a list in a list", list(num), list(list(num)), listVal(numVal(0)), []readOne{isRead(listVal(), listVal()), isNotRead(listVal(one), impl.ErrState)}},
		{"of a list in a list", list(list(num)), list(num), listVal(listVal()), []readOne{isRead(listVal(), listVal()), isNotRead(listVal(listVal()), impl.ErrState)}},
		{"by a maybe, with a fault in it", list(maybe(num)), maybe(list(num)), listVal(none), []readOne{isRead(listVal(some), maybeVal(listVal(one))), isNotRead(listVal(none), impl.ErrNone), isRead(listVal(), maybeVal(listVal()))}},
		{"in a maybe, with a fault in it", maybe(list(maybe(num))), list(num), maybeVal(), []readOne{isRead(maybeVal(listVal(some)), listVal(one)), isNotRead(maybeVal(listVal(none)), impl.ErrNone), isNotRead(maybeVal(), impl.ErrNone)}},
	}
}

func recCases() []readCase {
	one, two, a := numVal(1), numVal(2), textVal("a")
	none := maybeVal()
	big := pick("red", "green")
	return []readCase{
		{"more names, last", recOf("a", num), recOf("ab", num, pick("z", "a")), impl.Val{}, []readOne{isRead(recVal(one), recVal(one, pickVal("z")))}},
		{"more names, first", recOf("b", num), recOf("ab", rec(flag, text), num), impl.Val{}, []readOne{isRead(recVal(one), recVal(recVal(flagVal(0), textVal("")), one))}},
		{"more names, of lists and maybes", recOf("b", num), recOf("abc", list(num), num, maybe(num)), impl.Val{}, []readOne{isRead(recVal(one), recVal(listVal(), one, none))}},
		{"fewer names, the first one gone", recOf("ab", num, text), recOf("b", text), impl.Val{}, []readOne{isRead(recVal(one, a), recVal(a))}},
		{"fewer names, the last one gone", recOf("ab", num, text), recOf("a", num), impl.Val{}, []readOne{isRead(recVal(one, a), recVal(one))}},
		{"all gone", recOf("ab", num, text), rec(), impl.Val{}, []readOne{isRead(recVal(one, a), recVal())}},
		{"all new", rec(), recOf("ab", num, maybe(num)), impl.Val{}, []readOne{isRead(recVal(), recVal(numVal(0), none))}},
		{"other names", recOf("ab", num, num), recOf("cd", num, num), impl.Val{}, []readOne{isRead(recVal(one, two), recVal(numVal(0), numVal(0)))}},
		{"other names of other kinds", recOf("ab", num, num), recOf("cd", text, flag), impl.Val{}, []readOne{isRead(recVal(one, two), recVal(textVal(""), flagVal(0)))}},
		{"another order", recOf("abc", num, text, num), recOf("cab", num, num, text), impl.Val{}, []readOne{isRead(recVal(one, a, two), recVal(two, one, a))}},
		{"another order, of one kind", recOf("ab", num, num), recOf("ba", num, num), impl.Val{}, []readOne{isRead(recVal(one, two), recVal(two, one))}},
		{"names exchanged", recOf("ab", num, text), recOf("ab", text, num), recVal(numVal(0), textVal("")), []readOne{isNotRead(recVal(one, a), impl.ErrState)}},
		{"one gone, one new, and another order", recOf("abc", num, text, maybe(num)), recOf("cdb", num, flag, maybe(text)), recVal(numVal(0), textVal(""), none), []readOne{
			isRead(recVal(one, a, maybeVal(two)), recVal(two, flagVal(0), maybeVal(a))),
			isNotRead(recVal(one, a, none), impl.ErrNone),
		}},
		{"a fault in what is gone", recOf("ab", maybe(num), num), recOf("b", num), impl.Val{}, []readOne{isRead(recVal(none, one), recVal(one)), isRead(recVal(maybeVal(one), two), recVal(two))}},
		{"the first fault of r's Names, as they stand in w", recOf("ab", maybe(num), big), recOf("ab", num, pick("red")), recVal(none, pickVal("red")), []readOne{
			isNotRead(recVal(none, pickVal("green")), impl.ErrNone),
			isNotRead(recVal(maybeVal(one), pickVal("green")), impl.ErrRange),
			isNotRead(recVal(none, pickVal("red")), impl.ErrNone),
			isRead(recVal(maybeVal(one), pickVal("red")), recVal(one, pickVal("red"))),
		}},
		{"the first fault of r's Names, the other way round", recOf("ab", maybe(num), big), recOf("ba", pick("red"), num), recVal(none, pickVal("green")), []readOne{
			isNotRead(recVal(none, pickVal("green")), impl.ErrRange),
			isNotRead(recVal(maybeVal(one), pickVal("green")), impl.ErrRange),
			isNotRead(recVal(none, pickVal("red")), impl.ErrNone),
			isRead(recVal(maybeVal(one), pickVal("red")), recVal(pickVal("red"), one)),
		}},
		{"the first fault, behind what is new and what is read", recOf("abc", num, big, big), recOf("dacb", num, num, pick("red"), pick("red")), recVal(numVal(0), pickVal("red"), pickVal("green")), []readOne{
			isNotRead(recVal(one, pickVal("green"), pickVal("red")), impl.ErrRange),
			isRead(recVal(one, pickVal("red"), pickVal("red")), recVal(numVal(0), one, pickVal("red"), pickVal("red"))),
		}},
		{"a witness beside what is not zero by Blank", recOf("abc", pick("z", "a"), maybe(num), rec(pick("y", "b"))), recOf("b", num), recVal(pickVal("z"), none, recVal(pickVal("y"))), nil},
		{"by a maybe", recOf("ab", maybe(num), num), maybe(recOf("a", num)), recVal(none, numVal(0)), []readOne{isRead(recVal(maybeVal(one), two), maybeVal(recVal(one))), isNotRead(recVal(none, two), impl.ErrNone)}},
		{"a record in a record", recOf("ab", rec(num, big), num), recOf("ba", num, recOf("cb", list(num), pick("red"))), recVal(recVal(numVal(0), pickVal("green")), numVal(0)), []readOne{
			isRead(recVal(recVal(one, pickVal("red")), two), recVal(two, recVal(listVal(), pickVal("red")))),
			isNotRead(recVal(recVal(one, pickVal("green")), two), impl.ErrRange),
		}},
		{"lists of records, the first Item's fault", list(recOf("ab", maybe(num), big)), list(recOf("ba", pick("red"), num)), listVal(recVal(none, pickVal("green"))), []readOne{
			isNotRead(listVal(recVal(none, pickVal("red")), recVal(none, pickVal("green"))), impl.ErrNone),
			isNotRead(listVal(recVal(none, pickVal("green")), recVal(none, pickVal("red"))), impl.ErrRange),
			isRead(listVal(), listVal()),
		}},
		{"a maybe in a list in a record", recOf("a", list(maybe(num))), recOf("a", list(num)), recVal(listVal(none)), []readOne{
			isRead(recVal(listVal(maybeVal(one))), recVal(listVal(one))),
			isNotRead(recVal(listVal(maybeVal(one), none)), impl.ErrNone),
			isRead(recVal(listVal()), recVal(listVal())),
		}},
	}
}

func TestReadByOthers(t *testing.T) {
	for _, cases := range [][]readCase{pickCases(), listCases(), recCases()} {
		for _, c := range cases {
			resolvesAsSaid(t, c)
			same(t, c.what+": beside the program", resolvesAsBeside(t, c.w, c.r), c.witness.Kind == 0)
		}
	}
}

// TestReadAsDeepAsCanBe: what is read may be as deep as a right shape is, whatever stands around it there.
func TestReadAsDeepAsCanBe(t *testing.T) {
	some := func(v impl.Val) impl.Val { return maybeVal(v) }
	one := numVal(1)
	most := maybe(maybe(maybe(maybe(num))))
	resolvesAlone(t, readCase{"four maybes", num, most, impl.Val{}, []readOne{isRead(one, some(some(some(some(one)))))}})
	resolvesAlone(t, readCase{"of four maybes", most, num, maybeVal(), []readOne{isRead(some(some(some(some(one)))), one), isNotRead(some(some(some(maybeVal()))), impl.ErrNone), isNotRead(maybeVal(), impl.ErrNone)}})
	resolvesAlone(t, readCase{"four lists", lists(4), lists(4), impl.Val{}, []readOne{isRead(valLists(4), valLists(4))}})
	resolvesAlone(t, readCase{"four lists, of another kind", lists(4), textLists, valLists(4), []readOne{isNotRead(valLists(4), impl.ErrState), isRead(listVal(listVal()), listVal(listVal()))}})
	full := sizedVal(impl.MaxBytes + 1)
	resolvesAlone(t, readCase{"much", textLists, textLists, impl.Val{}, []readOne{isRead(full, full)}})
	all := wide(impl.MaxDeep)
	blank := impl.Blank(all)
	resolvesAlone(t, readCase{"wide", all, all, impl.Val{}, []readOne{isRead(blank, blank)}})
	resolvesAlone(t, readCase{"all of it new", rec(), all, impl.Val{}, []readOne{isRead(recVal(), blank)}})
	resolvesAlone(t, readCase{"all of it gone", all, rec(), impl.Val{}, []readOne{isRead(blank, recVal())}})
}

// smallShapes is whatever can be put together of a few pieces, up to three levels.
func smallShapes() []impl.Shape {
	out := []impl.Shape{num, text, pick("a"), pick("b", "a"), rec()}
	for range 2 {
		next := []impl.Shape{}
		for _, s := range out {
			next = append(next, s, maybe(s), list(s), recOf("a", s), recOf("ba", num, s))
		}
		out = next
	}
	return out
}

func TestSmallShapesByEachOther(t *testing.T) {
	all := smallShapes()
	read := 0
	for _, w := range all {
		for _, r := range all {
			if resolvesAsBeside(t, w, r) {
				read++
			}
		}
	}
	same(t, "enough can be read", read > len(all)*2, true)
	same(t, "enough can not", read < len(all)*len(all)/2, true)
}

// TestSomeShapesBeside: promise 6, of shapes that are unlike here and there.
func TestSomeShapesBeside(t *testing.T) {
	random := rand.New(rand.NewSource(20))
	const rounds = 2000
	read, unread, turned := 0, 0, 0
	for range rounds {
		w := someShape(random, 2+random.Intn(impl.MaxDeep-1))
		r := beside(random, beside(random, w))
		if !alike(w, r) {
			turned++
		}
		if impl.NodesOf(w) > 60 {
			v := someVal(random, w)
			sameValOut(t, written(w)+" by "+written(r), impl.Resolve(w, r, v), resolvedBy(w, r, v))
			continue
		}
		if resolvesAsBeside(t, w, r, someVal(random, w), someVal(random, w), someVal(random, w)) {
			read++
		} else {
			unread++
		}
	}
	same(t, "enough are unlike", turned > rounds/2, true)
	same(t, "enough can be read", read > rounds/5, true)
	same(t, "enough can not", unread > rounds/10, true)
}

// TestReadByTheSame: promise 6, its last part.
func TestReadByTheSame(t *testing.T) {
	random := rand.New(rand.NewSource(21))
	shapes := []impl.Shape{wide(impl.MaxDeep), sized(impl.MaxBytes), sized(impl.MaxBytes + 1), rec(rec(rec(rec(rec()))))}
	for range 2000 {
		shapes = append(shapes, someShape(random, 1+random.Intn(impl.MaxDeep)))
	}
	for _, s := range shapes {
		same(t, written(s), impl.CanRead(s, copied(s)), true)
		sameVal(t, written(s), impl.Witness(s, copied(s)), impl.Val{})
		for _, v := range []impl.Val{impl.Blank(s), someVal(random, s)} {
			sameValOut(t, written(s), impl.Resolve(s, copied(s), v), impl.ValOut{Val: v})
		}
	}
}
