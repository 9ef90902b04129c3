package tests

import (
	"fmt"
	"math/rand"
	"testing"

	"loop.example/g00848/impl"
)

func TestCarryAdd(t *testing.T) {
	const s = "rec(a:num,b:pick(red,green))"
	for _, c := range []carryCase{
		{s, addOf("", 0, "c", text), []carryOne{
			{`(5,green)`, ``, `("",5,green)`},
			{`(5,green)`, `("hi",5,green)`, `("hi",5,green)`},
			{`(5,green)`, `("",5,green)`, `("",5,green)`},
			{`(5,green)`, `("hi",0,red)`, `("hi",5,green)`},
			{`(0,red)`, `("hi",5,green)`, `("hi",0,red)`},
		}},
		{s, addOf("", 1, "c", text), []carryOne{
			{`(5,green)`, ``, `(5,"",green)`},
			{`(5,green)`, `(5,"hi",green)`, `(5,"hi",green)`},
			{`(5,green)`, `(9,"hi",red)`, `(5,"hi",green)`},
		}},
		{s, addOf("", 2, "c", text), []carryOne{
			{`(5,green)`, ``, `(5,green,"")`},
			{`(5,green)`, `(5,green,"hi")`, `(5,green,"hi")`},
			{`(5,green)`, `(9,red,"hi")`, `(5,green,"hi")`},
		}},
		{"rec()", addOf("", 0, "c", pick("x", "y")), []carryOne{
			{`()`, ``, `(x)`},
			{`()`, `(x)`, `(x)`},
			{`()`, `(y)`, `(y)`},
		}},
		{"rec(a:num,b:num,c:num,d:num,e:num)", addOf("", 5, "f", num), []carryOne{
			{`(1,2,3,4,5)`, ``, `(1,2,3,4,5,0)`},
			{`(1,2,3,4,5)`, `(1,2,3,4,5,6)`, `(1,2,3,4,5,6)`},
			{`(1,2,3,4,5)`, `(9,9,9,9,9,7)`, `(1,2,3,4,5,7)`},
		}},
		{"rec(a:num)", addOf("", 1, "b", maybe(num)), []carryOne{
			{`(1)`, ``, `(1,none)`},
			{`(1)`, `(2,none)`, `(1,none)`},
			{`(1)`, `(2,some(0))`, `(1,some(0))`},
		}},
		{"rec(a:num)", addOf("", 0, "b", rec(pick("x", "y"), flag)), []carryOne{
			{`(1)`, ``, `((x,no),1)`},
			{`(1)`, `((y,yes),2)`, `((y,yes),1)`},
		}},
	} {
		carriesAsSaid(t, c)
	}
}

func TestCarryDropAndName(t *testing.T) {
	const one, two = "rec(a:num)", "rec(a:num,b:pick(red,green))"
	for _, c := range []carryCase{
		{two, dropOf("", 0, "a", num), []carryOne{
			{`(5,green)`, ``, `(green)`},
			{`(5,green)`, `(green)`, `(green)`},
			{`(5,green)`, `(red)`, `(green)`},
		}},
		{two, dropOf("", 1, "b", pick("red", "green")), []carryOne{
			{`(5,green)`, ``, `(5)`},
			{`(5,green)`, `(5)`, `(5)`},
			{`(5,green)`, `(9)`, `(5)`},
		}},
		{"rec(a:num,b:num,c:num)", dropOf("", 1, "b", num), []carryOne{
			{`(1,2,3)`, ``, `(1,3)`},
			{`(1,2,3)`, `(1,3)`, `(1,3)`},
			{`(1,2,3)`, `(2,2)`, `(1,3)`},
		}},
		{one, dropOf("", 0, "a", num), []carryOne{
			{`(5)`, ``, `()`},
			{`(5)`, `()`, `()`},
		}},
		{one, nameOf("", "a", "b"), []carryOne{
			{`(5)`, ``, `(5)`},
			{`(5)`, `(5)`, `(5)`},
			{`(5)`, `(9)`, `(5)`},
		}},
		{two, nameOf("", "a", "c"), []carryOne{
			{`(5,green)`, ``, `(5,green)`},
			{`(5,green)`, `(5,green)`, `(5,green)`},
			{`(5,green)`, `(9,red)`, `(5,green)`},
		}},
	} {
		carriesAsSaid(t, c)
	}
}

// TestCarrySyms: an old one counts only if it is Name, and what is there is the first of Syms.
func TestCarrySyms(t *testing.T) {
	for _, c := range []carryCase{
		{"pick(red,green)", symOf("", 1, "blue"), []carryOne{
			{`red`, ``, `red`},
			{`red`, `red`, `red`},
			{`red`, `blue`, `blue`},
			{`red`, `green`, `red`},
			{`green`, ``, `green`},
			{`green`, `green`, `green`},
			{`green`, `blue`, `green`},
			{`green`, `red`, `green`},
		}},
		{"pick(red,green)", symOf("", 2, "blue"), []carryOne{
			{`red`, ``, `red`},
			{`red`, `blue`, `blue`},
			{`red`, `green`, `red`},
			{`green`, `blue`, `green`},
			{`green`, `red`, `green`},
		}},
		{"pick(red)", symOf("", 1, "blue"), []carryOne{
			{`red`, ``, `red`},
			{`red`, `red`, `red`},
			{`red`, `blue`, `blue`},
		}},
		{"pick(red,blue,green)", unsymOf("", 1, "blue"), []carryOne{
			{`red`, ``, `red`},
			{`red`, `red`, `red`},
			{`red`, `green`, `red`},
			{`blue`, ``, `red`},
			{`blue`, `red`, `red`},
			{`blue`, `green`, `red`},
			{`green`, ``, `green`},
			{`green`, `green`, `green`},
			{`green`, `red`, `green`},
		}},
		{"pick(red,green,blue)", unsymOf("", 2, "blue"), []carryOne{
			{`red`, `green`, `red`},
			{`blue`, `green`, `red`},
			{`blue`, ``, `red`},
			{`green`, `red`, `green`},
		}},
		{"pick(red,blue)", unsymOf("", 1, "blue"), []carryOne{
			{`red`, ``, `red`},
			{`blue`, ``, `red`},
			{`blue`, `red`, `red`},
		}},
	} {
		carriesAsSaid(t, c)
	}
}

func TestCarryMaybe(t *testing.T) {
	for _, c := range []carryCase{
		{"num", bareOf(impl.EdMaybe, ""), []carryOne{
			{`0`, ``, `some(0)`},
			{`0`, `none`, `none`},
			{`0`, `some(0)`, `some(0)`},
			{`0`, `some(7)`, `some(0)`},
			{`7`, ``, `some(7)`},
			{`7`, `none`, `some(7)`},
			{`7`, `some(7)`, `some(7)`},
			{`7`, `some(0)`, `some(7)`},
		}},
		{"pick(red,green)", bareOf(impl.EdMaybe, ""), []carryOne{
			{`red`, ``, `some(red)`},
			{`red`, `none`, `none`},
			{`red`, `some(green)`, `some(red)`},
			{`green`, `none`, `some(green)`},
		}},
		{"rec(a:pick(x,y),b:text)", bareOf(impl.EdMaybe, ""), []carryOne{
			{`(x,"")`, `none`, `none`},
			{`(x," ")`, `none`, `some((x," "))`},
			{`(y,"")`, `none`, `some((y,""))`},
			{`(x,"")`, ``, `some((x,""))`},
		}},
		{"maybe(num)", bareOf(impl.EdMaybe, ""), []carryOne{
			{`none`, ``, `some(none)`},
			{`none`, `none`, `none`},
			{`none`, `some(none)`, `some(none)`},
			{`none`, `some(some(7))`, `some(none)`},
			{`some(0)`, `none`, `some(some(0))`},
		}},
		{"list(num)", bareOf(impl.EdMaybe, ""), []carryOne{
			{`[]`, `none`, `none`},
			{`[]`, `some([])`, `some([])`},
			{`[0]`, `none`, `some([0])`},
		}},
		{"maybe(num)", bareOf(impl.EdSure, ""), []carryOne{
			{`none`, ``, `0`},
			{`none`, `0`, `0`},
			{`none`, `7`, `0`},
			{`some(7)`, ``, `7`},
			{`some(7)`, `7`, `7`},
			{`some(7)`, `9`, `7`},
			{`some(0)`, `9`, `0`},
		}},
		{"maybe(rec(a:pick(x,y)))", bareOf(impl.EdSure, ""), []carryOne{
			{`none`, ``, `(x)`},
			{`none`, `(y)`, `(x)`},
			{`some((y))`, `(x)`, `(y)`},
		}},
		{"maybe(maybe(num))", bareOf(impl.EdSure, ""), []carryOne{
			{`none`, `some(1)`, `none`},
			{`some(none)`, `some(1)`, `none`},
			{`some(some(1))`, `none`, `some(1)`},
		}},
	} {
		carriesAsSaid(t, c)
	}
}

func TestCarryList(t *testing.T) {
	for _, c := range []carryCase{
		{"num", bareOf(impl.EdList, ""), []carryOne{
			{`0`, ``, `[0]`},
			{`0`, `[]`, `[]`},
			{`0`, `[0]`, `[0]`},
			{`0`, `[0,1,2]`, `[0,1,2]`},
			{`0`, `[1,0]`, `[0]`},
			{`7`, ``, `[7]`},
			{`7`, `[]`, `[7]`},
			{`7`, `[7]`, `[7]`},
			{`7`, `[7,8,9,7,8,9]`, `[7,8,9,7,8,9]`},
			{`7`, `[8,7]`, `[7]`},
			{`7`, `[0]`, `[7]`},
		}},
		{"pick(red,green)", bareOf(impl.EdList, ""), []carryOne{
			{`red`, `[]`, `[]`},
			{`green`, `[]`, `[green]`},
			{`green`, `[green,red]`, `[green,red]`},
			{`green`, `[red,green]`, `[green]`},
		}},
		{"list(num)", bareOf(impl.EdList, ""), []carryOne{
			{`[]`, ``, `[[]]`},
			{`[]`, `[]`, `[]`},
			{`[]`, `[[],[1]]`, `[[],[1]]`},
			{`[]`, `[[1],[]]`, `[[]]`},
			{`[1,2]`, `[[1,2],[]]`, `[[1,2],[]]`},
			{`[1,2]`, `[[1],[2]]`, `[[1,2]]`},
			{`[0]`, `[]`, `[[0]]`},
		}},
		{"rec(a:maybe(num),b:text)", bareOf(impl.EdList, ""), []carryOne{
			{`(none,"")`, `[]`, `[]`},
			{`(none,"")`, `[(none,""),(some(1),"")]`, `[(none,""),(some(1),"")]`},
			{`(some(1),"x")`, `[(some(1),"x"),(none,"")]`, `[(some(1),"x"),(none,"")]`},
			{`(some(1),"x")`, `[(some(1),"y"),(none,"")]`, `[(some(1),"x")]`},
			{`(some(0),"")`, `[]`, `[(some(0),"")]`},
		}},
		{"list(num)", bareOf(impl.EdOne, ""), []carryOne{
			{`[]`, ``, `0`},
			{`[]`, `0`, `0`},
			{`[]`, `7`, `0`},
			{`[7]`, ``, `7`},
			{`[7]`, `7`, `7`},
			{`[7]`, `8`, `7`},
			{`[7,8,9]`, ``, `7`},
			{`[7,8,9]`, `9`, `7`},
			{`[0,8]`, `8`, `0`},
			{`[1,2,3,4,5,6]`, `6`, `1`},
		}},
		{"list(rec(a:pick(x,y)))", bareOf(impl.EdOne, ""), []carryOne{
			{`[]`, ``, `(x)`},
			{`[]`, `(y)`, `(x)`},
			{`[(y),(x)]`, `(x)`, `(y)`},
		}},
	} {
		carriesAsSaid(t, c)
	}
}

func TestCarrySet(t *testing.T) {
	for _, c := range []carryCase{
		{"num", setOf("", text, num), []carryOne{
			{`7`, ``, `""`},
			{`7`, `""`, `""`},
			{`7`, `"hi"`, `"hi"`},
		}},
		{"num", setOf("", num, num), []carryOne{
			{`7`, ``, `0`},
			{`7`, `7`, `7`},
			{`7`, `8`, `8`},
		}},
		{"pick(red,green)", setOf("", pick("green", "red"), pick("red", "green")), []carryOne{
			{`red`, ``, `green`},
			{`red`, `red`, `red`},
			{`green`, `red`, `red`},
		}},
		{"rec(a:num)", setOf("", rec(num, maybe(text)), rec(num)), []carryOne{
			{`(7)`, ``, `(0,none)`},
			{`(7)`, `(8,some("hi"))`, `(8,some("hi"))`},
		}},
		{"list(num)", setOf("", list(text), list(num)), []carryOne{
			{`[1,2]`, ``, `[]`},
			{`[1,2]`, `["a"]`, `["a"]`},
			{`[]`, `["a","b","c"]`, `["a","b","c"]`},
		}},
	} {
		carriesAsSaid(t, c)
	}
}

// TestCarryOfAllThere: an edit at the empty path of a whole that is as deep as may be.
func TestCarryOfAllThere(t *testing.T) {
	random := rand.New(rand.NewSource(50))
	for _, c := range []struct {
		s impl.Shape
		e impl.Edit
	}{
		{wide(5), dropOf("", 3, "d", wide(4))},
		{wide(5), nameOf("", "f", "g")},
		{wide(5), setOf("", wide(5), wide(5))},
		{wide(5), setOf("abcd", pick("a"), num)},
		{wide(4), bareOf(impl.EdList, "")},
		{wide(4), bareOf(impl.EdMaybe, "")},
		{list(wide(4)), bareOf(impl.EdOne, "")},
		{maybe(wide(4)), bareOf(impl.EdSure, "")},
		{textLists, bareOf(impl.EdOne, "***")},
		{textLists, setOf("****", num, text)},
	} {
		v := someVal(random, c.s)
		for _, olds := range someOlds(random, c.s, c.e, v) {
			carriesAsBeside(t, c.s, c.e, v, olds...)
		}
	}
	full := sizedVal(30000)
	for _, e := range []impl.Edit{bareOf(impl.EdOne, ""), bareOf(impl.EdOne, "***"), setOf("****", num, text), setOf("", num, textLists)} {
		carriesAsBeside(t, textLists, e, full)
		changed := impl.EditApply(textLists, e).Shape
		carriesAsBeside(t, textLists, e, full, impl.Blank(changed))
		carriesAsBeside(t, textLists, e, listVal(), carriedBy(textLists, e, full))
	}
}

// TestSmallCarries: whatever small thing stands there, and whatever stood there.
func TestSmallCarries(t *testing.T) {
	done := map[int64]int{}
	for _, s := range smallShapes() {
		vals := fewVals(s)
		for _, e := range smallEdits() {
			changed := impl.EditApply(s, e)
			if changed.Code != impl.OK {
				continue
			}
			done[e.Kind]++
			for _, v := range vals {
				carriesAsBeside(t, s, e, v)
				for _, old := range fewVals(changed.Shape) {
					carriesAsBeside(t, s, e, v, old)
				}
			}
		}
	}
	for kind := int64(impl.EdAdd); kind <= impl.EdSet; kind++ {
		same(t, fmt.Sprint("enough are done of ", kind, ": ", done[kind]), done[kind] > 5, true)
	}
}

func TestSomeCarries(t *testing.T) {
	random := rand.New(rand.NewSource(51))
	done := map[int64]int{}
	const rounds = 20000
	for range rounds {
		s := someShape(random, 1+random.Intn(impl.MaxDeep))
		e := someEdit(random, s)
		if impl.NodesOf(s)+impl.NodesOf(e.Shape) > 60 || impl.EditApply(s, e).Code != impl.OK {
			continue
		}
		done[e.Kind]++
		v := likelyVal(random, s)
		for _, olds := range someOlds(random, s, e, v) {
			carriesAsBeside(t, s, e, v, olds...)
		}
	}
	for kind := int64(impl.EdAdd); kind <= impl.EdSet; kind++ {
		same(t, fmt.Sprint("enough are done of ", kind, ": ", done[kind]), done[kind] > 20, true)
	}
}

func TestLoses(t *testing.T) {
	for _, e := range oneOfEachKind() {
		want := losesBy(e)
		same(t, editWritten(e), impl.Loses(e), want)
		// What it can change is not asked, but what is not right loses nothing.
		e.Path = path("zzzzz")
		same(t, editWritten(e), impl.Loses(e), want)
		e.Path = path("zzzzzz")
		same(t, "six steps", impl.Loses(e), false)
	}
	same(t, "zero", impl.Loses(impl.Edit{}), false)
	same(t, "to the same", impl.Loses(setOf("", num, num)), true)
}
