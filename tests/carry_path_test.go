package tests

import (
	"fmt"
	"math/rand"
	"testing"

	"loop.example/g00848/impl"
)

// TestCarryIntoItems: `*` leads into each Item, and the old one of each is that at its place, if there is one.
func TestCarryIntoItems(t *testing.T) {
	for _, c := range []carryCase{
		{"list(rec(a:num))", addOf("*", 1, "b", text), []carryOne{
			{`[(1),(2),(3)]`, ``, `[(1,""),(2,""),(3,"")]`},
			{`[(1),(2),(3)]`, `[]`, `[(1,""),(2,""),(3,"")]`},
			{`[(1),(2),(3)]`, `[(9,"x")]`, `[(1,"x"),(2,""),(3,"")]`},
			{`[(1),(2),(3)]`, `[(9,"x"),(8,"y")]`, `[(1,"x"),(2,"y"),(3,"")]`},
			{`[(1),(2),(3)]`, `[(1,"x"),(2,"y"),(3,"z")]`, `[(1,"x"),(2,"y"),(3,"z")]`},
			{`[(1),(2),(3)]`, `[(3,"x"),(2,"y"),(1,"z")]`, `[(1,"x"),(2,"y"),(3,"z")]`},
			{`[(1),(2),(3)]`, `[(1,"x"),(2,"y"),(3,"z"),(4,"v")]`, `[(1,"x"),(2,"y"),(3,"z")]`},
			{`[(1)]`, `[(1,"x"),(2,"y"),(3,"z"),(4,"v"),(5,"w"),(6,"u")]`, `[(1,"x")]`},
			{`[]`, ``, `[]`},
			{`[]`, `[]`, `[]`},
			{`[]`, `[(1,"x"),(2,"y")]`, `[]`},
			{`[(1),(2),(3),(4),(5),(6)]`, `[(9,"a"),(9,"b"),(9,"c"),(9,"d"),(9,"e")]`, `[(1,"a"),(2,"b"),(3,"c"),(4,"d"),(5,"e"),(6,"")]`},
		}},
		{"list(rec(a:num,b:text))", dropOf("*", 0, "a", num), []carryOne{
			{`[(1,"x"),(2,"y")]`, ``, `[("x"),("y")]`},
			{`[(1,"x"),(2,"y")]`, `[("z")]`, `[("x"),("y")]`},
			{`[(1,"x"),(2,"y")]`, `[("u"),("v"),("w")]`, `[("x"),("y")]`},
			{`[]`, `[("z")]`, `[]`},
		}},
		{"list(rec(a:num))", nameOf("*", "a", "b"), []carryOne{
			{`[(1),(2)]`, ``, `[(1),(2)]`},
			{`[(1),(2)]`, `[(3)]`, `[(1),(2)]`},
			{`[]`, `[(3)]`, `[]`},
		}},
		{"list(pick(red,green))", symOf("*", 1, "blue"), []carryOne{
			{`[red,red,green]`, ``, `[red,red,green]`},
			{`[red,red,green]`, `[blue]`, `[blue,red,green]`},
			{`[red,red,green]`, `[red,blue,blue]`, `[red,blue,green]`},
			{`[red,red,green]`, `[green,green,red,blue]`, `[red,red,green]`},
			{`[]`, `[blue]`, `[]`},
		}},
		{"list(pick(red,blue,green))", unsymOf("*", 1, "blue"), []carryOne{
			{`[red,blue,green,blue]`, ``, `[red,red,green,red]`},
			{`[red,blue,green,blue]`, `[green,green]`, `[red,red,green,red]`},
			{`[]`, `[green]`, `[]`},
		}},
		{"list(num)", bareOf(impl.EdMaybe, "*"), []carryOne{
			{`[0,0,7,0]`, ``, `[some(0),some(0),some(7),some(0)]`},
			{`[0,0,7,0]`, `[none]`, `[none,some(0),some(7),some(0)]`},
			{`[0,0,7,0]`, `[some(0),none,none]`, `[some(0),none,some(7),some(0)]`},
			{`[0,0,7,0]`, `[none,none,none,none,none]`, `[none,none,some(7),none]`},
			{`[]`, `[none]`, `[]`},
		}},
		{"list(maybe(num))", bareOf(impl.EdSure, "*"), []carryOne{
			{`[none,some(7),none]`, ``, `[0,7,0]`},
			{`[none,some(7),none]`, `[5]`, `[0,7,0]`},
			{`[none,some(7),none]`, `[5,5,5,5]`, `[0,7,0]`},
		}},
		{"list(num)", bareOf(impl.EdList, "*"), []carryOne{
			{`[0,1,0,2]`, ``, `[[0],[1],[0],[2]]`},
			{`[0,1,0,2]`, `[[],[1,5]]`, `[[],[1,5],[0],[2]]`},
			{`[0,1,0,2]`, `[[0,3],[2],[],[],[2]]`, `[[0,3],[1],[],[2]]`},
			{`[]`, `[[],[1]]`, `[]`},
		}},
		{"list(list(num))", bareOf(impl.EdOne, "*"), []carryOne{
			{`[[],[1],[2,3]]`, ``, `[0,1,2]`},
			{`[[],[1],[2,3]]`, `[5,5]`, `[0,1,2]`},
			{`[]`, `[5,5]`, `[]`},
		}},
		{"list(num)", setOf("*", text, num), []carryOne{
			{`[1,2,3]`, ``, `["","",""]`},
			{`[1,2,3]`, `["x"]`, `["x","",""]`},
			{`[1,2,3]`, `["x","y","z","v"]`, `["x","y","z"]`},
			{`[]`, `["x"]`, `[]`},
		}},
	} {
		carriesAsSaid(t, c)
	}
}

// TestCarryIntoNone: where a ShMaybe on the way has none, nothing becomes of it, whatever stood there.
func TestCarryIntoNone(t *testing.T) {
	for _, c := range []carryCase{
		{"maybe(rec(a:num))", addOf("*", 1, "b", text), []carryOne{
			{`none`, ``, `none`},
			{`none`, `none`, `none`},
			{`none`, `some((1,"x"))`, `none`},
			{`some((1))`, `none`, `some((1,""))`},
			{`some((1))`, `some((2,"x"))`, `some((1,"x"))`},
		}},
		{"maybe(rec(a:num))", dropOf("*", 0, "a", num), []carryOne{
			{`none`, `some(())`, `none`},
			{`some((1))`, `none`, `some(())`},
		}},
		{"maybe(rec(a:num))", nameOf("*", "a", "b"), []carryOne{
			{`none`, `some((1))`, `none`},
			{`some((1))`, `none`, `some((1))`},
		}},
		{"maybe(pick(red,green))", symOf("*", 1, "blue"), []carryOne{
			{`none`, `some(blue)`, `none`},
			{`some(red)`, `some(blue)`, `some(blue)`},
			{`some(red)`, `none`, `some(red)`},
		}},
		{"maybe(pick(red,green))", unsymOf("*", 1, "green"), []carryOne{
			{`none`, `some(red)`, `none`},
			{`some(green)`, `none`, `some(red)`},
		}},
		{"maybe(num)", bareOf(impl.EdMaybe, "*"), []carryOne{
			{`none`, ``, `none`},
			{`none`, `none`, `none`},
			{`none`, `some(none)`, `none`},
			{`some(0)`, `none`, `some(some(0))`},
			{`some(0)`, `some(none)`, `some(none)`},
			{`some(7)`, `some(none)`, `some(some(7))`},
		}},
		{"maybe(maybe(num))", bareOf(impl.EdSure, "*"), []carryOne{
			{`none`, `some(7)`, `none`},
			{`some(none)`, `some(7)`, `some(0)`},
			{`some(some(5))`, `none`, `some(5)`},
		}},
		{"maybe(num)", bareOf(impl.EdList, "*"), []carryOne{
			{`none`, `some([0])`, `none`},
			{`none`, `some([])`, `none`},
			{`some(0)`, `none`, `some([0])`},
			{`some(0)`, `some([])`, `some([])`},
		}},
		{"maybe(list(num))", bareOf(impl.EdOne, "*"), []carryOne{
			{`none`, `some(7)`, `none`},
			{`some([])`, `some(7)`, `some(0)`},
			{`some([5,6])`, `none`, `some(5)`},
		}},
		{"maybe(num)", setOf("*", text, num), []carryOne{
			{`none`, `some("x")`, `none`},
			{`some(5)`, `none`, `some("")`},
			{`some(5)`, `some("x")`, `some("x")`},
		}},
	} {
		carriesAsSaid(t, c)
	}
}

// TestCarryFarIn: a path through records, lists and ShMaybes, of which what was has more here, and less there.
func TestCarryFarIn(t *testing.T) {
	for _, c := range []carryCase{
		{"rec(a:list(maybe(num)),b:num)", setOf("a**", text, num), []carryOne{
			{`([some(1),none,some(3)],5)`, ``, `([some(""),none,some("")],5)`},
			{`([some(1),none,some(3)],5)`, `([none,some("y"),some("z")],6)`, `([some(""),none,some("z")],5)`},
			{`([some(1),none,some(3)],5)`, `([some("x")],6)`, `([some("x"),none,some("")],5)`},
			{`([],5)`, `([some("x")],6)`, `([],5)`},
		}},
		{"list(list(num))", setOf("**", text, num), []carryOne{
			{`[[1,2],[],[3]]`, `[["a"],["b","c"],["d","e"]]`, `[["a",""],[],["d"]]`},
			{`[[1,2],[],[3]]`, `[["a","b","c"]]`, `[["a","b"],[],[""]]`},
			{`[[1,2],[],[3]]`, `[[],[],["d"],["e"]]`, `[["",""],[],["d"]]`},
		}},
		{"list(list(num))", bareOf(impl.EdMaybe, "*"), []carryOne{
			{`[[],[1],[]]`, `[none,none]`, `[none,some([1]),some([])]`},
		}},
		{"rec(a:rec(a:num,b:num),b:num)", setOf("ab", text, num), []carryOne{
			{`((1,2),3)`, ``, `((1,""),3)`},
			{`((1,2),3)`, `((7,"x"),9)`, `((1,"x"),3)`},
		}},
		{"rec(b:num,a:list(rec(b:num,a:pick(x,y))))", symOf("a*a", 2, "z"), []carryOne{
			{`(1,[(2,x),(3,y),(4,x)])`, `(9,[(9,z),(9,z),(9,z)])`, `(1,[(2,z),(3,y),(4,z)])`},
			{`(1,[(2,x),(3,y),(4,x)])`, `(9,[(9,x),(9,z)])`, `(1,[(2,x),(3,y),(4,x)])`},
		}},
		{"rec(a:maybe(rec(a:list(num))))", bareOf(impl.EdOne, "a*a"), []carryOne{
			{`(none)`, `(some((5)))`, `(none)`},
			{`(some(([])))`, `(some((5)))`, `(some((0)))`},
			{`(some(([6,7])))`, `(none)`, `(some((6)))`},
		}},
		{"list(rec(a:num))", bareOf(impl.EdOne, ""), []carryOne{
			{`[(1),(2)]`, `(3)`, `(1)`},
		}},
		{"rec(abcdefgh:num,a:num,abc:num)", setOf("a", text, num), []carryOne{
			{`(1,2,3)`, `(7,"x",9)`, `(1,"x",3)`},
		}},
	} {
		carriesAsSaid(t, c)
	}
}

// TestCarryManyTimes: each Kind in turn, one edit behind another, with what stood there after each, and all the way back.
func TestCarryManyTimes(t *testing.T) {
	random := rand.New(rand.NewSource(52))
	all := 0
	for range 400 {
		s := readShape(t, "rec(a:num,b:list(pick(x,y,z)),c:maybe(text))")
		if random.Intn(2) == 0 {
			s = someShape(random, 1+random.Intn(3))
		}
		l, _ := someEdits(random, s, random.Intn(10))
		all += len(l)
		shapes, vals := []impl.Shape{s}, []impl.Val{likelyVal(random, s)}
		for i, e := range l {
			old := likelyVal(random, edited(t, shapes[i], e))
			carriesAsBeside(t, shapes[i], e, vals[i], old)
			shapes = append(shapes, edited(t, shapes[i], e))
			vals = append(vals, impl.Carry(shapes[i], e, vals[i], old, true).Val)
		}
		now := vals[len(l)]
		for i := len(l) - 1; i >= 0; i-- {
			got := impl.Carry(shapes[i+1], impl.EditBack(l[i]), now, vals[i], true)
			sameValOut(t, fmt.Sprint(editsWritten(l), " of ", written(s), ", back to ", i), got, impl.ValOut{Val: vals[i]})
			now = got.Val
		}
	}
	same(t, "enough are done", all > 1000, true)
}
