package tests

import (
	"fmt"
	"math/rand"
	"slices"
	"testing"

	"loop.example/g00848/impl"
)

// goneCase is a way, what stood there, or none, and what it tells, all as texts; at the way's begin that is what is handed in.
type goneCase struct {
	left  bool
	stood []string
	want  []string
}

// tripCase is the text of a shape, edits, and ways through what they lead through.
type tripCase struct {
	s    string
	l    []string
	ones []goneCase
}

func readEdits(t *testing.T, texts ...string) []impl.Edit {
	t.Helper()
	l := []impl.Edit{}
	for _, text := range texts {
		got := impl.EditRead(text)
		if got.Code != impl.OK {
			t.Fatalf("%s is no edit", text)
		}
		l = append(l, got.Edit)
	}
	return l
}

func readStages(t *testing.T, shapes []impl.Shape, texts []string) []impl.Val {
	t.Helper()
	stages := []impl.Val{}
	for i, text := range texts {
		stages = append(stages, readVal(t, shapes[i], text))
	}
	return stages
}

// tripsAsSaid holds each way against what it should tell.
func tripsAsSaid(t *testing.T, c tripCase) {
	t.Helper()
	s, l := readShape(t, c.s), readEdits(t, c.l...)
	shapes := shapesBy(s, l)
	if len(shapes) == 0 {
		t.Fatalf("%s of %s can not be done", editsWritten(l), c.s)
	}
	for _, one := range c.ones {
		what := fmt.Sprint(editsWritten(l), " of ", c.s, ", stood ", one.stood, ", left ", one.left)
		stood, want := readStages(t, shapes, one.stood), readStages(t, shapes, one.want)
		got := impl.Right(s, l, want[0], stood)
		if one.left {
			got = impl.Left(s, l, want[len(l)], stood)
		}
		sameTrip(t, what, got, impl.TripOut{Stages: want})
		thereAndBack(t, what, s, l, want)
		tripsAsBeside(t, s, l, want[0], want[len(l)], stood...)
	}
}

func TestTripsWithoutEdits(t *testing.T) {
	tripsAsSaid(t, tripCase{"num", nil, []goneCase{
		{false, nil, []string{"5"}},
		{true, nil, []string{"5"}},
		// What stood there is not what is told.
		{false, []string{"7"}, []string{"5"}},
		{true, []string{"7"}, []string{"5"}},
	}})
	for _, c := range kinds() {
		want := impl.TripOut{Stages: []impl.Val{c.val}}
		for _, l := range [][]impl.Edit{nil, {}} {
			sameShapes(t, c.what, impl.Along(c.shape, l), []impl.Shape{c.shape})
			same(t, c.what+", none", impl.TripRight(c.shape, l, nil), false)
			same(t, c.what+", no stage", impl.TripRight(c.shape, l, []impl.Val{}), false)
			same(t, c.what, impl.TripRight(c.shape, l, want.Stages), true)
			for _, stages := range [][]impl.Val{nil, {}, {c.val}, {impl.Blank(c.shape)}} {
				sameTrip(t, c.what+", right", impl.Right(c.shape, l, c.val, stages), want)
				sameTrip(t, c.what+", left", impl.Left(c.shape, l, c.val, stages), want)
			}
		}
	}
}

func TestTripsByOneEdit(t *testing.T) {
	for _, c := range []tripCase{
		{"rec(a:num)", []string{"add / 1 b text"}, []goneCase{
			{false, nil, []string{`(5)`, `(5,"")`}},
			{true, nil, []string{`(5)`, `(5,"hi")`}},
			{false, []string{`(5)`, `(5,"hi")`}, []string{`(5)`, `(5,"hi")`}},
			{false, []string{`(7)`, `(8,"hi")`}, []string{`(5)`, `(5,"hi")`}},
			{true, []string{`(7)`, `(8,"hi")`}, []string{`(5)`, `(5,"")`}},
		}},
		{"rec(a:num,b:text)", []string{"drop / 1 b text"}, []goneCase{
			{false, nil, []string{`(5,"hi")`, `(5)`}},
			{true, nil, []string{`(5,"")`, `(5)`}},
			{true, []string{`(5,"hi")`, `(5)`}, []string{`(5,"hi")`, `(5)`}},
			{true, []string{`(8,"hi")`, `(7)`}, []string{`(5,"hi")`, `(5)`}},
			{false, []string{`(8,"hi")`, `(7)`}, []string{`(5,"ho")`, `(5)`}},
		}},
		{"rec(a:num)", []string{"name / a b"}, []goneCase{
			{false, nil, []string{`(5)`, `(5)`}},
			{true, nil, []string{`(5)`, `(5)`}},
			{false, []string{`(7)`, `(8)`}, []string{`(5)`, `(5)`}},
			{true, []string{`(7)`, `(8)`}, []string{`(5)`, `(5)`}},
		}},
		{"pick(red,green)", []string{"sym / 1 blue"}, []goneCase{
			{false, nil, []string{"red", "red"}},
			{false, []string{"green", "blue"}, []string{"red", "blue"}},
			{false, []string{"green", "blue"}, []string{"green", "green"}},
			{true, nil, []string{"red", "blue"}},
			{true, []string{"green", "red"}, []string{"red", "blue"}},
		}},
		{"pick(red,green)", []string{"unsym / 1 green"}, []goneCase{
			{false, nil, []string{"green", "red"}},
			{true, nil, []string{"red", "red"}},
			{true, []string{"green", "red"}, []string{"green", "red"}},
			{false, []string{"green", "red"}, []string{"red", "red"}},
		}},
		{"num", []string{"maybe /"}, []goneCase{
			{false, nil, []string{"0", "some(0)"}},
			{false, []string{"0", "none"}, []string{"0", "none"}},
			{false, []string{"0", "none"}, []string{"5", "some(5)"}},
			{true, nil, []string{"0", "none"}},
			{true, []string{"7", "some(7)"}, []string{"0", "none"}},
		}},
		{"maybe(num)", []string{"sure /"}, []goneCase{
			{false, nil, []string{"none", "0"}},
			{true, nil, []string{"some(0)", "0"}},
			{true, []string{"none", "0"}, []string{"none", "0"}},
			{true, []string{"none", "9"}, []string{"none", "0"}},
			{true, []string{"some(7)", "7"}, []string{"some(0)", "0"}},
			{true, []string{"none", "0"}, []string{"some(5)", "5"}},
		}},
		{"num", []string{"list /"}, []goneCase{
			{false, nil, []string{"5", "[5]"}},
			{false, []string{"5", "[5,6]"}, []string{"5", "[5,6]"}},
			{false, []string{"7", "[]"}, []string{"0", "[]"}},
			{true, nil, []string{"0", "[]"}},
			{true, nil, []string{"5", "[5,6]"}},
		}},
		{"list(num)", []string{"one /"}, []goneCase{
			{false, nil, []string{"[5,6]", "5"}},
			{true, nil, []string{"[5]", "5"}},
			{true, []string{"[5,6]", "5"}, []string{"[5,6]", "5"}},
			{true, []string{"[5,6]", "5"}, []string{"[7]", "7"}},
			{true, []string{"[]", "9"}, []string{"[]", "0"}},
		}},
		{"num", []string{"set / text num"}, []goneCase{
			{false, nil, []string{`5`, `""`}},
			{false, []string{`7`, `"hi"`}, []string{`5`, `"hi"`}},
			{true, nil, []string{`0`, `"hi"`}},
			{true, []string{`7`, `"hi"`}, []string{`7`, `"ho"`}},
		}},
	} {
		tripsAsSaid(t, c)
	}
}

// TestTripsByEditsOfAllKinds: one behind the other, some of which lose.
func TestTripsByEditsOfAllKinds(t *testing.T) {
	l := []string{
		"add / 2 c text", "maybe /a", "sym /b/* 1 z", "name / c d", "list /d",
		"one /b", "unsym /b 2 y", "sure /a", "set /d flag list(text)", "drop / 0 a num",
	}
	there := []string{
		`(5,[y,x])`, `(5,[y,x],"")`, `(some(5),[y,x],"")`, `(some(5),[y,x],"")`, `(some(5),[y,x],"")`, `(some(5),[y,x],[""])`,
		`(some(5),y,[""])`, `(some(5),x,[""])`, `(5,x,[""])`, `(5,x,no)`, `(x,no)`,
	}
	back := []string{
		`(0,[x])`, `(0,[x],"")`, `(some(0),[x],"")`, `(some(0),[x],"")`, `(some(0),[x],"")`, `(some(0),[x],[])`,
		`(some(0),x,[])`, `(some(0),x,[])`, `(0,x,[])`, `(0,x,no)`, `(x,no)`,
	}
	turnedBack := []string{
		`(5,[x])`, `(5,[x],"")`, `(some(5),[x],"")`, `(some(5),[z],"")`, `(some(5),[z],"")`, `(some(5),[z],[""])`,
		`(some(5),z,[""])`, `(some(5),z,[""])`, `(5,z,[""])`, `(5,z,yes)`, `(z,yes)`,
	}
	// Not one of these is what comes of another one.
	strangers := []string{
		`(1,[])`, `(2,[x],"b")`, `(none,[x,y],"c")`, `(some(3),[z,z,z],"d")`, `(some(4),[],"e")`, `(none,[y,z],["f","g"])`,
		`(some(6),z,[])`, `(none,z,["h"])`, `(8,z,["i","j"])`, `(9,z,yes)`, `(x,yes)`,
	}
	tripsAsSaid(t, tripCase{"rec(a:num,b:list(pick(x,y)))", l, []goneCase{
		{false, nil, there},
		{true, nil, back},
		{true, there, there},
		{false, there, there},
		{false, back, back},
		{true, there, turnedBack},
		{false, turnedBack, turnedBack},
		{false, strangers, []string{
			`(0,[y])`, `(0,[y],"b")`, `(none,[y],"b")`, `(none,[y],"b")`, `(none,[y],"b")`, `(none,[y],["b"])`,
			`(none,y,["b"])`, `(none,x,["b"])`, `(0,x,["b"])`, `(0,x,yes)`, `(x,yes)`,
		}},
		{true, strangers, []string{
			`(9,[x])`, `(9,[x],"i")`, `(some(9),[x],"i")`, `(some(9),[x],"i")`, `(some(9),[x],"i")`, `(some(9),[x],["i","j"])`,
			`(some(9),x,["i","j"])`, `(some(9),x,["i","j"])`, `(9,x,["i","j"])`, `(9,x,no)`, `(x,no)`,
		}},
	}})
}

func TestTripsByEditsOfTheSamePlace(t *testing.T) {
	for _, c := range []tripCase{
		{"rec(a:num,b:pick(red,green))", []string{"unsym /b 1 green", "drop / 0 a num"}, []goneCase{
			{false, nil, []string{"(5,green)", "(5,red)", "(red)"}},
			{true, nil, []string{"(0,red)", "(0,red)", "(red)"}},
			{true, []string{"(5,green)", "(5,red)", "(red)"}, []string{"(5,green)", "(5,red)", "(red)"}},
			{true, []string{"(8,green)", "(7,red)", "(red)"}, []string{"(7,green)", "(7,red)", "(red)"}},
		}},
		// What an edit loses, the next one that brings it again does not find, unless it stood there.
		{"rec(a:num)", []string{"drop / 0 a num", "add / 0 a num"}, []goneCase{
			{false, nil, []string{"(5)", "()", "(0)"}},
			{false, []string{"(7)", "()", "(8)"}, []string{"(5)", "()", "(8)"}},
			{true, []string{"(7)", "()", "(8)"}, []string{"(7)", "()", "(5)"}},
			{true, nil, []string{"(0)", "()", "(5)"}},
		}},
		{"list(num)", []string{"one /", "list /", "one /"}, []goneCase{
			{false, nil, []string{"[5,6]", "5", "[5]", "5"}},
			{true, nil, []string{"[5]", "5", "[5]", "5"}},
			{true, []string{"[5,6]", "5", "[5]", "5"}, []string{"[5,6]", "5", "[5]", "5"}},
			{true, []string{"[5,6]", "7", "[5,8]", "9"}, []string{"[5,6]", "5", "[5,8]", "5"}},
			{false, []string{"[5,6]", "7", "[4,8]", "9"}, []string{"[4]", "4", "[4,8]", "4"}},
		}},
		{"num", []string{"maybe /", "maybe /", "sure /*"}, []goneCase{
			{false, nil, []string{"0", "some(0)", "some(some(0))", "some(0)"}},
			{false, []string{"7", "none", "none", "none"}, []string{"0", "none", "none", "none"}},
			{false, []string{"7", "none", "some(none)", "none"}, []string{"0", "none", "some(none)", "some(0)"}},
			{true, nil, []string{"0", "none", "none", "none"}},
		}},
		{"num", []string{"set / text num", "set / rec() text", "set / num rec()"}, []goneCase{
			{false, nil, []string{`5`, `""`, `()`, `0`}},
			{false, []string{`6`, `"a"`, `()`, `7`}, []string{`5`, `"a"`, `()`, `7`}},
			{true, []string{`6`, `"a"`, `()`, `7`}, []string{`6`, `"a"`, `()`, `8`}},
		}},
	} {
		tripsAsSaid(t, c)
	}
}

// TestSmallTrips: whatever two small edits, one behind the other, whatever goes in, and whatever stood there.
func TestSmallTrips(t *testing.T) {
	random := rand.New(rand.NewSource(60))
	done := map[int64]int{}
	for _, s := range smallShapes() {
		for _, first := range smallEdits() {
			if _, code := editedBy(s, first); code != impl.OK {
				continue
			}
			second, _ := someEdits(random, shapesBy(s, []impl.Edit{first})[1], 1)
			l := append([]impl.Edit{first}, second...)
			shapes := shapesBy(s, l)
			done[first.Kind]++
			lasts := fewVals(shapes[len(l)])
			for i, v := range fewVals(s) {
				w := lasts[i%len(lasts)]
				tripsAsBeside(t, s, l, v, w)
				tripsAsBeside(t, s, l, v, w, likelyTrip(random, shapes)...)
			}
		}
	}
	for kind := int64(impl.EdAdd); kind <= impl.EdSet; kind++ {
		same(t, fmt.Sprint("enough are done of ", kind, ": ", done[kind]), done[kind] > 5, true)
	}
}

func TestSomeTrips(t *testing.T) {
	random := rand.New(rand.NewSource(61))
	done := map[int64]int{}
	for range 500 {
		s, l, shapes := someTrip(random, 10)
		for _, e := range l {
			done[e.Kind]++
		}
		v, w := likelyVal(random, s), likelyVal(random, shapes[len(l)])
		tripsAsBeside(t, s, l, v, w)
		there, back := rightBy(shapes, l, v, nil), leftBy(shapes, l, w, nil)
		for _, stood := range [][]impl.Val{there, back, likelyTrip(random, shapes), besideTrip(random, shapes, there), besideTrip(random, shapes, back)} {
			tripsAsBeside(t, s, l, v, w, stood...)
			tripsAsBeside(t, s, l, besideVal(random, s, stood[0]), besideVal(random, shapes[len(l)], stood[len(l)]), stood...)
		}
	}
	for kind := int64(impl.EdAdd); kind <= impl.EdSet; kind++ {
		same(t, fmt.Sprint("enough are done of ", kind, ": ", done[kind]), done[kind] > 10, true)
	}
}

// TestTripsOfAllThere: shapes that are as wide and as deep as may be.
func TestTripsOfAllThere(t *testing.T) {
	random := rand.New(rand.NewSource(62))
	for _, c := range []struct {
		s impl.Shape
		l []impl.Edit
	}{
		{wide(4), []impl.Edit{nameOf("", "f", "g"), dropOf("", 3, "d", wide(3)), setOf("abc", pick("a"), num), bareOf(impl.EdList, ""), bareOf(impl.EdOne, "")}},
		{wide(4), []impl.Edit{bareOf(impl.EdMaybe, ""), bareOf(impl.EdSure, ""), setOf("", wide(3), wide(4))}},
		{textLists, []impl.Edit{bareOf(impl.EdOne, "***"), bareOf(impl.EdOne, ""), bareOf(impl.EdList, "**"), setOf("*", num, list(list(text)))}},
	} {
		shapes := shapesBy(c.s, c.l)
		for range 3 {
			stood := []impl.Val{}
			for _, s := range shapes {
				stood = append(stood, someVal(random, s))
			}
			tripsAsBeside(t, c.s, c.l, someVal(random, c.s), stood[len(c.l)])
			tripsAsBeside(t, c.s, c.l, someVal(random, c.s), someVal(random, shapes[len(c.l)]), stood...)
		}
	}
}

// TestTripsAsLongAsMayBe: of MaxList edits there is one shape more, and so many stages are no more handed in.
func TestTripsAsLongAsMayBe(t *testing.T) {
	all := wrapped(impl.MaxList)
	shapes, stages := []impl.Shape{num}, []impl.Val{numVal(5)}
	for range impl.MaxList / 2 {
		shapes = append(shapes, maybe(num), num)
		stages = append(stages, maybeVal(numVal(5)), numVal(5))
	}
	for size := impl.MaxList - 3; size < impl.MaxList; size++ {
		what := fmt.Sprint(size, " edits")
		l, told := all[:size], stages[:size+1]
		sameShapes(t, what, impl.Along(num, l), shapes[:size+1])
		sameTrip(t, what+", right", impl.Right(num, l, stages[0], nil), impl.TripOut{Stages: told})
		sameTrip(t, what+", left", impl.Left(num, l, stages[size], nil), impl.TripOut{Stages: told})
		thereAndBack(t, what, num, l, told)
		same(t, what+", one stage fewer", impl.TripRight(num, l, stages[:size]), false)
		notGone(t, what+", one stage fewer", num, l, stages[size%2], stages[:size], impl.ErrForm)
	}
	told := impl.TripOut{Stages: stages}
	sameShapes(t, "all edits", impl.Along(num, all), shapes)
	sameTrip(t, "all edits, right", impl.Right(num, all, numVal(5), nil), told)
	sameTrip(t, "all edits, left", impl.Left(num, all, numVal(5), nil), told)
	sameTrip(t, "all edits, no stages", impl.Right(num, all, numVal(5), []impl.Val{}), told)
	same(t, "all edits, and as many stages as shapes", impl.TripRight(num, all, stages), false)
	notGone(t, "all edits, and as many stages as shapes", num, all, numVal(5), stages, impl.ErrSize)
	same(t, "all edits, and as many stages", impl.TripRight(num, all, stages[:impl.MaxList]), false)
	notGone(t, "all edits, and as many stages", num, all, numVal(5), stages[:impl.MaxList], impl.ErrForm)
}

// TestLeftTellsInTheOrderOfTheShapes: what is handed in stands last, and what it comes to stands first.
func TestLeftTellsInTheOrderOfTheShapes(t *testing.T) {
	l := []impl.Edit{addOf("", 0, "a", num), addOf("", 1, "b", num), addOf("", 2, "c", num)}
	v := recVal(numVal(1), numVal(2), numVal(3))
	want := []impl.Val{recVal(), recVal(v.Items[:1]...), recVal(v.Items[:2]...), v}
	sameTrip(t, "left", impl.Left(rec(), l, v, nil), impl.TripOut{Stages: want})
	sameTrip(t, "left, with stages", impl.Left(rec(), l, v, want), impl.TripOut{Stages: want})
	backward := slices.Clone(want)
	slices.Reverse(backward)
	same(t, "turned round", impl.TripRight(rec(), l, backward), false)
	notGone(t, "turned round", rec(), l, v, backward, impl.ErrForm)
	sameTrip(t, "the edits that undo these", impl.Right(rec(num, num, num), impl.EditsBack(l), v, backward), impl.TripOut{Stages: backward})
}
