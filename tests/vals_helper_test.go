package tests

import (
	"math/rand"
	"slices"
	"strconv"
	"strings"
	"testing"

	"loop.example/g00848/impl"
)

func flagVal(n int64) impl.Val {
	return impl.Val{Kind: impl.ShFlag, N: n}
}

func numVal(n int64) impl.Val {
	return impl.Val{Kind: impl.ShNum, N: n}
}

func textVal(t string) impl.Val {
	return impl.Val{Kind: impl.ShText, T: t}
}

func pickVal(t string) impl.Val {
	return impl.Val{Kind: impl.ShPick, T: t}
}

func maybeVal(items ...impl.Val) impl.Val {
	return impl.Val{Kind: impl.ShMaybe, Items: items}
}

func listVal(items ...impl.Val) impl.Val {
	return impl.Val{Kind: impl.ShList, Items: items}
}

func recVal(items ...impl.Val) impl.Val {
	return impl.Val{Kind: impl.ShRec, Items: items}
}

// many is that many of one.
func many(one impl.Val, n int) []impl.Val {
	out := []impl.Val{}
	for range n {
		out = append(out, valCopied(one))
	}
	return out
}

// valRing is a list of itself.
func valRing(kind int64) impl.Val {
	v := []impl.Val{{Kind: kind}}
	v[0].Items = v
	return v[0]
}

// valLists is that many lists around a number.
func valLists(n int) impl.Val {
	v := numVal(0)
	for range n {
		v = listVal(v)
	}
	return v
}

// valAlike holds all fields against each other beside the program; an empty list and none are the same.
func valAlike(a impl.Val, b impl.Val) bool {
	return a.Kind == b.Kind && a.N == b.N && a.T == b.T && slices.EqualFunc(a.Items, b.Items, valAlike)
}

// valCopied shares no lists with what it is of.
func valCopied(v impl.Val) impl.Val {
	out := impl.Val{Kind: v.Kind, N: v.N, T: v.T}
	for _, item := range v.Items {
		out.Items = append(out.Items, valCopied(item))
	}
	return out
}

func sameVal(t *testing.T, what string, got impl.Val, want impl.Val) {
	t.Helper()
	if !valAlike(got, want) {
		t.Errorf("%s: got %s, want %s", what, shown(got), shown(want))
	}
}

func sameValOut(t *testing.T, what string, got impl.ValOut, want impl.ValOut) {
	t.Helper()
	if got.Code != want.Code || !valAlike(got.Val, want.Val) {
		t.Errorf("%s: got %s, want %s", what, shown(got), shown(want))
	}
}

// valWritten is the text of what fits, put together beside the program.
func valWritten(s impl.Shape, v impl.Val) string {
	parts := []string{}
	for i, item := range v.Items {
		part := s.Shapes[0]
		if s.Kind == impl.ShRec {
			part = s.Shapes[i]
		}
		parts = append(parts, valWritten(part, item))
	}
	all := strings.Join(parts, ",")
	switch s.Kind {
	case impl.ShFlag:
		return []string{"no", "yes"}[v.N]
	case impl.ShNum:
		return strconv.Itoa(int(v.N))
	case impl.ShText:
		return `"` + v.T + `"`
	case impl.ShPick:
		return v.T
	case impl.ShMaybe:
		if len(parts) == 0 {
			return "none"
		}
		return "some(" + all + ")"
	case impl.ShList:
		return "[" + all + "]"
	}
	return "(" + all + ")"
}

// textBytes is all bytes that may stand in a text of a Val.
func textBytes() string {
	out := ""
	for b := byte(32); b <= 126; b++ {
		if b != 34 {
			out += string(rune(b))
		}
	}
	return out
}

// fitting tells beside the program whether that fits a right shape.
func fitting(s impl.Shape, v impl.Val) bool {
	least, most := 0, 0
	var want impl.Val
	switch s.Kind {
	case impl.ShFlag:
		want.N = min(max(v.N, 0), 1)
	case impl.ShNum:
		want.N = min(max(v.N, 0), impl.MaxTime)
	case impl.ShText:
		want.T = v.T[:min(len(v.T), 20)]
		if strings.Trim(v.T, textBytes()) != "" {
			return false
		}
	case impl.ShPick:
		want.T = v.T
		if !slices.Contains(s.Syms, v.T) {
			return false
		}
	case impl.ShMaybe:
		most = 1
	case impl.ShList:
		most = 6
	case impl.ShRec:
		least, most = len(s.Names), len(s.Names)
	}
	if v.Kind != s.Kind || v.N != want.N || v.T != want.T || len(v.Items) < least || len(v.Items) > most {
		return false
	}
	for i, item := range v.Items {
		if !fitting(s.Shapes[i%len(s.Shapes)], item) {
			return false
		}
	}
	return true
}

func someText(r *rand.Rand) string {
	bytes := textBytes()
	out := ""
	for range r.Intn(21) {
		out += string(bytes[r.Intn(len(bytes))])
	}
	return out
}

// someVal is any that fits that right shape.
func someVal(r *rand.Rand, s impl.Shape) impl.Val {
	v := impl.Val{Kind: s.Kind}
	items := 0
	switch s.Kind {
	case impl.ShFlag:
		v.N = int64(r.Intn(2))
	case impl.ShNum:
		v.N = r.Int63n(impl.MaxTime+1) >> r.Intn(20)
	case impl.ShText:
		v.T = someText(r)
	case impl.ShPick:
		v.T = s.Syms[r.Intn(len(s.Syms))]
	case impl.ShMaybe:
		items = r.Intn(2)
	case impl.ShList:
		items = r.Intn(7)
	case impl.ShRec:
		items = len(s.Names)
	}
	for i := range items {
		v.Items = append(v.Items, someVal(r, s.Shapes[i%len(s.Shapes)]))
	}
	return v
}

// valsOf is it, and all that stands in it, to be changed where it stands.
func valsOf(v *impl.Val) []*impl.Val {
	out := []*impl.Val{v}
	for i := range v.Items {
		out = append(out, valsOf(&v.Items[i])...)
	}
	return out
}

// valStretches is where all lists of it lie.
func valStretches(v impl.Val, what string) []stretch {
	out := []stretch{stretchOf(what+".Items", v.Items)}
	for i, item := range v.Items {
		out = append(out, valStretches(item, what+"/"+letter(i))...)
	}
	return out
}

// sizedVal fits textLists, and its text has that many bytes, of 4405 to 30000.
func sizedVal(size int) impl.Val {
	return sizedBy(size, valWritten)
}

// sizedBy fits textLists, and what is made of it has that many bytes.
func sizedBy(size int, made func(s impl.Shape, v impl.Val) string) impl.Val {
	v := textVal("")
	for range 4 {
		v = listVal(many(v, 6)...)
	}
	more := size - len(made(textLists, v))
	for _, one := range valsOf(&v) {
		if one.Kind == impl.ShText {
			one.T = filledText(min(more, 20))
			more -= len(one.T)
		}
	}
	return v
}

var textLists = list(list(list(list(text))))

func filledText(size int) string {
	return textBytes()[:size]
}
