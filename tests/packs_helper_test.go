package tests

import (
	"encoding/binary"
	"slices"
	"testing"

	"loop.example/g00848/impl"
)

// packWritten is the bytes of what fits, put together beside the program.
func packWritten(s impl.Shape, v impl.Val) string {
	out := []byte{}
	parts := s.Shapes
	switch s.Kind {
	case impl.ShFlag, impl.ShNum:
		out = binary.AppendVarint(out, v.N)
	case impl.ShText:
		out = append(binary.AppendVarint(out, int64(len(v.T))), v.T...)
	case impl.ShPick:
		out = binary.AppendVarint(out, int64(slices.Index(s.Syms, v.T)))
	case impl.ShMaybe, impl.ShList:
		out = binary.AppendVarint(out, int64(len(v.Items)))
		parts = slices.Repeat(parts, len(v.Items))
	}
	for i, item := range v.Items {
		out = append(out, packWritten(parts[i], item)...)
	}
	return string(out)
}

// unpackedBy is what stands there by a right shape, taken apart beside the program, by what GetNum and GetText tell.
func unpackedBy(s impl.Shape, bytes string, at int64) impl.Unpacked {
	v := impl.Val{Kind: s.Kind}
	parts := s.Shapes
	var head impl.NumOut
	switch s.Kind {
	case impl.ShText:
		got := impl.GetText(bytes, at)
		v.T, head.At, head.Code = got.Text, got.At, got.Code
	case impl.ShRec:
		head.At = at
	default:
		head = impl.GetNum(bytes, at)
	}
	if head.Code != impl.OK {
		return impl.Unpacked{Code: head.Code}
	}
	can := true
	switch s.Kind {
	case impl.ShFlag, impl.ShNum:
		v.N = head.N
		can = fitting(s, v)
	case impl.ShText:
		can = fitting(s, v)
	case impl.ShPick:
		can = head.N >= 0 && head.N < int64(len(s.Syms))
		if can {
			v.T = s.Syms[head.N]
		}
	case impl.ShMaybe:
		can = head.N == 0 || head.N == 1
	case impl.ShList:
		can = head.N >= 0 && head.N <= 6
	}
	if !can {
		return impl.Unpacked{Code: impl.ErrSyntax}
	}
	if s.Kind == impl.ShMaybe || s.Kind == impl.ShList {
		parts = slices.Repeat(parts, int(head.N))
	}
	at = head.At
	for _, part := range parts {
		got := unpackedBy(part, bytes, at)
		if got.Code != impl.OK {
			return got
		}
		v.Items = append(v.Items, got.Val)
		at = got.At
	}
	return impl.Unpacked{Val: v, At: at}
}

func sameUnpacked(t *testing.T, what string, got impl.Unpacked, want impl.Unpacked) {
	t.Helper()
	if got.Code != want.Code || got.At != want.At || !valAlike(got.Val, want.Val) {
		t.Errorf("%s: got %s, want %s", what, shown(got), shown(want))
	}
}

// whole is what UnpackAll tells, where Unpack from 0 on tells that.
func whole(got impl.Unpacked, bytes string) impl.ValOut {
	if got.Code == impl.OK && got.At != int64(len(bytes)) {
		return impl.ValOut{Code: impl.ErrSyntax}
	}
	return impl.ValOut{Val: got.Val, Code: got.Code}
}

// unpacksAsSaid tells whether that is all of something that fits.
func unpacksAsSaid(t *testing.T, s impl.Shape, bytes string) bool {
	t.Helper()
	want := unpackedBy(s, bytes, 0)
	got := impl.Unpack(s, bytes, 0)
	what := shown(bytes) + " by " + written(s)
	sameUnpacked(t, what, got, want)
	all := whole(want, bytes)
	sameValOut(t, what, impl.UnpackAll(s, bytes), all)
	if got.Code == impl.OK {
		same(t, what+": fits", fitting(s, got.Val), true)
		same(t, what+": Pack", impl.Pack(s, got.Val), bytes[:got.At])
	}
	return all.Code == impl.OK
}

// sizedPack fits textLists, and is packed in that many bytes, of 1555 to 27475.
func sizedPack(size int) impl.Val {
	return sizedBy(size, packWritten)
}
