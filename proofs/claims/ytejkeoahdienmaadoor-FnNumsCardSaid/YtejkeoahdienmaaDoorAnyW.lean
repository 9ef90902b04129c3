/- Walks: the draws of numbers: l01Any, DrawPutNum. -/
import Derived.Test.YtejkeoahdienmaaDoorEdgeW
namespace Go.Proofs.YtejkeoahdienmaaDoor
open Go.RowKit

set_option maxHeartbeats 400000 in
theorem any_any (b B : Nat) (w : World) (a : Option Addr) (len cap : Nat) (h : SrcIs w b a len cap) (hr : RowB w a len B) (hB : B ≤ b) (hbw : b < w.heap.size) :
    Calls Tryd.prog 19 #[.pointer (some ⟨b, 0, none⟩)] w fun e w' => ∃ v : Int, e = .returned (.int .i64 v) ∧ InI64 v ∧ Below b w w' := by
  have H := Lib.hid h
  have HR := Lib.hid hr
  clear h hr
  go_enter Tryd.func19, Tryd.ntmps19
  go_wp2_with fail
  refine (one_any b B 4 _ (by decide) a len cap H.out HR.out).mono ?_
  rintro e w1 ⟨v, rfl, hs, hon⟩
  have HS := Lib.hid hs
  have hb1 := hon.below (Nat.le_refl b) (Nat.le_of_lt hbw)
  have HR1 := Lib.hid (HR.out.below (hb1.mono hB))
  have hbw1 : b < w1.heap.size := Nat.lt_of_lt_of_le hbw hb1.size
  have HB1 := Lib.hid hb1
  clear hs hon hb1
  cases v
  · go_wp2_with fail
    refine (n_any b B 1099511627776 _ (by decide) a len cap HS.out HR1.out).mono ?_
    rintro e w2 ⟨v, rfl, hv0, hv1, hs, hon⟩
    have hv2 : v ≤ 1099511627775 := by omega
    have HB2 := Lib.hid (HB1.out.trans (hon.below (Nat.le_refl _) (Nat.le_of_lt hbw1)))
    clear hs hon hv1
    go_wp2_with fail
    go_ret
    exact ⟨v - 1048576, rfl, by unfold InI64; omega, HB2.out⟩
  · go_wp2_with fail
    refine (edge_any b B _ a len cap HS.out HR1.out hB hbw1).mono ?_
    rintro e w2 ⟨v, rfl, hv, hb2⟩
    have HV := Lib.hid hv
    clear hv
    go_wp2_with fail
    go_ret
    exact ⟨v, rfl, HV.out, HB1.out.trans hb2⟩

theorem drawNum_any (w : World) (a : Option Addr) (len cap : Nat) (hr : RowB w a len w.heap.size) (hlen : len ≤ 1048576) :
    Calls Tryd.prog 6 #[.slice a len cap] w fun e w' => ∃ v : Int, e = .returned (.int .i64 v) ∧ InI64 v ∧ Below w.heap.size w w' := by
  have HR := Lib.hid hr
  clear hr
  go_enter Tryd.func6, Tryd.ntmps6
  go_wp2_with fail
  refine (source_any w a len cap HR.out hlen).mono ?_
  rintro e w1 ⟨rfl, hs, hb, hz⟩
  have HS := Lib.hid hs
  clear hs
  go_wp2_with fail
  refine (any_any w.heap.size w.heap.size _ a len cap HS.out (HR.out.below hb) (Nat.le_refl _) hz).mono ?_
  rintro e w2 ⟨v, rfl, hv, hb2⟩
  have HV := Lib.hid hv
  clear hv
  go_wp2_with fail
  go_ret
  exact ⟨v, rfl, HV.out, hb.trans hb2⟩
end Go.Proofs.YtejkeoahdienmaaDoor
