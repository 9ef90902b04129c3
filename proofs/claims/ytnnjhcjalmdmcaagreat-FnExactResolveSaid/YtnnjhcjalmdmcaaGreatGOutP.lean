/- Walks: laws.eqValOut, markValOut, heldValOut; marks of a Val from some number on. -/
import Derived.Test.YtnnjhcjalmdmcaaGreatGMkP
import Derived.Test.YtnnjhcjalmdmcaaGreatGEqA
namespace Go.Proofs.YtnnjhcjalmdmcaaGreat
open Go.RowKit

theorem vmc_le : ∀ t : Va, Va.mcs t.it ≤ 3 * t.sz := by
  refine Va.ind fun k n s it ih => ?_
  have key : ∀ l : List Va, (∀ x ∈ l, Va.mcs x.it ≤ 3 * x.sz) → Va.mcs l ≤ 3 * (l.length + Va.szs l) := by
    intro l
    induction l with
    | nil => intro _; simp [Va.mcs]
    | cons x l ihl =>
      intro h
      have h1 := h x (by simp)
      have h2 := ihl fun y hy => h y (by simp [hy])
      cases x with | mk k n s it =>
      simp only [Va.mcs, Va.mc, Va.szs, List.length_cons, Va.it] at h1 h2 ⊢
      omega
  have := key it ih
  simp only [Va.it, Va.sz]
  omega
/-- markVal from q on, whatever it has. -/
theorem markVa_from (t : Va) (w : World) (base : Nat) (p : Option Addr) (n m : Nat) (F : List Nat) (q : Nat) (h : OwnVa w base t (.agg #[.int .i64 t.kd, .int .i64 t.nn, .string t.tx, .slice p n m]) F) (hF : F.Nodup) (hs : t.sz ≤ 1048576) (hq : q ≤ 10000000) :
    Calls Tryz.prog 26 #[.agg #[.int .i64 t.kd, .int .i64 t.nn, .string t.tx, .slice p n m], .int .i64 q] w fun e w' => ∃ K : Nat, e = .returned (.int .i64 (K : Int)) ∧ K ≤ q + 3145729 ∧ Only F w w' := by
  have hm := vmc_le t
  cases t with | mk k nn t it =>
  refine (markVal_any w base k nn t it (.slice p n m) F q h hF (by simp only [Va.it] at hm; omega)).mono ?_
  rintro e w' ⟨rfl, _, hy⟩
  exact ⟨_, rfl, by simp only [Va.it] at hm; omega, hy⟩

set_option maxRecDepth 100000 in
set_option maxHeartbeats 1000000 in
theorem eqO_same (x : Va) (c : Int) (k n : Int) (t : ByteArray) (p : Option Addr) (l m : Nat) (k' n' : Int) (t' : ByteArray) (p' : Option Addr) (l' m' : Nat) (w : World) (h : IsVa w x (.agg #[.int .i64 k, .int .i64 n, .string t, .slice p l m])) (g : IsVa w x (.agg #[.int .i64 k', .int .i64 n', .string t', .slice p' l' m'])) :
    Calls Tryz.prog 22 #[.agg #[.int .i64 k, .int .i64 n, .string t, .slice p l m, .int .i64 c], .agg #[.int .i64 k', .int .i64 n', .string t', .slice p' l' m', .int .i64 c]] w fun e w' => e = .returned (.bool true) ∧ Below w.heap.size w w' := by
  obtain ⟨W, hW⟩ : ∃ W, W = ((w.alloc (.cells #[.int .i64 k, .int .i64 n, .string t, .slice p l m, .int .i64 c] 33)).alloc (.cells #[.int .i64 k', .int .i64 n', .string t', .slice p' l' m', .int .i64 c] 33)) := ⟨_, rfl⟩
  have hX := two_new w (.cells #[.int .i64 k, .int .i64 n, .string t, .slice p l m, .int .i64 c] 33) (.cells #[.int .i64 k', .int .i64 n', .string t', .slice p' l' m', .int .i64 c] 33)
  have hbw := (below_alloc w (.cells #[.int .i64 k, .int .i64 n, .string t, .slice p l m, .int .i64 c] 33)).alloc (by simp) (.cells #[.int .i64 k', .int .i64 n', .string t', .slice p' l' m', .int .i64 c] 33)
  rw [← hW] at hX hbw
  have S1 := Lib.hid hX.1
  have S2 := Lib.hid hX.2
  have BW := Lib.hid hbw
  have HW := Lib.hid hW
  have H := Lib.hid (IsVa.keep (Keeps.of_below hbw) _ _ h)
  have G := Lib.hid (IsVa.keep (Keeps.of_below hbw) _ _ g)
  clear hX hbw hW h g
  obtain ⟨a0, a1, a2, a3, a4, _, _, _, _, _, az⟩ := blk5 S1.out
  obtain ⟨b0, b1, b2, b3, b4, _, _, _, _, _, bz⟩ := blk5 S2.out
  go_enter Tryz.func22, Tryz.ntmps22
  go_wp2_with fail
  rw [← HW.out]
  refine (eqVa_same x _ _ W H.out G.out).mono ?_
  rintro e w1 ⟨rfl, hb1⟩
  have B1 := Lib.hid (BW.out.trans (hb1.mono BW.out.size))
  have C1 := Lib.hid (blk_below S1.out hb1 az)
  have C2 := Lib.hid (blk_below S2.out hb1 bz)
  clear hb1 a0 a1 a2 a3 a4 az b0 b1 b2 b3 b4 bz
  obtain ⟨a0, a1, a2, a3, a4, _, _, _, _, _, az⟩ := blk5 C1.out
  obtain ⟨b0, b1, b2, b3, b4, _, _, _, _, _, bz⟩ := blk5 C2.out
  go_wp2_with fail
  go_ret
  exact ⟨rfl, B1.out⟩

set_option maxRecDepth 100000 in
set_option maxHeartbeats 1000000 in
theorem markO_one (x : Va) (c : Int) (w : World) (base : Nat) (p : Option Addr) (n m : Nat) (F : List Nat) (h : OwnVa w base x (.agg #[.int .i64 x.kd, .int .i64 x.nn, .string x.tx, .slice p n m]) F) (hF : F.Nodup) (hq : 1 + Va.mcs x.it ≤ 1099511627776) :
    Calls Tryz.prog 27 #[.agg #[.int .i64 x.kd, .int .i64 x.nn, .string x.tx, .slice p n m, .int .i64 c], .int .i64 1] w fun e w' => e = .returned (.int .i64 ((1 + Va.mcs x.it : Nat) : Int)) ∧ HeldVa w' x (.agg #[.int .i64 x.kd, .int .i64 x.nn, .string x.tx, .slice p n m]) ∧ Only F w w' := by
  have hba := below_alloc w (.cells #[.int .i64 x.kd, .int .i64 x.nn, .string x.tx, .slice p n m, .int .i64 c] 33)
  have hO : OwnVa (w.alloc (.cells #[.int .i64 x.kd, .int .i64 x.nn, .string x.tx, .slice p n m, .int .i64 c] 33)) base x _ F := OwnVa.move (Nat.le_refl _) _ _ _ (fun g hg => hba.block g (OwnVa.blocks _ _ _ h g hg).2) h
  have HM := Lib.hid (markVa_one x _ base p n m F hO hF hq)
  have HB := Lib.hid (Only.of_below (F := F) hba)
  clear hba hO h
  go_enter Tryz.func27, Tryz.ntmps27
  go_wp2_with fail
  refine HM.out.mono ?_
  rintro e w1 ⟨rfl, hh, hy⟩
  have HH := Lib.hid hh
  have HY := Lib.hid (HB.out.trans hy)
  clear hh hy
  go_wp2_with fail
  go_ret
  exact ⟨rfl, HH.out, HY.out⟩

set_option maxRecDepth 100000 in
set_option maxHeartbeats 1000000 in
theorem heldO_one (x : Va) (c : Int) (w : World) (k n' : Int) (t : ByteArray) (p : Option Addr) (n m : Nat) (h : HeldVa w x (.agg #[.int .i64 k, .int .i64 n', .string t, .slice p n m])) (hq : 1 + Va.mcs x.it ≤ 1099511627776) :
    Calls Tryz.prog 28 #[.agg #[.int .i64 k, .int .i64 n', .string t, .slice p n m, .int .i64 c], .int .i64 1] w fun e w' => e = .returned (.int .i64 ((1 + Va.mcs x.it : Nat) : Int)) ∧ Below w.heap.size w w' := by
  have hba := below_alloc w (.cells #[.int .i64 k, .int .i64 n', .string t, .slice p n m, .int .i64 c] 33)
  obtain ⟨K, hK⟩ : ∃ K : Nat, 1 + Va.mcs x.it = K := ⟨_, rfl⟩
  have HM := Lib.hid (heldVa_one x _ _ (h.below hba) hq)
  rw [hK] at HM hq ⊢
  have HB := Lib.hid hba
  have hk0 : ¬ (K : Int) < 0 := by omega
  clear hba h hK
  go_enter Tryz.func28, Tryz.ntmps28
  go_wp2_with fail
  refine HM.out.mono ?_
  rintro e w1 ⟨rfl, hb1⟩
  have B1 := Lib.hid (HB.out.trans (hb1.mono HB.out.size))
  clear hb1
  go_wp2_with fail
  go_ret
  exact ⟨rfl, B1.out⟩
end Go.Proofs.YtnnjhcjalmdmcaaGreat
