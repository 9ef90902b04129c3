/- Walks: impl.Pack, spec.Pack. -/
import Derived.Test.YtphiljhdonnpmaaGreatDoorGPackMW
import Derived.Test.YtphiljhdonnpmaaGreatDoorGPkMadeW
import Derived.Test.YtphiljhdonnpmaaGreatDoorGFitB
import Derived.Deep.RegionWith
namespace Go.Proofs.YtphiljhdonnpmaaGreatDoor
open Go.RowKit

/-- What Pack tells. -/
def packR (s : Sh) (x : Va) : List UInt8 := if fitsB s x = true then packB s x else []

theorem field_pk (f1 f2 : FuncId) (c1 c2 : Array Value) (w : World) : (Instr.field 79 (.agg #[.func (.func f1) #[] c1, .func (.func f2) #[] c2]) 0).run Tryz.prog w = .ok (.func (.func f1) #[] c1) w := by kernel_rfl

set_option maxRecDepth 100000 in
set_option maxHeartbeats 1000000 in
theorem implPack_is (s : Sh) (x : Va) (r : List UInt8) (hr : packR s x = r) (u v : Value) (w : World) (h : IsSh w s u) (g : IsVa w x v) (hkw : KwAt w) :
    Calls Tryz.prog 14 #[u, v] w fun e w' => e = .returned (.string ⟨r.toArray⟩) ∧ Below w.heap.size w w' := by
  subst hr
  have HH := Lib.hid h
  have HG := Lib.hid g
  have HKW := Lib.hid hkw
  obtain ⟨p1, n1, m1, p2, n2, m2, p3, n3, m3, rfl⟩ := h.agg
  cases x with | mk k n t it =>
  obtain ⟨p, m4, rfl, _⟩ := g.open
  have hX := two_new w (.cells #[.int .i64 s.kd, .slice p1 n1 m1, .slice p2 n2 m2, .slice p3 n3 m3] 34) (.cells #[.int .i64 k, .int .i64 n, .string t, .slice p it.length m4] 38)
  have hbw := (below_alloc w (.cells #[.int .i64 s.kd, .slice p1 n1 m1, .slice p2 n2 m2, .slice p3 n3 m3] 34)).alloc (by simp) (.cells #[.int .i64 k, .int .i64 n, .string t, .slice p it.length m4] 38)
  obtain ⟨W, hW⟩ : ∃ W, W = (w.alloc (.cells #[.int .i64 s.kd, .slice p1 n1 m1, .slice p2 n2 m2, .slice p3 n3 m3] 34)).alloc (.cells #[.int .i64 k, .int .i64 n, .string t, .slice p it.length m4] 38) := ⟨_, rfl⟩
  rw [← hW] at hX hbw
  have S1 := Lib.hid hX.1
  have S2 := Lib.hid hX.2
  have BW := Lib.hid hbw
  have HW := Lib.hid hW
  obtain ⟨a0, a1, a2, a3, _, _, _, _, az⟩ := blk4 S1.out
  obtain ⟨b0, b1, b2, b3, _, _, _, _, bz⟩ := blk4 S2.out
  clear h g hkw hX hbw hW
  cases hf : fitsB s (.mk k n t it)
  · have HF := Lib.hid hf
    have HP : Hid (packR s (.mk k n t it) = []) := by show _ = _; unfold packR; rw [hf]; rfl
    clear hf
    go_enter Tryz.func14, Tryz.ntmps14
    go_wp2_with fail
    rw [← HW.out]
    refine (implFits_is s _ _ HF.out _ _ _ (IsSh.keep (Keeps.of_below BW.out) _ _ HH.out) (IsVa.keep (Keeps.of_below BW.out) _ _ HG.out)).mono ?_
    rintro e w1 ⟨rfl, hb1⟩
    have B1 := Lib.hid (BW.out.trans (hb1.mono BW.out.size))
    clear hb1 a0 a1 a2 a3 az b0 b1 b2 b3 bz
    go_wp2_with fail
    go_ret
    exact ⟨ret_list HP.out.symm, B1.out⟩
  · have HF := Lib.hid hf
    have HP : Hid (packR s (.mk k n t it) = packB s (.mk k n t it)) := by show _ = _; unfold packR; rw [hf]; rfl
    clear hf
    go_enter Tryz.func14, Tryz.ntmps14
    go_wp2_with fail
    rw [← HW.out]
    refine (implFits_is s _ _ HF.out _ _ _ (IsSh.keep (Keeps.of_below BW.out) _ _ HH.out) (IsVa.keep (Keeps.of_below BW.out) _ _ HG.out)).mono ?_
    rintro e w1 ⟨rfl, hb1⟩
    have B1 := Lib.hid (BW.out.trans (hb1.mono BW.out.size))
    have T1 := Lib.hid (blk_below S1.out hb1 az)
    have T2 := Lib.hid (blk_below S2.out hb1 bz)
    clear hb1 a0 a1 a2 a3 az b0 b1 b2 b3 bz
    obtain ⟨a0, a1, a2, a3, _, _, _, _, az⟩ := blk4 T1.out
    obtain ⟨b0, b1, b2, b3, _, _, _, _, bz⟩ := blk4 T2.out
    go_wp2_with fail
    have hmm := @run_makeMap Tryz.prog
    have hsz : (w1.drew.alloc (.map #[] 0)).heap.size = w1.heap.size + 1 := by show (w1.drew.heap.push _).size = _; rw [Array.size_push]; rfl
    have hfd := @field_pk
    have hr5 : partOk 5 s = true := by have := HF.out; unfold fitsB at this; simp only [Bool.and_eq_true] at this; exact this.1
    have hfb : fitB s (.mk k n t it) = true := by have := HF.out; unfold fitsB at this; simp only [Bool.and_eq_true] at this; exact this.2
    have HR5 := Lib.hid hr5
    have HFB := Lib.hid hfb
    have HPL := Lib.hid (pack_len 5 s _ hr5 hfb)
    have HS1 := Lib.hid (IsSh.keep keeps_drew _ _ (IsSh.keep (Keeps.of_below B1.out) _ _ HH.out))
    have HK1 : Hid (KwAt w1.drew) := fun k hk => keeps_drew _ _ _ (Keeps.of_below B1.out _ _ _ (HKW.out k hk))
    have E1 : Hid (Env (fun g => g = w1.heap.size) w1.drew (w1.drew.alloc (.map #[] 0)) w1.heap.size) := ⟨(Below.refl _ _).alloc (Nat.le_refl _) _, fun g hg => by subst hg; exact Nat.le_refl _, fun g hg => by subst hg; rw [hsz]; exact Nat.lt_succ_self _, rfl⟩
    have M1 : Hid (MapG GPack (fun g => g = w1.heap.size) (w1.drew.alloc (.map #[] 0)) w1.heap.size) := ⟨#[], 0, Go.Deep.blk_alloc_new w1.drew _, fun e he => by simp at he⟩
    have BM : Hid (Below w1.heap.size w1 (w1.drew.alloc (.map #[] 0))) := (Below.refl _ _).drew.alloc (Nat.le_refl _) _
    have HSZ := Lib.hid hsz
    clear hr5 hfb hsz
    go_region_with (first
      | (go_at_call 54; refine (of_all GPack gpack_makers 5 (Nat.le_refl _) _ w1.drew _ _ s _ HR5.out HS1.out HK1.out E1.out M1.out).mono ?_; rintro e w3 ⟨f1, c1, f2, c2, rfl, ⟨_, _, _, _, hge, hgp⟩, _, ho3⟩; cases hge; obtain ⟨F, caps, hFc, hFe, hP⟩ := hgp w3 (Stab.refl _ _); cases hFc; have B3 := Lib.hid (ho3.below (B := w1.heap.size) (by rw [HSZ.out]; exact Nat.le_succ _) (by simp)); have C3 := Lib.hid (BM.out.trans B3.out); have D3 := Lib.hid (B1.out.trans (C3.out.mono B1.out.size)); have HPk := Lib.hid hP; obtain ⟨_, _, _, _, _, _, _, _, _⟩ := blk4 (blk_below T2.out C3.out bz); clear hP ho3 hgp)
      | (refine (HPk.out (.mk k n t it) w3 _ _ [] HFB.out (IsVa.keep (Keeps.of_below D3.out) _ _ HG.out) (Below.refl _ _) (OwnB.nil _ _) (by have := HPL.out; simp only [capP] at this; simp only [List.length_nil]; omega)).mono ?_; rintro e w4 ⟨p4, n4, m4, rfl, ho4, hb4, _, _⟩; have hstr := ho4.str; have B4 := Lib.hid (D3.out.trans (hb4.mono D3.out.size)); clear ho4 hb4))
    all_goals
      go_wp2_with fail
      go_ret
      exact ⟨ret_list (by rw [HP.out]), B4.out⟩
end Go.Proofs.YtphiljhdonnpmaaGreatDoor
