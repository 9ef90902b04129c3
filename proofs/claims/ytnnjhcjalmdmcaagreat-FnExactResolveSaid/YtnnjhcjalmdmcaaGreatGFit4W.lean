/- Walks: the method fits of listKind. -/
import Derived.Test.YtnnjhcjalmdmcaaGreatGFitC
namespace Go.Proofs.YtnnjhcjalmdmcaaGreat
open Go.RowKit

set_option maxRecDepth 100000 in
set_option maxHeartbeats 1000000 in
theorem listFits_any (d : Nat) (ih : FrAt d) (x : Sh) (hp : partOk d x = true) (c0 : Value) (k n : Int) (t : ByteArray) (p1 p2 p3 p : Option Addr) (n1 n2 n3 m1 m2 m3 m : Nat) (it : List Va) (w : World) (hs : IsShs w (.slice p3 n3 m3) [x]) (hv : IsVas w (.slice p it.length m) it) :
    Calls Tryz.prog 145 #[.agg #[c0, .slice p1 n1 m1, .slice p2 n2 m2, .slice p3 n3 m3], .agg #[.int .i64 k, .int .i64 n, .string t, .slice p it.length m]] w fun e w' => e = .returned (.bool ((decide (n = 0) && decide (t.size = 0)) && (decide (it.length ≤ 6) && it.all (fitB x)))) ∧ Below w.heap.size w w' := by
  obtain ⟨rfl, hm1, hm2, b, off, q1, i1, j1, q2, i2, j2, q3, i3, j3, rfl, g0, g1, g2, g3, g4⟩ := hs.one
  have HB := Lib.hid (fun o1 o2 => (below_alloc w o1).alloc (by simp) o2)
  have hX := two_new w (.cells #[c0, .slice p1 n1 m1, .slice p2 n2 m2, .slice (some ⟨b, off, none⟩) 1 m3] 120) (.cells #[.int .i64 k, .int .i64 n, .string t, .slice p it.length m] 29)
  have HV := Lib.hid hv
  have HC := Lib.hid (And.intro g0 (And.intro g1 (And.intro g2 g3)))
  have HX := Lib.hid g4
  have IH := Lib.hid ih
  have HP := Lib.hid hp
  obtain ⟨W, hW⟩ : ∃ W, W = ((w.alloc (.cells #[c0, .slice p1 n1 m1, .slice p2 n2 m2, .slice (some ⟨b, off, none⟩) 1 m3] 120)).alloc (.cells #[.int .i64 k, .int .i64 n, .string t, .slice p it.length m] 29)) := ⟨_, rfl⟩
  have HBW : Hid (Below w.heap.size w W) := by show Below _ _ _; rw [hW]; exact HB.out _ _
  rw [← hW] at hX
  have S1 := Lib.hid hX.1
  have S2 := Lib.hid hX.2
  have HW := Lib.hid hW
  clear hs hv g0 g1 g2 g3 g4 ih hp hX hW
  cases hb : (decide (n = 0) && decide (t.size = 0))
  · have H := Lib.hid hb
    clear hb
    go_enter Tryz.func145, Tryz.ntmps145
    go_wp2_with fail
    rw [← HW.out]
    obtain ⟨b0, b1, b2, b3, _, _, _, _, bz⟩ := blk4 S2.out
    first
      | go_region_with (go_at_call 142; refine (isItems_is _ _ _ _ _ _ _ H.out _).mono ?_; rintro e w1 ⟨rfl, hb1⟩; have HB1 := Lib.hid (HBW.out.drew.trans (hb1.mono HBW.out.size)); clear hb1)
      | fail
    all_goals
      go_wp2_with fail
      go_ret
      exact ⟨rfl, HB1.out⟩
  · have H := Lib.hid hb
    clear hb
    by_cases hl : it.length ≤ 6
    · have HL := Lib.hid hl
      have HR : Hid (it.all (fitB x) = (true && (decide (it.length ≤ 6) && it.all (fitB x)))) := by show _ = _; simp [hl]
      have hl : (it.length : Int) ≤ 6 := by omega
      go_enter Tryz.func145, Tryz.ntmps145
      go_wp2_with fail
      rw [← HW.out]
      obtain ⟨b0, b1, b2, b3, _, _, _, _, bz⟩ := blk4 S2.out
      obtain ⟨a0, a1, a2, a3, _, _, _, _, az⟩ := blk4 S1.out
      first
        | go_region_with (first
            | (go_at_call 142; refine (isItems_is _ _ _ _ _ _ _ H.out _).mono ?_; rintro e w1 ⟨rfl, hb1⟩; have HB1 := Lib.hid (HBW.out.drew.trans (hb1.mono HBW.out.size)); obtain ⟨_, _, _, _, _, _, _, _, _⟩ := blk4 (blk_below (w := W.drew) S2.out hb1 bz); obtain ⟨_, _, _, _, _, _, _, _, _⟩ := blk4 (blk_below (w := W.drew) S1.out hb1 az); have y0 := Keeps.of_below HB1.out _ _ _ HC.out.1; have y1 := Keeps.of_below HB1.out _ _ _ HC.out.2.1; have y2 := Keeps.of_below HB1.out _ _ _ HC.out.2.2.1; have y3 := Keeps.of_below HB1.out _ _ _ HC.out.2.2.2; clear hb1)
            | (go_at_call 143; refine (allFit_any d IH.out x HP.out _ _ it _ (IsSh.keep (Keeps.of_below HB1.out) _ _ HX.out) (IsVas.keep HV.out (Keeps.of_below HB1.out))).mono ?_; rintro e w2 ⟨rfl, hb2⟩; have HB2 := Lib.hid (HB1.out.trans (hb2.mono HB1.out.size)); clear hb2))
        | fail
      all_goals
        go_wp2_with fail
        go_ret
        exact ⟨ret_bool HR.out, HB2.out⟩
    · have HR : Hid (false = (true && (decide (it.length ≤ 6) && it.all (fitB x)))) := by show _ = _; simp [hl]
      have hl' : decide ((it.length : Int) ≤ 6) = false := by simp; omega
      have hl : (6 : Int) < it.length := by omega
      go_enter Tryz.func145, Tryz.ntmps145
      go_wp2_with fail
      rw [← HW.out]
      obtain ⟨b0, b1, b2, b3, _, _, _, _, bz⟩ := blk4 S2.out
      obtain ⟨a0, a1, a2, a3, _, _, _, _, az⟩ := blk4 S1.out
      first
        | go_region_with (go_at_call 142; refine (isItems_is _ _ _ _ _ _ _ H.out _).mono ?_; rintro e w1 ⟨rfl, hb1⟩; have HB1 := Lib.hid (HBW.out.drew.trans (hb1.mono HBW.out.size)); obtain ⟨_, _, _, _, _, _, _, _, _⟩ := blk4 (blk_below (w := W.drew) S2.out hb1 bz); obtain ⟨_, _, _, _, _, _, _, _, _⟩ := blk4 (blk_below (w := W.drew) S1.out hb1 az); clear hb1)
        | fail
      all_goals
        go_wp2_with fail
        go_ret
        exact ⟨ret_bool HR.out, HB1.out⟩

end Go.Proofs.YtnnjhcjalmdmcaaGreat
