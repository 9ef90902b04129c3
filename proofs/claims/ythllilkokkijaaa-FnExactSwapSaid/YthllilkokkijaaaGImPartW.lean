/- Walks: impl.PartAt. -/
import Derived.Test.YthllilkokkijaaaGPartInW
import Derived.Test.YthllilkokkijaaaGTwoP
namespace Go.Proofs.Ythllilkokkijaaa
open Go.RowKit

/-- What a call that tells a shape and a code leaves. -/
def SoPost (r : Sh × Int) (w : World) (e : Ending) (w' : World) : Prop :=
  ∃ c0 c1 c2 c3 F, e = .returned (.agg #[c0, c1, c2, c3, .int .i64 r.2]) ∧ OwnSh w' w.heap.size r.1 (.agg #[c0, c1, c2, c3]) F ∧ F.Nodup ∧ Below w.heap.size w w'
theorem own_zsh (w : World) (B : Nat) : OwnSh w B zsh (.agg #[.int .i64 0, .slice none 0 0, .slice none 0 0, .slice none 0 0]) [] := by
  unfold zsh
  simp only [OwnSh]
  exact ⟨_, _, _, [], [], rfl, by unfold InI64'; omega, ⟨by simp, World.ownsRow_nil _ _ _ _⟩, ⟨by simp, World.ownsRow_nil _ _ _ _⟩, World.ownsRow_nil _ _ _ _, by simp [OwnAll], by simp [blkOf]⟩
theorem so_code {w W : World} (c : Int) (hb : Below w.heap.size w W) : SoPost (zsh, c) w (.returned (.agg #[.int .i64 0, .slice none 0 0, .slice none 0 0, .slice none 0 0, .int .i64 c])) W :=
  ⟨_, _, _, _, [], rfl, own_zsh _ _, List.nodup_nil, hb⟩
theorem so_put {w w1 : World} {x : Sh} {c : Int} {b : Nat} {c0 c1 c2 c3 : Value} {F : List Nat} {B : Nat} (hb : Below w.heap.size w w1) (hz : w.heap.size ≤ b) (hB : w.heap.size ≤ B) (hown : OwnSh w1 B x (.agg #[c0, c1, c2, c3]) F) (hF : b < B) (hnd : F.Nodup) :
    SoPost (x, c) w (.returned (.agg #[c0, c1, c2, c3, .int .i64 c])) ((putS w1 b c0 c1 c2 c3).setCell ⟨b, 4, none⟩ (.int .i64 c)) :=
  ⟨c0, c1, c2, c3, F, rfl, OwnSh.move hB _ _ _ (fun g hg => by have := OwnSh.blocks _ _ _ hown g hg; rw [Below.heap_setCell _ _ _ _ (show g ≠ b by omega), putS_other _ _ _ _ _ _ (show g ≠ b by omega)]) hown, hnd, (putS_below hb hz _ _ _ _).setCell (p := ⟨b, 4, none⟩) hz _⟩

set_option maxRecDepth 100000 in
set_option maxHeartbeats 2000000 in
theorem implPartAt_is (t : Sh) (p : List ByteArray) (r : Sh × Int) (hr : partR t p = r) (v vp : Value) (w : World) (h : IsSh w t v) (hp : IsStrs w vp p) :
    Calls Try.prog 11 #[v, vp] w (SoPost r w) := by
  have HH := Lib.hid h
  have HP := Lib.hid hp
  obtain ⟨p1, n1, m1, p2, n2, m2, p3, n3, m3, rfl⟩ := h.agg
  obtain ⟨_, _, a, cap, rfl, _, _, _⟩ := hp
  obtain ⟨W, hW⟩ : ∃ W, W = (w.alloc (.cells #[.int .i64 t.kd, .slice p1 n1 m1, .slice p2 n2 m2, .slice p3 n3 m3] 30)).alloc (.cells #[.int .i64 0, .slice none 0 0, .slice none 0 0, .slice none 0 0, .int .i64 0] 32) := ⟨_, rfl⟩
  obtain ⟨x0, x1⟩ := two_new w (.cells #[.int .i64 t.kd, .slice p1 n1 m1, .slice p2 n2 m2, .slice p3 n3 m3] 30) (.cells #[.int .i64 0, .slice none 0 0, .slice none 0 0, .slice none 0 0, .int .i64 0] 32)
  have hb : Below w.heap.size w W := by rw [hW]; exact (below_alloc w _).alloc (by simp) _
  have hz : W.heap.size = w.heap.size + 1 + 1 := by rw [hW]; simp
  rw [← hW] at x0 x1
  have X0 := Lib.hid x0
  have X1 := Lib.hid x1
  have HB := Lib.hid hb
  have HZ := Lib.hid hz
  have HW := Lib.hid hW
  clear h x0 x1 hb hz hW
  by_cases hl : 400 < p.length
  · have hl' : (400 : Int) < p.length := by omega
    obtain rfl : (zsh, 2) = r := by rw [← hr]; exact (if_pos hl).symm
    clear hr hl
    go_enter Try.func11, Try.ntmps11
    go_wp2_with fail
    refine bodyPost_ret (v := .agg #[.int .i64 0, .slice none 0 0, .slice none 0 0, .slice none 0 0, .int .i64 2]) (by simp [results, Try.results11, go_sem, *]) rfl (so_code 2 ?_)
    exact (below_alloc w _).alloc (by simp) _
  · have hl' : (p.length : Int) ≤ 400 := by omega
    have hr1 : (if (rightB t && pathOk p) = false then ((zsh, 1) : Sh × Int) else match partP p t with | none => (zsh, 6) | some u => (u, 0)) = r := by rw [← hr]; exact (if_neg hl).symm
    clear hr hl
    cases hs : rightB t
    · have HS := Lib.hid hs
      obtain rfl : (zsh, 1) = r := by rw [← hr1, hs]; rfl
      clear hr1 hs
      go_enter Try.func11, Try.ntmps11
      go_wp2_with fail
      rw [← HW.out]
      refine (implRight_is t _ HS.out _ W (IsSh.keep (Keeps.of_below HB.out) _ _ HH.out)).mono ?_
      rintro e w1 ⟨rfl, hb1⟩
      have B1 := Lib.hid (HB.out.trans (hb1.mono HB.out.size))
      obtain ⟨r0, r1, r2, r3, r4, e0, e1, e2, e3, e4, rz⟩ := blk5s (blk_below X1.out hb1 (by have := HZ.out; omega))
      clear hb1
      go_wp2_with fail
      refine bodyPost_ret (v := .agg #[.int .i64 0, .slice none 0 0, .slice none 0 0, .slice none 0 0, .int .i64 1]) (by simp [results, Try.results11, go_sem, *]) rfl (so_code 1 ?_)
      exact (putS_below B1.out (by omega) _ _ _ _).setCell (p := ⟨w.heap.size + 1, 4, none⟩) (by show _ ≤ w.heap.size + 1; omega) _
    · have HS := Lib.hid hs
      cases hq : pathOk p
      · have HQ := Lib.hid hq
        obtain rfl : (zsh, 1) = r := by rw [← hr1, hs, hq]; rfl
        clear hr1 hs hq
        go_enter Try.func11, Try.ntmps11
        go_wp2_with fail
        rw [← HW.out]
        refine (implRight_is t _ HS.out _ W (IsSh.keep (Keeps.of_below HB.out) _ _ HH.out)).mono ?_
        rintro e w1 ⟨rfl, hb1⟩
        have B1 := Lib.hid (HB.out.trans (hb1.mono HB.out.size))
        obtain ⟨r0, r1, r2, r3, r4, e0, e1, e2, e3, e4, rz⟩ := blk5s (blk_below X1.out hb1 (by have := HZ.out; omega))
        clear hb1
        go_wp2_with fail
        refine (implPath_is _ p _ HQ.out w1 (HP.out.keep (Keeps.of_below B1.out))).mono ?_
        rintro e w2 ⟨rfl, rfl⟩
        go_wp2_with fail
        refine bodyPost_ret (v := .agg #[.int .i64 0, .slice none 0 0, .slice none 0 0, .slice none 0 0, .int .i64 1]) (by simp [results, Try.results11, go_sem, *]) rfl (so_code 1 ?_)
        exact (putS_below B1.out (by omega) _ _ _ _).setCell (p := ⟨w.heap.size + 1, 4, none⟩) (by show _ ≤ w.heap.size + 1; omega) _
      · have HQ := Lib.hid hq
        have hr2 : (match partP p t with | none => ((zsh, 6) : Sh × Int) | some u => (u, 0)) = r := by rw [← hr1, hs, hq]; rfl
        have hd : partOk 5 t = true := hs
        have HD := Lib.hid hd
        clear hr1 hs hq hd
        have hst : Stands W t w.heap.size 0 := by
          obtain ⟨a0, a1, a2, a3, _⟩ := blk4 X0.out
          exact ⟨_, _, _, _, a0, a1, a2, a3, IsSh.keep (Keeps.of_below HB.out) _ _ HH.out⟩
        have HST := Lib.hid hst
        clear hst
        go_enter Try.func11, Try.ntmps11
        go_wp2_with fail
        rw [← HW.out]
        refine (implRight_is t _ HS.out _ W (IsSh.keep (Keeps.of_below HB.out) _ _ HH.out)).mono ?_
        rintro e w1 ⟨rfl, hb1⟩
        have B1 := Lib.hid (HB.out.trans (hb1.mono HB.out.size))
        have Y1 := Lib.hid (blk_below X1.out hb1 (by have := HZ.out; omega))
        have ST1 := Lib.hid (HST.out.keep (Keeps.of_below hb1))
        clear hb1
        go_wp2_with fail
        refine (implPath_is _ p _ HQ.out w1 (HP.out.keep (Keeps.of_below B1.out))).mono ?_
        rintro e w2 ⟨rfl, rfl⟩
        go_wp2_with fail
        refine (pi_any p t 5 w.heap.size 0 _ w1 w1 (Below.refl _ _) HD.out ST1.out (HP.out.keep (Keeps.of_below B1.out))).mono ?_
        rintro e w3 ⟨pr, rfl, hpr, hb3⟩
        have B3 := Lib.hid (B1.out.trans (hb3.mono B1.out.size))
        have Y3 := Lib.hid (blk_below Y1.out hb3 (Array.getElem?_eq_some_iff.1 Y1.out).1)
        cases hpp : partP p t with
        | none =>
          obtain rfl : (zsh, 6) = r := by rw [← hr2, hpp]
          obtain rfl := hpr.1 hpp
          obtain ⟨r0, r1, r2, r3, r4, e0, e1, e2, e3, e4, rz⟩ := blk5s Y3.out
          clear hpr hb3 hr2 hpp
          go_wp2_with fail
          refine bodyPost_ret (v := .agg #[.int .i64 0, .slice none 0 0, .slice none 0 0, .slice none 0 0, .int .i64 6]) (by simp [results, Try.results11, go_sem, *]) rfl (so_code 6 ?_)
          exact (putS_below B3.out (by omega) _ _ _ _).setCell (p := ⟨w.heap.size + 1, 4, none⟩) (by show _ ≤ w.heap.size + 1; omega) _
        | some u =>
          obtain rfl : (u, 0) = r := by rw [← hr2, hpp]
          obtain ⟨b', o', rfl, _, hsu⟩ := hpr.2 u hpp
          obtain ⟨d', hd', hu⟩ := part_ok p 5 t u HD.out hpp
          have HU := Lib.hid hu
          obtain ⟨c0, c1, c2, c3, g0, g1, g2, g3, g4⟩ := hsu.keep (Keeps.of_below hb3)
          obtain ⟨x1, y1, z1, x2, y2, z2, x3, y3, z3, rfl, rfl, rfl, rfl⟩ := g4.cells
          have G4 := Lib.hid g4
          have hbz := World.block_lt_of_cell? w3 ⟨b', o', none⟩ g0
          clear hpr hb3 hr2 hpp hsu g4 hu
          go_wp2_with fail
          refine (co_any d' u _ w3 HU.out G4.out).mono ?_
          rintro e w4 ⟨c0, c1, c2, c3, F, rfl, ho, hn, hb4⟩
          obtain ⟨k1, l1, o1, k2, l2, o2, k3, o3, rfl, rfl, rfl, rfl⟩ := cells3 (OwnSh.is _ _ _ ho)
          have B4 := Lib.hid (B3.out.trans (hb4.mono B3.out.size))
          have HO := Lib.hid ho
          have HN := Lib.hid hn
          have HZ3 := Lib.hid (Array.getElem?_eq_some_iff.1 Y3.out).1
          obtain ⟨r0, r1, r2, r3, r4, e0, e1, e2, e3, e4, rz⟩ := blk5s (blk_below Y3.out hb4 HZ3.out)
          clear ho hn hb4 g0 g1 g2 g3
          go_wp2_with fail
          refine bodyPost_ret (v := .agg #[.int .i64 u.kd, .slice k1 l1 o1, .slice k2 l2 o2, .slice k3 u.su.length o3, .int .i64 0]) (by simp [results, Try.results11, go_sem, *]) rfl ?_
          exact so_put B4.out (by omega) B3.out.size HO.out HZ3.out HN.out
end Go.Proofs.Ythllilkokkijaaa
