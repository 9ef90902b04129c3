/- Walks: impl.Loses, spec.Loses. -/
import Derived.Test.YtfdhmkmeffgkgaaDoorGEdSpW
import Derived.Test.YtfdhmkmeffgkgaaDoorGEdA
namespace Go.Proofs.YtfdhmkmeffgkgaaDoor
open Go.RowKit

/-- Which Edits lose. -/
def losesB (t : Ed) : Bool := edOk t && (decide (t.kd = 2) || decide (t.kd = 5) || decide (t.kd = 7) || decide (t.kd = 9) || decide (t.kd = 10))

set_option maxRecDepth 100000 in
set_option maxHeartbeats 2000000 in
theorem implLoses_is (t : Ed) (r : Bool) (hr : losesB t = r) (v : Value) (w : World) (h : IsEd w t v) (hek : EkAt w) :
    Calls Tryd.prog 71 #[v] w fun e w' => e = .returned (.bool r) ∧ Below w.heap.size w w' := by
  have HH := Lib.hid h
  have EK := Lib.hid hek
  clear hek
  obtain ⟨p0, m0, p1, n1, m1, p2, n2, m2, p3, n3, m3, q1, i1, j1, q2, i2, j2, q3, i3, j3, rfl, _, _, _, _, _, _, _⟩ := h
  obtain ⟨kd, path, pl, nm, tn, sh, ws⟩ := t
  dsimp only at HH ⊢
  obtain ⟨W, hW⟩ : ∃ W, W = w.alloc (.cells #[.int .i64 kd, .slice p0 path.length m0, .int .i64 pl, .string nm, .string tn, .int .i64 sh.kd, .slice p1 n1 m1, .slice p2 n2 m2, .slice p3 n3 m3, .int .i64 ws.kd, .slice q1 i1 j1, .slice q2 i2 j2, .slice q3 i3 j3] 33) := ⟨_, rfl⟩
  have hba := below_alloc w (.cells #[.int .i64 kd, .slice p0 path.length m0, .int .i64 pl, .string nm, .string tn, .int .i64 sh.kd, .slice p1 n1 m1, .slice p2 n2 m2, .slice p3 n3 m3, .int .i64 ws.kd, .slice q1 i1 j1, .slice q2 i2 j2, .slice q3 i3 j3] 33)
  have hx := Go.Deep.blk_alloc_new w (.cells #[.int .i64 kd, .slice p0 path.length m0, .int .i64 pl, .string nm, .string tn, .int .i64 sh.kd, .slice p1 n1 m1, .slice p2 n2 m2, .slice p3 n3 m3, .int .i64 ws.kd, .slice q1 i1 j1, .slice q2 i2 j2, .slice q3 i3 j3] 33)
  rw [← hW] at hba hx
  have A0 := Lib.hid hx
  have B0 := Lib.hid hba
  have HW := Lib.hid hW
  have HR := Lib.hid hr
  obtain ⟨ok, hok⟩ : ∃ ok, edOk ⟨kd, path, pl, nm, tn, sh, ws⟩ = ok := ⟨_, rfl⟩
  have OK := Lib.hid hok
  clear hba hx hW hr hok
  have a0 := cel A0.out 0 rfl
  have a1 := cel A0.out 1 rfl
  have a2 := cel A0.out 2 rfl
  have a3 := cel A0.out 3 rfl
  have a4 := cel A0.out 4 rfl
  have a5 := cel A0.out 5 rfl
  have a6 := cel A0.out 6 rfl
  have a7 := cel A0.out 7 rfl
  have a8 := cel A0.out 8 rfl
  have a9 := cel A0.out 9 rfl
  have a10 := cel A0.out 10 rfl
  have a11 := cel A0.out 11 rfl
  have a12 := cel A0.out 12 rfl
  go_enter Tryd.func71, Tryd.ntmps71
  go_wp2_with fail
  rw [← HW.out]
  refine (implEd_is ⟨kd, path, pl, nm, tn, sh, ws⟩ ok OK.out _ _ (HH.out.keep (Keeps.of_below B0.out)) (EK.out.keep (Keeps.of_below B0.out))).mono ?_
  rintro e w1 ⟨rfl, hb1⟩
  have A1 := Lib.hid (blk_below A0.out hb1 (Array.getElem?_eq_some_iff.1 A0.out).1)
  have B1 := Lib.hid (B0.out.trans (hb1.mono B0.out.size))
  clear hb1 a0 a1 a2 a3 a4 a5 a6 a7 a8 a9 a10 a11 a12
  cases ok
  · have HE : Hid (r = false) := by show _ = _; rw [← HR.out]; unfold losesB; rw [OK.out]; rfl
    go_wp2_with fail
    go_ret
    exact ⟨ret_bool HE.out.symm, B1.out⟩
  · have a0 := cel A1.out 0 rfl
    by_cases h0 : kd = 2
    · have HE : Hid (r = true) := by show _ = _; rw [← HR.out]; unfold losesB; rw [OK.out]; simp [h0]
      subst h0
      go_wp2_with fail
      go_ret
      exact ⟨ret_bool HE.out.symm, B1.out⟩
    by_cases h1 : kd = 5
    · have HE : Hid (r = true) := by show _ = _; rw [← HR.out]; unfold losesB; rw [OK.out]; simp [h1]
      subst h1
      go_wp2_with fail
      go_ret
      exact ⟨ret_bool HE.out.symm, B1.out⟩
    by_cases h2 : kd = 7
    · have HE : Hid (r = true) := by show _ = _; rw [← HR.out]; unfold losesB; rw [OK.out]; simp [h2]
      subst h2
      go_wp2_with fail
      go_ret
      exact ⟨ret_bool HE.out.symm, B1.out⟩
    by_cases h3 : kd = 9
    · have HE : Hid (r = true) := by show _ = _; rw [← HR.out]; unfold losesB; rw [OK.out]; simp [h3]
      subst h3
      go_wp2_with fail
      go_ret
      exact ⟨ret_bool HE.out.symm, B1.out⟩
    by_cases h4 : kd = 10
    · have HE : Hid (r = true) := by show _ = _; rw [← HR.out]; unfold losesB; rw [OK.out]; simp [h4]
      subst h4
      go_wp2_with fail
      go_ret
      exact ⟨ret_bool HE.out.symm, B1.out⟩
    have HE : Hid (r = false) := by show _ = _; rw [← HR.out]; unfold losesB; rw [OK.out]; simp [h0, h1, h2, h3, h4]
    have g0 : (kd == 2) = false := by simpa using h0
    have g1 : (kd == 5) = false := by simpa using h1
    have g2 : (kd == 7) = false := by simpa using h2
    have g3 : (kd == 9) = false := by simpa using h3
    have g4 : (kd == 10) = false := by simpa using h4
    clear h0 h1 h2 h3 h4
    go_wp2_with fail
    go_ret
    exact ⟨ret_bool HE.out.symm, B1.out⟩

set_option maxRecDepth 100000 in
set_option maxHeartbeats 2000000 in
theorem specLoses_is (t : Ed) (r : Bool) (hr : losesB t = r) (v : Value) (w : World) (h : IsEd w t v) :
    Calls Tryd.prog 41 #[v] w fun e w' => e = .returned (.bool r) ∧ Below w.heap.size w w' := by
  have HH := Lib.hid h
  obtain ⟨p0, m0, p1, n1, m1, p2, n2, m2, p3, n3, m3, q1, i1, j1, q2, i2, j2, q3, i3, j3, rfl, _, _, _, _, _, _, _⟩ := h
  obtain ⟨kd, path, pl, nm, tn, sh, ws⟩ := t
  dsimp only at HH ⊢
  obtain ⟨W, hW⟩ : ∃ W, W = w.alloc (.cells #[.int .i64 kd, .slice p0 path.length m0, .int .i64 pl, .string nm, .string tn, .int .i64 sh.kd, .slice p1 n1 m1, .slice p2 n2 m2, .slice p3 n3 m3, .int .i64 ws.kd, .slice q1 i1 j1, .slice q2 i2 j2, .slice q3 i3 j3] 33) := ⟨_, rfl⟩
  have hba := below_alloc w (.cells #[.int .i64 kd, .slice p0 path.length m0, .int .i64 pl, .string nm, .string tn, .int .i64 sh.kd, .slice p1 n1 m1, .slice p2 n2 m2, .slice p3 n3 m3, .int .i64 ws.kd, .slice q1 i1 j1, .slice q2 i2 j2, .slice q3 i3 j3] 33)
  have hx := Go.Deep.blk_alloc_new w (.cells #[.int .i64 kd, .slice p0 path.length m0, .int .i64 pl, .string nm, .string tn, .int .i64 sh.kd, .slice p1 n1 m1, .slice p2 n2 m2, .slice p3 n3 m3, .int .i64 ws.kd, .slice q1 i1 j1, .slice q2 i2 j2, .slice q3 i3 j3] 33)
  rw [← hW] at hba hx
  have A0 := Lib.hid hx
  have B0 := Lib.hid hba
  have HW := Lib.hid hW
  have HR := Lib.hid hr
  obtain ⟨ok, hok⟩ : ∃ ok, edOk ⟨kd, path, pl, nm, tn, sh, ws⟩ = ok := ⟨_, rfl⟩
  have OK := Lib.hid hok
  clear hba hx hW hr hok
  have a0 := cel A0.out 0 rfl
  have a1 := cel A0.out 1 rfl
  have a2 := cel A0.out 2 rfl
  have a3 := cel A0.out 3 rfl
  have a4 := cel A0.out 4 rfl
  have a5 := cel A0.out 5 rfl
  have a6 := cel A0.out 6 rfl
  have a7 := cel A0.out 7 rfl
  have a8 := cel A0.out 8 rfl
  have a9 := cel A0.out 9 rfl
  have a10 := cel A0.out 10 rfl
  have a11 := cel A0.out 11 rfl
  have a12 := cel A0.out 12 rfl
  go_enter Tryd.func41, Tryd.ntmps41
  go_wp2_with fail
  rw [← HW.out]
  refine (specEd_is ⟨kd, path, pl, nm, tn, sh, ws⟩ ok OK.out _ _ (HH.out.keep (Keeps.of_below B0.out))).mono ?_
  rintro e w1 ⟨rfl, hb1⟩
  have A1 := Lib.hid (blk_below A0.out hb1 (Array.getElem?_eq_some_iff.1 A0.out).1)
  have B1 := Lib.hid (B0.out.trans (hb1.mono B0.out.size))
  clear hb1 a0 a1 a2 a3 a4 a5 a6 a7 a8 a9 a10 a11 a12
  cases ok
  · have HE : Hid (r = false) := by show _ = _; rw [← HR.out]; unfold losesB; rw [OK.out]; rfl
    go_wp2_with fail
    go_ret
    exact ⟨ret_bool HE.out.symm, B1.out⟩
  · have a0 := cel A1.out 0 rfl
    by_cases h0 : kd = 2
    · have HE : Hid (r = true) := by show _ = _; rw [← HR.out]; unfold losesB; rw [OK.out]; simp [h0]
      subst h0
      go_wp2_with fail
      go_ret
      exact ⟨ret_bool HE.out.symm, B1.out⟩
    by_cases h1 : kd = 5
    · have HE : Hid (r = true) := by show _ = _; rw [← HR.out]; unfold losesB; rw [OK.out]; simp [h1]
      subst h1
      go_wp2_with fail
      go_ret
      exact ⟨ret_bool HE.out.symm, B1.out⟩
    by_cases h2 : kd = 7
    · have HE : Hid (r = true) := by show _ = _; rw [← HR.out]; unfold losesB; rw [OK.out]; simp [h2]
      subst h2
      go_wp2_with fail
      go_ret
      exact ⟨ret_bool HE.out.symm, B1.out⟩
    by_cases h3 : kd = 9
    · have HE : Hid (r = true) := by show _ = _; rw [← HR.out]; unfold losesB; rw [OK.out]; simp [h3]
      subst h3
      go_wp2_with fail
      go_ret
      exact ⟨ret_bool HE.out.symm, B1.out⟩
    by_cases h4 : kd = 10
    · have HE : Hid (r = true) := by show _ = _; rw [← HR.out]; unfold losesB; rw [OK.out]; simp [h4]
      subst h4
      go_wp2_with fail
      go_ret
      exact ⟨ret_bool HE.out.symm, B1.out⟩
    have HE : Hid (r = false) := by show _ = _; rw [← HR.out]; unfold losesB; rw [OK.out]; simp [h0, h1, h2, h3, h4]
    have g0 : (kd == 2) = false := by simpa using h0
    have g1 : (kd == 5) = false := by simpa using h1
    have g2 : (kd == 7) = false := by simpa using h2
    have g3 : (kd == 9) = false := by simpa using h3
    have g4 : (kd == 10) = false := by simpa using h4
    clear h0 h1 h2 h3 h4
    go_wp2_with fail
    go_ret
    exact ⟨ret_bool HE.out.symm, B1.out⟩

end Go.Proofs.YtfdhmkmeffgkgaaDoor
