/- Walk: impl.PathRead. -/
import Derived.Test.YtmdlciomhkielaaDoorPrP
import Derived.Test.YtmdlciomhkielaaDoorPathW
import Derived.Test.YtmdlciomhkielaaDoorLayP
import Derived.Test.YtmdlciomhkielaaDoorCopyWdW
namespace Go.Proofs.YtmdlciomhkielaaDoor
open Go.RowKit

/-- The library's own number stands in its cell. -/
def ML (w : World) : Prop := ∃ m, w.cell? ⟨3, 0, none⟩ = some (.int .i64 m)
theorem ML.keep {w w' : World} (h : ML w) (hk : Keeps w w') : ML w' := let ⟨m, hm⟩ := h; ⟨m, hk _ _ _ hm⟩

theorem pre_yes {t : ByteArray} (h : t.data.toList.head? = some 47) : Lib.hasPrefix t.data.toList [47] = true ∧ (⟨(Lib.trimPrefix t.data.toList [47]).toArray⟩ : ByteArray) = restB t := by
  have hp : Lib.hasPrefix t.data.toList [47] = true := by
    unfold Lib.hasPrefix
    cases hl : t.data.toList with
    | nil => rw [hl] at h; cases h
    | cons b l =>
      rw [hl] at h
      simp at h
      subst h
      simp
  refine ⟨hp, ?_⟩
  apply ByteArray.ext
  apply Array.ext'
  rw [rest_data]
  unfold Lib.trimPrefix
  rw [if_pos hp]
  rfl
theorem pre_no {t : ByteArray} (h : ¬ t.data.toList.head? = some 47) : Lib.hasPrefix t.data.toList [47] = false ∧ (⟨(Lib.trimPrefix t.data.toList [47]).toArray⟩ : ByteArray) = t := by
  have hp : Lib.hasPrefix t.data.toList [47] = false := by
    unfold Lib.hasPrefix
    cases hl : t.data.toList with
    | nil => rfl
    | cons b l =>
      rw [hl] at h
      have hb : ¬ (47 : UInt8) = b := fun e => h (by simp [e])
      simp [List.isPrefixOf, hb]
  refine ⟨hp, ?_⟩
  unfold Lib.trimPrefix
  rw [hp]
  rfl
theorem cutP_any (t : ByteArray) (f : Bool) (x : ByteArray) (hf : Lib.hasPrefix t.data.toList [47] = f) (hx : (⟨(Lib.trimPrefix t.data.toList [47]).toArray⟩ : ByteArray) = x) (w : World) :
    Calls Tryd.prog 42 #[.string t, .string ⟨#[47]⟩] w fun e w' => e = .returned (.tuple #[.string x, .bool f]) ∧ w' = w := by
  subst hf hx
  exact Tryd.strings_CutPrefix t ⟨#[47]⟩ w
theorem tl_any (t : ByteArray) (b : Bool) (hb : decide (8000 < t.size) = b) (w : World) (ht : t.size ≤ 9223372036854775807) :
    Calls Tryd.prog 34 #[.string t] w fun e w' => e = .returned (.bool b) ∧ w = w' := by
  by_cases h : 8000 < t.size
  · have h1 : (8000 : Int) < (t.size : Int) := by omega
    have HB : Hid (b = true) := by show _ = _; rw [← hb]; simpa using h
    clear hb h
    go_enter Tryd.func34, Tryd.ntmps34
    go_wp2_with fail
    go_ret
    exact ⟨ret_bool HB.out.symm, rfl⟩
  · have h1 : decide ((8000 : Int) < (t.size : Int)) = false := by simp; omega
    have HB : Hid (b = false) := by show _ = _; rw [← hb]; simpa using h
    clear hb h
    go_enter Tryd.func34, Tryd.ntmps34
    go_wp2_with fail
    go_ret
    exact ⟨ret_bool HB.out.symm, rfl⟩
/-- strings.Split at a stroke. -/
theorem splitLib_any (s : ByteArray) (hs : s.size ≤ 8000) (w : World) (hm : ML w) :
    Calls Tryd.prog 43 #[.string s, .string ⟨#[47]⟩] w fun e w' => ∃ p n m, e = .returned (.slice p n m) ∧ IsStrs w' (.slice p n m) (pcsB s) ∧ Below w.heap.size w w' := by
  obtain ⟨m, hm⟩ := hm
  have hl : (pcsB s).length = Lib.countB s ⟨#[47]⟩ + 1 := by rw [← split_pcs]; exact Lib.splitB_all _ (by decide) 0 _ s rfl
  obtain ⟨g1, g2⟩ := pcsB_small s
  refine (Tryd.strings_Split s ⟨#[47]⟩ m w (by omega) hm (by decide)).mono ?_
  rintro e w' ⟨rfl, rfl⟩
  rw [split_pcs, ← hl]
  refine ⟨_, _, _, rfl, ⟨by omega, fun x hx => by have := g1 x hx; omega, _, _, rfl, Nat.le_refl _, by omega, .inr ⟨w.heap.size, 0, rfl, fun i hi => ?_⟩⟩, below_alloc _ _⟩
  have hnew := Go.Deep.blk_alloc_new w (.cells ((pcsB s).map Value.string).toArray 9)
  unfold World.cell?
  rw [hnew]
  simp [List.getElem?_eq_getElem hi]

set_option maxRecDepth 100000 in
set_option maxHeartbeats 2000000 in
theorem implPathRead_is (t : ByteArray) (r : List ByteArray) (hr : prR t = r) (w : World) (ht : t.size ≤ maxLen) (hm : ML w) :
    Calls Tryd.prog 14 #[.string t] w (OwnsPost r w) := by
  have nul : ∀ w1 : World, OwnStrs w1 w.heap.size (.slice none 0 0) [] := fun w1 => ⟨by simp, World.ownsRow_nil _ _ _ _⟩
  have NUL := Lib.hid nul
  have HM := Lib.hid hm
  clear nul hm
  by_cases h1 : 8000 < t.size
  · have HE : Hid (r = []) := by show _ = _; rw [← hr]; exact prR_long h1
    have H1 : Hid (decide (8000 < t.size) = true) := by show _ = _; simpa using h1
    have HT : Hid (t.size ≤ 9223372036854775807) := by show _ ≤ _; unfold maxLen at ht; omega
    clear hr h1 ht
    go_enter Tryd.func14, Tryd.ntmps14
    go_wp2_with fail
    refine (tl_any t true H1.out w HT.out).mono ?_
    rintro e w' ⟨rfl, rfl⟩
    go_wp2_with fail
    go_ret
    exact ⟨_, _, _, rfl, by rw [HE.out]; exact NUL.out _, Below.refl _ _⟩
  have h1' : t.size ≤ 8000 := by omega
  have H1 : Hid (decide (8000 < t.size) = false) := by show _ = _; simpa using h1'
  have HT : Hid (t.size ≤ 9223372036854775807) := by show _ ≤ _; omega
  by_cases hh : t.data.toList.head? = some 47
  · obtain ⟨q1, q2⟩ := pre_yes hh
    obtain ⟨x, hx⟩ : ∃ x, restB t = x := ⟨_, rfl⟩
    rw [hx] at q2
    have hxs : x.size ≤ 8000 := by rw [← hx]; unfold restB; rw [ByteArray.size_extract]; omega
    have CC := Lib.hid (cutP_any t true x q1 q2)
    have CS := Lib.hid (splitLib_any x hxs)
    obtain ⟨g1, g2⟩ := pcsB_small x
    cases hp : pathOk (pcsB x)
    · have HP := Lib.hid hp
      have HE : Hid (r = []) := by show _ = _; rw [← hr]; exact prR_bad (by rw [hx]; exact hp)
      clear hr h1 h1' hh q1 q2 hx hp ht g1 g2
      go_enter Tryd.func14, Tryd.ntmps14
      go_wp2_with fail
      refine (tl_any t false H1.out w HT.out).mono ?_
      rintro e w' ⟨rfl, rfl⟩
      go_wp2_with fail
      refine (CC.out w).mono ?_
      rintro e w' ⟨rfl, rfl⟩
      go_wp2_with fail
      refine (CS.out w' HM.out).mono ?_
      rintro e w1 ⟨p, n, m, rfl, hs, hb⟩
      have HS := Lib.hid hs
      have HB := Lib.hid hb
      clear hs hb
      go_wp2_with fail
      refine (implPath_is _ _ _ HP.out w1 HS.out).mono ?_
      rintro e w2 ⟨rfl, rfl⟩
      go_wp2_with fail
      go_ret
      exact ⟨_, _, _, rfl, by rw [HE.out]; exact NUL.out _, HB.out⟩
    · have HP := Lib.hid hp
      have HE : Hid (r = pcsB x) := by show _ = _; rw [← hr, ← hx]; exact prR_good h1' hh (by rw [hx]; exact hp)
      have G1 : Hid ((pcsB x).length ≤ 8001) := by show _ ≤ _; omega
      have G2 : Hid (∀ s ∈ pcsB x, s.size ≤ 1099511627776) := fun s hs => by have := g1 s hs; omega
      clear hr h1 h1' hh q1 q2 hx hp ht g1 g2
      go_enter Tryd.func14, Tryd.ntmps14
      go_wp2_with fail
      refine (tl_any t false H1.out w HT.out).mono ?_
      rintro e w' ⟨rfl, rfl⟩
      go_wp2_with fail
      refine (CC.out w).mono ?_
      rintro e w' ⟨rfl, rfl⟩
      go_wp2_with fail
      refine (CS.out w' HM.out).mono ?_
      rintro e w1 ⟨p, n, m, rfl, hs, hb⟩
      have HS := Lib.hid hs
      have HB := Lib.hid hb
      clear hs hb
      go_wp2_with fail
      refine (implPath_is _ _ _ HP.out w1 HS.out).mono ?_
      rintro e w2 ⟨rfl, rfl⟩
      go_wp2_with fail
      refine (copyWords_any _ (pcsB x) w1 HS.out G1.out G2.out).mono ?_
      rintro e w3 ⟨p', n', m', rfl, ho, hb⟩
      have HO : Hid (OwnStrs w3 w'.heap.size (.slice p' n' m') (pcsB x)) := ⟨ho.1, own_mono ho.2 HB.out.size⟩
      have HB3 := Lib.hid (HB.out.trans (hb.mono HB.out.size))
      clear ho hb
      go_wp2_with fail
      go_ret
      exact ⟨_, _, _, rfl, by rw [HE.out]; exact HO.out, HB3.out⟩
  · obtain ⟨q1, q2⟩ := pre_no hh
    have HE : Hid (r = []) := by show _ = _; rw [← hr]; exact prR_head hh
    have CC := Lib.hid (cutP_any t false t q1 q2)
    have CS := Lib.hid (splitLib_any t h1')
    clear hr h1 h1' hh q1 q2 ht
    go_enter Tryd.func14, Tryd.ntmps14
    go_wp2_with fail
    refine (tl_any t false H1.out w HT.out).mono ?_
    rintro e w' ⟨rfl, rfl⟩
    go_wp2_with fail
    refine (CC.out w).mono ?_
    rintro e w' ⟨rfl, rfl⟩
    go_wp2_with fail
    refine (CS.out w' HM.out).mono ?_
    rintro e w1 ⟨p, n, m, rfl, hs, hb⟩
    have HB := Lib.hid hb
    clear hs hb
    go_wp2_with fail
    go_ret
    exact ⟨_, _, _, rfl, by rw [HE.out]; exact NUL.out _, HB.out⟩
end Go.Proofs.YtmdlciomhkielaaDoor
