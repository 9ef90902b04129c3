/- Walks: impl.PathText. -/
import Derived.Test.YtmdlciomhkielaaDoorGJoinSW
import Derived.Test.YtmdlciomhkielaaDoorGLayJ
namespace Go.Proofs.YtmdlciomhkielaaDoor
open Go.RowKit

/-- strings.Join with a stroke. -/
theorem joinLib_any (v : Value) (l : List ByteArray) (w : World) (h : IsStrs w v l) (hp : pathOk l = true) :
    Calls Tryd.prog 65 #[v, .string ⟨#[47]⟩] w fun e w' => e = .returned (.string ⟨(joinS l).toArray⟩) ∧ Below w.heap.size w w' := by
  obtain ⟨h1, h2, a, cap, rfl, h3, h4, h6⟩ := h
  have hl := path_join_len hp l.length
  rw [List.take_length] at hl
  have h5 := (path_parts hp).1
  rcases h6 with rfl | ⟨b, off, rfl, hc⟩
  · refine (Tryd.strings_Join_none a cap ⟨#[47]⟩ w).mono ?_
    rintro e w' ⟨rfl, rfl⟩
    exact ⟨rfl, Below.refl _ _⟩
  · cases l with
    | nil =>
      refine (Tryd.strings_Join_none (some ⟨b, off, none⟩) cap ⟨#[47]⟩ w).mono ?_
      rintro e w' ⟨rfl, rfl⟩
      exact ⟨rfl, Below.refl _ _⟩
    | cons x l =>
      have hb : b < w.heap.size := World.block_lt_of_cell? w ⟨b, off + 0, none⟩ (hc 0 (by simp))
      refine Tryd.strings_Join b off cap (x :: l) ⟨#[47]⟩ w (fun j y hj => ?_) hb (by omega) h3 (by unfold joinS at hl; exact Nat.le_trans hl (by decide))
      obtain ⟨hj1, rfl⟩ := List.getElem?_eq_some_iff.1 hj
      exact hc j hj1

set_option maxHeartbeats 1000000 in
theorem implPathText_is (v : Value) (l : List ByteArray) (r : ByteArray) (hr : pathT l = r) (w : World) (h : IsStrs w v l) :
    Calls Tryd.prog 62 #[v] w fun e w' => e = .returned (.string r) ∧ Below w.heap.size w w' := by
  have HH := Lib.hid h
  clear h
  cases hp : pathOk l
  · have HP := Lib.hid hp
    have HR : Hid (r = ⟨#[]⟩) := by show _ = _; rw [← hr, pathT_no hp]
    clear hp hr
    go_enter Tryd.func62, Tryd.ntmps62
    go_wp2_with fail
    refine (implPath_is v l _ HP.out w HH.out).mono ?_
    rintro e w' ⟨rfl, rfl⟩
    go_wp2_with fail
    go_ret
    exact ⟨ret_str HR.out.symm, Below.refl _ _⟩
  · have HP := Lib.hid hp
    obtain ⟨j, hj⟩ : ∃ j : ByteArray, ⟨(joinS l).toArray⟩ = j := ⟨_, rfl⟩
    have HJ := Lib.hid hj
    have HR : Hid (r = ⟨#[47]⟩ ++ j) := by show _ = _; rw [← hr, pathT_yes hp, hj]
    have hl : j.size ≤ 45 := by
      have := path_join_len hp l.length
      rw [List.take_length] at this
      rw [← hj]; show (List.toArray _).size ≤ _
      rw [List.size_toArray]; exact this
    have hq : ¬ 9223372036854775807 < 1 + j.size := by omega
    clear hp hr hj
    go_enter Tryd.func62, Tryd.ntmps62
    go_wp2_with fail
    refine (implPath_is v l _ HP.out w HH.out).mono ?_
    rintro e w' ⟨rfl, rfl⟩
    go_wp2_with fail
    refine (joinLib_any v l w HH.out HP.out).mono ?_
    rintro e w' ⟨rfl, hb⟩
    have HB := Lib.hid hb
    clear hb
    rw [HJ.out]
    go_wp2_with fail
    go_ret
    exact ⟨ret_str HR.out.symm, HB.out⟩
end Go.Proofs.YtmdlciomhkielaaDoor
