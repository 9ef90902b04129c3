/- A text cut at its strokes, told plainly; what PathRead answers. -/
import Derived.Test.YtmdlciomhkielaaDoorPathTP
import Derived.Lib.SplitLaws
import Derived.Lib.IndexBytes
namespace Go.Proofs.YtmdlciomhkielaaDoor
open Go.RowKit

theorem indexByte_miss : ∀ (l : List UInt8) (c : UInt8), c ∉ l → Lib.indexByte l c = -1
  | [], _, _ => rfl
  | b :: l, c, h => by
    have h1 : ¬ b = c := fun e => h (by simp [e])
    have h2 := indexByte_miss l c fun hm => h (by simp [hm])
    unfold Lib.indexByte
    simp [h1, h2]
theorem indexByte_hit : ∀ (a r : List UInt8) (c : UInt8), c ∉ a → Lib.indexByte (a ++ c :: r) c = a.length
  | [], r, c, _ => by
    unfold Lib.indexByte
    simp
  | b :: a, r, c, h => by
    have h1 : ¬ b = c := fun e => h (by simp [e])
    have h2 := indexByte_hit a r c fun hm => h (by simp [hm])
    rw [List.cons_append]
    unfold Lib.indexByte
    rw [h2]
    simp [h1]
/-- The pieces of a text between its strokes. -/
def pcs (s : List UInt8) : List (List UInt8) := Lib.splitK [47] 0 (Lib.count s [47]) s
theorem pcs_miss {s : List UInt8} (h : (47 : UInt8) ∉ s) : pcs s = [s] := by
  have hi : Lib.index s [47] = -1 := by rw [Lib.index_one]; exact indexByte_miss s 47 h
  unfold pcs
  rw [Lib.count_miss hi]
  rfl
theorem pcs_hit {a r : List UInt8} (h : (47 : UInt8) ∉ a) : pcs (a ++ 47 :: r) = a :: pcs r := by
  have hi : Lib.index (a ++ 47 :: r) [47] = (a.length : Nat) := by rw [Lib.index_one]; exact indexByte_hit a r 47 h
  have hd : (a ++ 47 :: r).drop (a.length + [(47 : UInt8)].length) = r := by simp
  unfold pcs
  rw [Lib.count_hit (by simp) hi, hd, Nat.add_comm]
  have hm : ¬ (Lib.index (a ++ 47 :: r) [47] == -1) = true := fun e => by have := beq_iff_eq.1 e; omega
  have e : (Lib.index (a ++ 47 :: r) [47]).toNat = a.length := by omega
  show (if (Lib.index (a ++ 47 :: r) [47] == -1) = true then [a ++ 47 :: r] else (a ++ 47 :: r).take ((Lib.index (a ++ 47 :: r) [47]).toNat + 0) :: Lib.splitK [47] 0 (Lib.count r [47]) ((a ++ 47 :: r).drop ((Lib.index (a ++ 47 :: r) [47]).toNat + [(47 : UInt8)].length))) = _
  rw [if_neg hm, e, hd]
  simp
/-- Every text has no stroke, or a first one. -/
theorem stroke_cases (s : List UInt8) : (47 : UInt8) ∉ s ∨ ∃ a r, s = a ++ 47 :: r ∧ (47 : UInt8) ∉ a := by
  induction s with
  | nil => exact .inl (by simp)
  | cons b s ih =>
    by_cases hb : b = 47
    · exact .inr ⟨[], s, by simp [hb], by simp⟩
    · rcases ih with h | ⟨a, r, rfl, h⟩
      · exact .inl (by simp only [List.mem_cons, not_or]; exact ⟨fun e => hb e.symm, h⟩)
      · exact .inr ⟨b :: a, r, rfl, by simp only [List.mem_cons, not_or]; exact ⟨fun e => hb e.symm, h⟩⟩
theorem pcs_join : ∀ (n : Nat) (s : List UInt8), s.length ≤ n → pcs s ≠ [] ∧ Lib.join (pcs s) [47] = s
  | n, s, hn => by
    rcases stroke_cases s with h | ⟨a, r, rfl, h⟩
    · rw [pcs_miss h]
      exact ⟨by simp, Lib.join_one _ _⟩
    · rw [pcs_hit h]
      cases n with
      | zero => simp at hn
      | succ n =>
        obtain ⟨h1, h2⟩ := pcs_join n r (by simp at hn; omega)
        refine ⟨by simp, ?_⟩
        cases hp : pcs r with
        | nil => exact absurd hp h1
        | cons x xs =>
          rw [hp] at h2
          rw [Lib.join_cons] at h2 ⊢
          unfold Lib.joinTail at h2 ⊢
          rw [List.map_cons, List.flatten_cons, ← h2]
          simp
/-- The same over strings. -/
def pcsB (s : ByteArray) : List ByteArray := (pcs s.data.toList).map fun l => ⟨l.toArray⟩
theorem pcsB_data (s : ByteArray) : (pcsB s).map (·.data.toList) = pcs s.data.toList := by
  unfold pcsB
  rw [List.map_map]
  exact List.map_id' _
theorem ba_inj {l m : List ByteArray} (h : l.map (·.data.toList) = m.map (·.data.toList)) : l = m := by
  have e : ∀ l : List ByteArray, (l.map (·.data.toList)).map (fun x => (⟨x.toArray⟩ : ByteArray)) = l := fun l => by
    rw [List.map_map]
    exact List.map_id' _
  rw [← e l, ← e m, h]
theorem split_pcs (s : ByteArray) : Lib.splitB ⟨#[47]⟩ 0 (Lib.countB s ⟨#[47]⟩) s = pcsB s := by
  apply ba_inj
  rw [Lib.splitB_data, pcsB_data]
  rfl
theorem joinS_pcs (s : ByteArray) : (⟨(joinS (pcsB s)).toArray⟩ : ByteArray) = s := by
  unfold joinS
  rw [pcsB_data, (pcs_join _ _ (Nat.le_refl _)).2]
theorem pcs_size : ∀ (n : Nat) (s : List UInt8), s.length ≤ n → (∀ x ∈ pcs s, x.length ≤ s.length) ∧ (pcs s).length ≤ s.length + 1
  | n, s, hn => by
    rcases stroke_cases s with h | ⟨a, r, rfl, h⟩
    · rw [pcs_miss h]
      exact ⟨by simp, by simp⟩
    · rw [pcs_hit h]
      cases n with
      | zero => simp at hn
      | succ n =>
        obtain ⟨h1, h2⟩ := pcs_size n r (by simp at hn; omega)
        refine ⟨fun x hx => ?_, by simp; omega⟩
        rcases List.mem_cons.1 hx with rfl | hx
        · simp
        · have := h1 x hx; simp; omega
theorem pcsB_small (s : ByteArray) : (∀ x ∈ pcsB s, x.size ≤ s.size) ∧ (pcsB s).length ≤ s.size + 1 := by
  obtain ⟨h1, h2⟩ := pcs_size _ s.data.toList (Nat.le_refl _)
  rw [len_list] at h1 h2
  refine ⟨fun x hx => ?_, by unfold pcsB; rw [List.length_map]; exact h2⟩
  obtain ⟨l, hl, rfl⟩ := List.mem_map.1 hx
  have := h1 l hl
  show (List.toArray _).size ≤ _
  rw [List.size_toArray]; exact this
/-- What stands behind the first sign. -/
def restB (t : ByteArray) : ByteArray := t.extract 1 t.size
/-- What PathRead answers. -/
def prR (t : ByteArray) : List ByteArray := if t.size ≤ 8000 ∧ t.data.toList.head? = some 47 ∧ pathOk (pcsB (restB t)) = true then pcsB (restB t) else []
theorem rest_data (t : ByteArray) : (restB t).data.toList = t.data.toList.drop 1 := by
  unfold restB
  rw [Lib.extract_to_end]
theorem prR_long {t : ByteArray} (h : 8000 < t.size) : prR t = [] := by unfold prR; rw [if_neg (by omega)]
theorem prR_head {t : ByteArray} (h : ¬ t.data.toList.head? = some 47) : prR t = [] := by unfold prR; rw [if_neg fun e => h e.2.1]
theorem prR_bad {t : ByteArray} (h : pathOk (pcsB (restB t)) = false) : prR t = [] := by unfold prR; rw [if_neg fun e => by rw [h] at e; cases e.2.2]
theorem prR_good {t : ByteArray} (h1 : t.size ≤ 8000) (h2 : t.data.toList.head? = some 47) (h3 : pathOk (pcsB (restB t)) = true) : prR t = pcsB (restB t) := by unfold prR; rw [if_pos ⟨h1, h2, h3⟩]
theorem head_join {t : ByteArray} (h : t.data.toList.head? = some 47) : (⟨#[47]⟩ : ByteArray) ++ restB t = t := by
  apply ByteArray.ext
  apply Array.ext'
  rw [show ((⟨#[47]⟩ : ByteArray) ++ restB t).data.toList = 47 :: (restB t).data.toList by simp, rest_data]
  cases hl : t.data.toList with
  | nil => rw [hl] at h; cases h
  | cons b l =>
    rw [hl] at h
    simp at h
    subst h; rfl
/-- The path's text is the text again just where it is one. -/
theorem pr_text (t : ByteArray) (h2 : 2 ≤ t.size) : pathT (pcsB (restB t)) = t ↔ (t.data.toList.head? = some 47 ∧ pathOk (pcsB (restB t)) = true) := by
  constructor
  · intro h
    have hp : pathOk (pcsB (restB t)) = true := by
      cases hp : pathOk (pcsB (restB t))
      · rw [pathT_no hp] at h
        have h0 : t.size = 0 := by rw [← h]; rfl
        omega
      · rfl
    refine ⟨?_, hp⟩
    rw [pathT_yes hp] at h
    rw [← h]
    simp
  · rintro ⟨h1, hp⟩
    rw [pathT_yes hp, joinS_pcs]
    exact head_join h1
theorem pr_short {t : ByteArray} (h : t.size < 2) : prR t = [] := by
  by_cases hh : t.data.toList.head? = some 47
  · refine prR_bad ?_
    have h1 : (restB t).data.toList = [] := by
      rw [rest_data]
      have : t.data.toList.length < 2 := by rw [len_list]; exact h
      exact List.drop_eq_nil_of_le (by omega)
    have h2 : pcsB (restB t) = [⟨#[]⟩] := by
      unfold pcsB
      rw [h1, pcs_miss (by simp)]
      rfl
    rw [h2]
    decide
  · exact prR_head hh
theorem ext_data (t : ByteArray) (k j : Nat) : (t.extract k j).data.toList = (t.data.toList.drop k).take (j - k) := by
  rw [ByteArray.data_extract, Array.toList_extract]
theorem drop_at {t : ByteArray} {j : Nat} (hj : j < t.size) : t.data.toList.drop j = t[j] :: t.data.toList.drop (j + 1) := by
  have hl : j < t.data.toList.length := by rw [len_list]; exact hj
  rw [List.drop_eq_getElem_cons hl]
  have : t.data.toList[j] = t[j] := by simp; rfl
  rw [this]
theorem pc_step {t : ByteArray} {k j : Nat} (hk : k ≤ j) (hj : j < t.size) (h : t[j] = 47) (hn : (47 : UInt8) ∉ (t.data.toList.drop k).take (j - k)) : pcs (t.data.toList.drop k) = (t.extract k j).data.toList :: pcs (t.data.toList.drop (j + 1)) := by
  have e : t.data.toList.drop k = (t.data.toList.drop k).take (j - k) ++ 47 :: t.data.toList.drop (j + 1) := by
    have h1 := List.take_append_drop (j - k) (t.data.toList.drop k)
    rw [List.drop_drop, show k + (j - k) = j by omega, drop_at hj, h] at h1
    exact h1.symm
  rw [ext_data]
  conv => lhs; rw [e]
  exact pcs_hit hn
theorem pc_grow {t : ByteArray} {k j : Nat} (hk : k ≤ j) (hj : j < t.size) (h : ¬ t[j] = 47) (hn : (47 : UInt8) ∉ (t.data.toList.drop k).take (j - k)) : (47 : UInt8) ∉ (t.data.toList.drop k).take (j + 1 - k) := by
  have hl : j - k < (t.data.toList.drop k).length := by rw [List.length_drop, len_list]; omega
  rw [show j + 1 - k = (j - k) + 1 by omega, List.take_succ_eq_append_getElem hl]
  have e : (t.data.toList.drop k)[j - k] = t[j] := by
    rw [List.getElem_drop]
    simp only [show k + (j - k) = j by omega]
    simp; rfl
  rw [e]
  simp only [List.mem_append, List.mem_singleton, not_or]
  exact ⟨hn, fun e => h e.symm⟩
theorem pc_last {t : ByteArray} {k : Nat} (hn : (47 : UInt8) ∉ (t.data.toList.drop k).take (t.size - k)) : pcs (t.data.toList.drop k) = [(t.extract k t.size).data.toList] := by
  have e : (t.data.toList.drop k).take (t.size - k) = t.data.toList.drop k := List.take_of_length_le (by rw [List.length_drop, len_list]; exact Nat.le_refl _)
  rw [ext_data, e]
  rw [e] at hn
  exact pcs_miss hn
theorem pc_init {t : ByteArray} {L : List ByteArray} {k : Nat} (h : L.map (·.data.toList) ++ pcs (t.data.toList.drop k) = pcs t.data.toList) {x : ByteArray} (hx : pcs (t.data.toList.drop k) = [x.data.toList]) : L ++ [x] = pcsB t := by
  apply ba_inj
  rw [pcsB_data, ← h, hx]
  simp
theorem pc_more {t : ByteArray} {L : List ByteArray} {k j : Nat} (h : L.map (·.data.toList) ++ pcs (t.data.toList.drop k) = pcs t.data.toList) {x : ByteArray} (hx : pcs (t.data.toList.drop k) = x.data.toList :: pcs (t.data.toList.drop j)) : (L ++ [x]).map (·.data.toList) ++ pcs (t.data.toList.drop j) = pcs t.data.toList := by
  rw [← h, hx]
  simp
end Go.Proofs.YtmdlciomhkielaaDoor
