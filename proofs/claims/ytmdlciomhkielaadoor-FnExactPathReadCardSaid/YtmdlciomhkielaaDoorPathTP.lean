/- Plain: the text of a path. -/
import Derived.Test.YtmdlciomhkielaaDoorPathW
import Derived.Lib.Join
namespace Go.Proofs.YtmdlciomhkielaaDoor
open Go.RowKit

/-- Texts with a sign between. -/
def joinS (l : List ByteArray) : List UInt8 := Lib.join (l.map (·.data.toList)) [47]
/-- The text of a path. -/
def pathT (l : List ByteArray) : ByteArray := if pathOk l then ⟨#[47]⟩ ++ ⟨(joinS l).toArray⟩ else ⟨#[]⟩
theorem joinS_snoc (l : List ByteArray) (a : ByteArray) : joinS (l ++ [a]) = if l = [] then a.data.toList else joinS l ++ 47 :: a.data.toList := by
  unfold joinS
  cases l with
  | nil => simp [Lib.join_one]
  | cons x r =>
    rw [List.cons_append, List.map_cons, List.map_cons, Lib.join_cons, Lib.join_cons]
    simp [Lib.joinTail, List.append_assoc]
theorem joinS_str0 {L : List ByteArray} {k : Nat} (h : k < L.length) {s : ByteArray} (hs : s = ⟨(joinS (L.take k)).toArray⟩) (h0 : k = 0) : s ++ L[k] = ⟨(joinS (L.take (k + 1))).toArray⟩ := by
  subst h0
  rw [List.take_succ_eq_append_getElem h, joinS_snoc, hs]
  simp only [List.take_zero, if_true]
  rw [app_list]; rfl
theorem joinS_str1 {L : List ByteArray} {k : Nat} (h : k < L.length) {s : ByteArray} (hs : s = ⟨(joinS (L.take k)).toArray⟩) (h0 : ¬ k = 0) : (s ++ ⟨#[47]⟩) ++ L[k] = ⟨(joinS (L.take (k + 1))).toArray⟩ := by
  rw [List.take_succ_eq_append_getElem h, joinS_snoc, hs]
  have hne : ¬ L.take k = [] := by
    intro he
    rw [List.take_eq_nil_iff] at he
    rcases he with he | he
    · exact h0 he
    · subst he; cases h
  rw [if_neg hne, app_list, app_list]
  have e : ((⟨#[47]⟩ : ByteArray)).data.toList = [47] := rfl
  rw [e, List.append_assoc]; rfl
theorem step_size {s : ByteArray} (h : stepOk s = true) : s.size ≤ 8 := by
  unfold stepOk at h
  rw [Bool.or_eq_true] at h
  rcases h with h | h
  · have := of_decide_eq_true h; subst this; decide
  · unfold wordOk at h
    simp only [Bool.and_eq_true, decide_eq_true_eq] at h
    have := h.1.2; rw [len_list] at this; exact this
theorem joinS_len {l : List ByteArray} (h : ∀ s ∈ l, s.size ≤ 8) : (joinS l).length ≤ l.length * 9 := by
  unfold joinS
  cases l with
  | nil => simp [Lib.join_nil]
  | cons x r =>
    rw [List.map_cons, Lib.join_cons, List.length_append, Lib.joinTail_length]
    have h1 := h x (by simp)
    have h2 : Lib.lens (r.map (·.data.toList)) ≤ r.length * 8 := by
      have : ∀ r : List ByteArray, (∀ s ∈ r, s.size ≤ 8) → Lib.lens (r.map (·.data.toList)) ≤ r.length * 8 := by
        intro r
        induction r with
        | nil => intro _; simp [Lib.lens]
        | cons y r ih =>
          intro hy
          have g1 := hy y (by simp)
          have g2 := ih fun z hz => hy z (by simp [hz])
          simp only [Lib.lens, List.map_cons, List.sum_cons, List.length_cons, len_list] at g2 ⊢
          omega
      exact this r fun s hs => h s (by simp [hs])
    simp only [List.length_map, List.length_cons, List.length_nil, len_list]
    omega
theorem path_parts {l : List ByteArray} (h : pathOk l = true) : l.length ≤ 5 ∧ ∀ s ∈ l, stepOk s = true := by
  unfold pathOk at h
  simp only [Bool.and_eq_true, decide_eq_true_eq, List.all_eq_true] at h
  exact h
theorem path_join_len {l : List ByteArray} (h : pathOk l = true) (k : Nat) : (joinS (l.take k)).length ≤ 45 := by
  obtain ⟨h1, h2⟩ := path_parts h
  have := joinS_len (l := l.take k) fun s hs => step_size (h2 s (List.mem_of_mem_take hs))
  have h3 : (l.take k).length ≤ 5 := by rw [List.length_take]; omega
  omega
theorem pathT_no {l : List ByteArray} (h : pathOk l = false) : pathT l = ⟨#[]⟩ := by unfold pathT; rw [h]; rfl
theorem pathT_yes {l : List ByteArray} (h : pathOk l = true) : pathT l = ⟨#[47]⟩ ++ ⟨(joinS l).toArray⟩ := by unfold pathT; rw [h]; rfl
end Go.Proofs.YtmdlciomhkielaaDoor
