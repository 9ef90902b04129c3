/- Plain: the text of a Val, and its length. -/
import Derived.Test.YtflpfphfoibggaaDoorFitP
import Derived.Test.YtflpfphfoibggaaDoorTxtP
import Derived.Test.YtflpfphfoibggaaDoorMarkTW
namespace Go.Proofs.YtflpfphfoibggaaDoor
open Go.RowKit

/-- A number in digits. -/
def decB (n : Nat) : List UInt8 := if n = 0 then [48] else digsB n
mutual
/-- The text of a Val that fits. -/
def Va.txt : Va → List UInt8
  | .mk k n t it =>
    if k = 1 then (if n = 0 then [110, 111] else [121, 101, 115])
    else if k = 2 then decB n.toNat
    else if k = 3 then 34 :: (t.data.toList ++ [34])
    else if k = 4 then t.data.toList
    else if k = 5 then (if it.length = 0 then [110, 111, 110, 101] else [115, 111, 109, 101, 40] ++ (joinC (Va.txts it) ++ [41]))
    else if k = 6 then 91 :: (joinC (Va.txts it) ++ [93])
    else 40 :: (joinC (Va.txts it) ++ [41])
def Va.txts : List Va → List (List UInt8)
  | [] => []
  | x :: l => Va.txt x :: Va.txts l
end
theorem txts_len : ∀ l : List Va, (Va.txts l).length = l.length
  | [] => by simp [Va.txts]
  | x :: l => by simp [Va.txts, txts_len l]
theorem txts_take : ∀ (l : List Va) (j : Nat) (h : j < l.length), (Va.txts l).take (j + 1) = (Va.txts l).take j ++ [l[j].txt]
  | [], _, h => by cases h
  | x :: l, 0, _ => by simp [Va.txts]
  | x :: l, j + 1, h => by
    have := txts_take l j (by simpa using h)
    simp only [Va.txts, List.take_succ_cons, List.getElem_cons_succ, List.cons_append]
    rw [this]

theorem digsB_len : ∀ (d n : Nat), n < 10 ^ d → (digsB n).length ≤ d
  | 0, n, h => by
    have : n = 0 := by simpa using h
    rw [this, digsB, if_pos rfl]; simp
  | d + 1, n, h => by
    rw [digsB]
    split
    · simp
    · have := digsB_len d (n / 10) (by rw [Nat.pow_succ] at h; omega)
      rw [List.length_append]; simp; omega
theorem decB_len {n : Nat} (h : n ≤ 1000000) : (decB n).length ≤ 7 := by
  unfold decB
  split
  · simp
  · exact digsB_len 7 n (by omega)

/-- It fits a right shape of so many levels. -/
def VtOk (d : Nat) (v : Va) : Prop := ∃ t, partOk d t = true ∧ fitB t v = true
theorem vt_zero {v : Va} (h : VtOk 0 v) : False := by
  obtain ⟨t, h, _⟩ := h
  simp [partOk] at h
theorem zip_ok {d : Nat} : ∀ (l : List Sh) (m : List Va), l.all (partOk d) = true → fitZip l m = true → ∀ x ∈ m, VtOk d x
  | [], [], _, _ => by intro x hx; cases hx
  | [], _ :: _, _, h => by simp [fitZip] at h
  | _ :: _, [], _, h => by simp [fitZip] at h
  | s :: l, v :: m, hp, h => by
    simp only [fitZip, Bool.and_eq_true] at h
    simp only [List.all_cons, Bool.and_eq_true] at hp
    intro x hx
    rcases List.mem_cons.1 hx with rfl | hx
    · exact ⟨s, hp.1, h.1⟩
    · exact zip_ok l m hp.2 h.2 x hx
theorem one_ok {d : Nat} {su : List Sh} {it : List Va} (hp : su.all (partOk d) = true) (h : it.all (fitOne su) = true) : ∀ x ∈ it, VtOk d x := by
  intro x hx
  have := List.all_eq_true.1 h x hx
  cases su with
  | nil => simp [fitOne] at this
  | cons s l =>
    simp only [List.all_cons, Bool.and_eq_true] at hp
    exact ⟨s, hp.1, by simpa [fitOne] using this⟩
/-- What fitting asks of a Val alone. -/
theorem vt_cases {d : Nat} {k n : Int} {t : ByteArray} {it : List Va} (h : VtOk (d + 1) (.mk k n t it)) :
    (∀ x ∈ it, VtOk d x) ∧ it.length ≤ 6 ∧ (k = 1 ∧ (n = 0 ∨ n = 1) ∧ it = [] ∨ (k = 2 ∧ 0 ≤ n ∧ n ≤ 1000000 ∧ it = []) ∨ (k = 3 ∧ t.size ≤ 20 ∧ it = []) ∨ (k = 4 ∧ t.size ≤ 8 ∧ it = []) ∨ (k = 5 ∧ it.length ≤ 1) ∨ k = 6 ∨ k = 7) := by
  obtain ⟨s, hp, hf⟩ := h
  cases s with | mk k' sy na su =>
  simp only [partOk, Bool.and_eq_true] at hp
  have hs := hp.1
  have ha := hp.2
  simp only [fitB, Va.kd, Va.nn, Va.tx, Va.it, Bool.and_eq_true] at hf
  obtain ⟨he, hf⟩ := hf
  obtain rfl := of_decide_eq_true he
  rcases sound_cases hs with ⟨hk, _, _, hn⟩ | ⟨rfl, _, _, hw, _, hn⟩ | ⟨hk, _, _, hn⟩ | ⟨rfl, _, h6, _, hn⟩
  · rcases hk with rfl | rfl | rfl
    · simp [numOk, Va.tx, Va.it] at hf
      obtain ⟨⟨_, rfl⟩, h1, h2⟩ := hf
      replace h1 := of_decide_eq_true h1
      replace h2 := of_decide_eq_true h2
      exact ⟨by simp, by simp, .inl ⟨rfl, by omega, rfl⟩⟩
    · simp [numOk, Va.tx, Va.it] at hf
      obtain ⟨⟨_, rfl⟩, h1, h2⟩ := hf
      replace h1 := of_decide_eq_true h1
      replace h2 := of_decide_eq_true h2
      exact ⟨by simp, by simp, .inr (.inl ⟨rfl, h1, h2, rfl⟩)⟩
    · simp [txtOk, plainOk, Va.nn, Va.it] at hf
      obtain ⟨⟨_, rfl⟩, h1, _⟩ := hf
      exact ⟨by simp, by simp, .inr (.inr (.inl ⟨rfl, h1, rfl⟩))⟩
  · simp [txtOk, Va.nn, Va.it] at hf
    obtain ⟨⟨_, rfl⟩, h1⟩ := hf
    exact ⟨by simp, by simp, .inr (.inr (.inr (.inl ⟨rfl, words_size hw _ (hasB_true.1 h1), rfl⟩)))⟩
  · rcases hk with rfl | rfl
    · simp [itsOk, Va.nn, Va.tx] at hf
      obtain ⟨_, h1, h2⟩ := hf
      replace h1 := of_decide_eq_true h1
      exact ⟨one_ok ha (List.all_eq_true.2 h2), by omega, .inr (.inr (.inr (.inr (.inl ⟨rfl, h1⟩))))⟩
    · simp [itsOk, Va.nn, Va.tx] at hf
      obtain ⟨_, h1, h2⟩ := hf
      replace h1 := of_decide_eq_true h1
      exact ⟨one_ok ha (List.all_eq_true.2 h2), by omega, .inr (.inr (.inr (.inr (.inr (.inl rfl)))))⟩
  · simp [itsOk, Va.nn, Va.tx] at hf
    obtain ⟨_, h1⟩ := hf
    have := fitZip_len _ _ h1
    exact ⟨zip_ok _ _ ha h1, by omega, .inr (.inr (.inr (.inr (.inr (.inr rfl)))))⟩

theorem txts_le (b : Nat) : ∀ (l : List Va), (∀ x ∈ l, x.txt.length ≤ b) → ∀ a ∈ Va.txts l, a.length ≤ b
  | [], _ => by intro a ha; simp [Va.txts] at ha
  | x :: l, h => by
    intro a ha
    simp only [Va.txts, List.mem_cons] at ha
    rcases ha with rfl | ha
    · exact h x (by simp)
    · exact txts_le b l (fun y hy => h y (by simp [hy])) a ha
theorem txts_joined {b : Nat} {l : List Va} (h6 : l.length ≤ 6) (h : ∀ x ∈ l, x.txt.length ≤ b) (j : Nat) : (joinC ((Va.txts l).take j)).length ≤ 6 * (b + 1) := by
  have := joinC_len b ((Va.txts l).take j) fun a ha => txts_le b l h a (List.mem_of_mem_take ha)
  refine Nat.le_trans this (Nat.mul_le_mul_right _ ?_)
  rw [List.length_take, txts_len]; omega
theorem vtxt_len (d : Nat) : ∀ v : Va, VtOk d v → v.txt.length ≤ capT d := by
  induction d with
  | zero => intro v h; exact (vt_zero h).elim
  | succ d ih =>
    intro v h
    cases v with | mk k n t it =>
    obtain ⟨ha, h6, hc⟩ := vt_cases h
    have hj := txts_joined h6 (fun x hx => ih x (ha x hx)) it.length
    rw [List.take_of_length_le (by rw [txts_len]; exact Nat.le_refl _)] at hj
    simp only [capT, Va.txt]
    rcases hc with ⟨rfl, hn, _⟩ | ⟨rfl, h0, h1, _⟩ | ⟨rfl, h1, _⟩ | ⟨rfl, h1, _⟩ | ⟨rfl, _⟩ | rfl | rfl
    · rw [if_pos rfl]; split <;> simp <;> omega
    · rw [if_neg (by decide), if_pos rfl]
      have := decB_len (n := n.toNat) (by omega)
      omega
    · simp; show t.size + 1 + 1 ≤ _; omega
    · simp; show t.size ≤ _; omega
    · rw [if_neg (by decide), if_neg (by decide), if_neg (by decide), if_neg (by decide), if_pos rfl]
      split
      · simp; omega
      · simp; omega
    · simp; omega
    · simp; omega
end Go.Proofs.YtflpfphfoibggaaDoor
