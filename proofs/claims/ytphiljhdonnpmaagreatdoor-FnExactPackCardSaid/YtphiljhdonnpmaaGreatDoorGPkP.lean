/- Plain: the bytes of what fits a shape. -/
import Derived.Test.YtphiljhdonnpmaaGreatDoorGFitP
import Derived.Test.YtphiljhdonnpmaaGreatDoorGTxtP
import Derived.Test.YtphiljhdonnpmaaGreatDoorGTextA
namespace Go.Proofs.YtphiljhdonnpmaaGreatDoor
open Go.RowKit

mutual
/-- What v is packed to. -/
def packB : Sh → Va → List UInt8
  | .mk k sy _ su, v =>
     if k = 1 ∨ k = 2 then putNum v.nn
     else if k = 3 then putText v.tx
     else if k = 4 then putNum (posOf sy v.tx)
     else if k = 5 ∨ k = 6 then putNum v.it.length ++ (v.it.map (packOne su)).flatten
     else packZip su v.it
def packOne : List Sh → Va → List UInt8
  | [], _ => []
  | x :: _, v => packB x v
def packZip : List Sh → List Va → List UInt8
  | x :: l, v :: m => packB x v ++ packZip l m
  | _, _ => []
end
theorem packZip_take : ∀ (l : List Sh) (m : List Va) (k : Nat) (h : k < l.length) (h' : k < m.length), packZip (l.take (k + 1)) (m.take (k + 1)) = packZip (l.take k) (m.take k) ++ packB l[k] m[k]
  | [], _, _, h, _ => by cases h
  | _ :: _, [], _, _, h => by cases h
  | x :: l, v :: m, 0, _, _ => by simp [packZip]
  | x :: l, v :: m, k + 1, h, h' => by
    have ih := packZip_take l m k (by simpa using h) (by simpa using h')
    simp only [List.take_succ_cons, packZip, List.getElem_cons_succ] at ih ⊢
    rw [ih, List.append_assoc]
theorem flat_take {α : Type} (f : α → List UInt8) (l : List α) (k : Nat) (h : k < l.length) : ((l.take (k + 1)).map f).flatten = ((l.take k).map f).flatten ++ f l[k] := by
  rw [List.take_succ_eq_append_getElem h, List.map_append, List.flatten_append]
  simp only [List.map_cons, List.map_nil, List.flatten_cons, List.flatten_nil, List.append_nil]
theorem i64_small {n : Int} (h0 : -1 ≤ n) (h : n ≤ 1099511627776) : InI64 n := by unfold InI64; omega
theorem posOf_hi (t : ByteArray) : ∀ l : List ByteArray, posOf l t ≤ l.length
  | [] => by simp [posOf]
  | s :: l => by
    have := posOf_hi t l
    unfold posOf
    split
    · simp; omega
    · split
      · simp; omega
      · simp; omega
theorem i64_of' {n : Int} (h : InI64' n) : InI64 n := by unfold InI64' at h; unfold InI64; omega
theorem fitZip_at : ∀ (l : List Sh) (m : List Va) (j : Nat) (h : j < l.length) (h' : j < m.length), fitZip l m = true → fitB l[j] m[j] = true
  | [], _, _, h, _, _ => by cases h
  | _ :: _, [], _, _, h, _ => by cases h
  | x :: l, v :: m, 0, _, _, hz => by
    simp only [fitZip, Bool.and_eq_true] at hz
    exact hz.1
  | x :: l, v :: m, j + 1, h, h', hz => by
    simp only [fitZip, Bool.and_eq_true] at hz
    simpa using fitZip_at l m j (by simpa using h) (by simpa using h') hz.2
/-- How long the bytes of what fits may be. -/
def capP : Nat → Nat
  | 0 => 0
  | d + 1 => 100 + 6 * capP d
theorem capP_le {d : Nat} (h : d ≤ 5) : capP d ≤ 200000 := by
  match d, h with
  | 0, _ | 1, _ | 2, _ | 3, _ | 4, _ | 5, _ => decide
theorem flat_cap (f : Va → List UInt8) (b : Nat) : ∀ l : List Va, (∀ x ∈ l, (f x).length ≤ b) → (l.map f).flatten.length ≤ l.length * b
  | [], _ => by simp
  | x :: l, h => by
    have h1 := h x (by simp)
    have h2 := flat_cap f b l fun y hy => h y (by simp [hy])
    simp only [List.map_cons, List.flatten_cons, List.length_append, List.length_cons, Nat.add_mul, Nat.one_mul]
    omega
theorem zip_cap (b : Nat) : ∀ (l : List Sh) (m : List Va), (∀ x ∈ l, ∀ v ∈ m, fitB x v = true → (packB x v).length ≤ b) → fitZip l m = true → (packZip l m).length ≤ l.length * b
  | [], [], _, _ => by simp [packZip]
  | [], _ :: _, _, h => by simp [fitZip] at h
  | _ :: _, [], _, h => by simp [fitZip] at h
  | x :: l, v :: m, hb, h => by
    simp only [fitZip, Bool.and_eq_true] at h
    have h1 := hb x (by simp) v (by simp) h.1
    have h2 := zip_cap b l m (fun y hy w hw => hb y (by simp [hy]) w (by simp [hw])) h.2
    simp only [packZip, List.length_append, List.length_cons, Nat.add_mul, Nat.one_mul]
    omega
theorem packOne_cons (x : Sh) (l : List Sh) : packOne (x :: l) = packB x := by funext v; simp [packOne]
theorem fitOne_cons (x : Sh) (l : List Sh) : fitOne (x :: l) = fitB x := by funext v; simp [fitOne]
/-- What a kind asks of what fits, and what it is packed to. -/
theorem pack_cases {d : Nat} {k : Int} {sy na : List ByteArray} {su : List Sh} {x : Va} (hp : partOk (d + 1) (.mk k sy na su) = true) (hf : fitB (.mk k sy na su) x = true) :
    (k = 1 ∨ k = 2) ∧ sy = [] ∧ na = [] ∧ su = [] ∧ 0 ≤ x.nn ∧ x.nn ≤ 1000000 ∧ packB (.mk k sy na su) x = putNum x.nn ∨
    k = 3 ∧ sy = [] ∧ na = [] ∧ su = [] ∧ x.tx.size ≤ 20 ∧ packB (.mk k sy na su) x = putText x.tx ∨
    k = 4 ∧ na = [] ∧ su = [] ∧ 0 < sy.length ∧ sy.length ≤ 6 ∧ packB (.mk k sy na su) x = putNum (posOf sy x.tx) ∨
    (k = 5 ∨ k = 6) ∧ sy = [] ∧ na = [] ∧ (∃ y, su = [y] ∧ partOk d y = true ∧ x.it.length ≤ 6 ∧ x.it.all (fitB y) = true ∧ packB (.mk k sy na su) x = putNum x.it.length ++ (x.it.map (packB y)).flatten) ∨
    k = 7 ∧ sy = [] ∧ na.length = su.length ∧ su.length ≤ 6 ∧ su.all (partOk d) = true ∧ fitZip su x.it = true ∧ packB (.mk k sy na su) x = packZip su x.it := by
  simp only [partOk, Bool.and_eq_true] at hp
  simp only [fitB, Bool.and_eq_true] at hf
  obtain ⟨_, hf⟩ := hf
  rcases sound_cases hp.1 with ⟨hk, rfl, rfl, hn⟩ | ⟨rfl, h0, h6, hw, rfl, hn⟩ | ⟨hk, rfl, rfl, hn⟩ | ⟨rfl, rfl, h6, hw, hn⟩
  · obtain rfl := List.eq_nil_of_length_eq_zero hn
    rcases hk with rfl | rfl | rfl
    · simp at hf
      exact .inl ⟨.inl rfl, rfl, rfl, rfl, by omega, by omega, by simp [packB]⟩
    · simp at hf
      exact .inl ⟨.inr rfl, rfl, rfl, rfl, by omega, by omega, by simp [packB]⟩
    · rw [if_neg (by decide), if_neg (by decide), if_pos rfl] at hf
      simp only [Bool.and_eq_true] at hf
      have h2 := hf.2
      unfold plainOk at h2
      simp only [Bool.and_eq_true, decide_eq_true_iff] at h2
      have h3 := h2.1
      rw [Array.length_toList] at h3
      exact .inr (.inl ⟨rfl, rfl, rfl, rfl, h3, by simp [packB]⟩)
  · obtain rfl := List.eq_nil_of_length_eq_zero hn
    exact .inr (.inr (.inl ⟨rfl, rfl, rfl, h0, h6, by simp [packB]⟩))
  · obtain ⟨y, rfl⟩ := List.length_eq_one_iff.1 hn
    have hy : partOk d y = true := by simpa using hp.2
    have h1 : ¬ (k = 1 ∨ k = 2) := by omega
    have h3 : ¬ k = 3 := by omega
    have h4 : ¬ k = 4 := by omega
    refine .inr (.inr (.inr (.inl ⟨hk, rfl, rfl, y, rfl, hy, ?_, ?_, by simp only [packB]; rw [if_neg h1, if_neg h3, if_neg h4, if_pos hk, packOne_cons]⟩)))
    · rcases hk with rfl | rfl
      · simp at hf; omega
      · simp at hf; omega
    · rcases hk with rfl | rfl
      · rw [if_neg (by decide), if_neg (by decide), if_neg (by decide), if_neg (by decide), if_pos rfl, fitOne_cons] at hf
        simp only [Bool.and_eq_true] at hf
        exact hf.2.2
      · rw [if_neg (by decide), if_neg (by decide), if_neg (by decide), if_neg (by decide), if_neg (by decide), if_pos rfl, fitOne_cons] at hf
        simp only [Bool.and_eq_true] at hf
        exact hf.2.2
  · rw [if_neg (by decide), if_neg (by decide), if_neg (by decide), if_neg (by decide), if_neg (by decide), if_neg (by decide)] at hf
    simp only [Bool.and_eq_true] at hf
    exact .inr (.inr (.inr (.inr ⟨rfl, rfl, hn.symm, by omega, hp.2, hf.2, by simp [packB]⟩)))
theorem putText_len {t : ByteArray} (h : t.size ≤ 20) : (putText t).length ≤ 30 := by
  unfold putText
  rw [if_neg (by omega), List.length_append]
  have := (putNum_len (i64_small (n := (t.size : Int)) (by omega) (by omega))).2
  have e : t.data.toList.length = t.size := by simp
  rw [e]
  omega
theorem pack_len : ∀ (d : Nat) (s : Sh) (x : Va), partOk d s = true → fitB s x = true → (packB s x).length ≤ capP d
  | 0, s, _, h, _ => by simp [partOk] at h
  | d + 1, .mk k sy na su, x, h, hf => by
    simp only [capP]
    rcases pack_cases h hf with ⟨_, _, _, _, h0, h1, e⟩ | ⟨_, _, _, _, h1, e⟩ | ⟨_, _, _, _, h1, e⟩ | ⟨_, _, _, y, _, hy, h6, hall, e⟩ | ⟨_, _, _, h6, hp, hz, e⟩
    · rw [e]
      have := (putNum_len (i64_small (n := x.nn) (by omega) (by omega))).2
      omega
    · rw [e]
      have := putText_len h1
      omega
    · rw [e]
      have h2 := posOf_lo sy x.tx
      have h3 := posOf_hi x.tx sy
      have := (putNum_len (i64_small (n := posOf sy x.tx) (by omega) (by omega))).2
      omega
    · rw [e, List.length_append]
      have h2 := (putNum_len (i64_small (n := (x.it.length : Int)) (by omega) (by omega))).2
      have h3 := flat_cap (packB y) (capP d) x.it fun v hv => pack_len d y v hy (List.all_eq_true.1 hall v hv)
      have h4 := Nat.mul_le_mul_right (capP d) h6
      omega
    · rw [e]
      have h3 := zip_cap (capP d) su x.it (fun y hy v _ hf => pack_len d y v (List.all_eq_true.1 hp y hy) hf) hz
      have h4 := Nat.mul_le_mul_right (capP d) h6
      omega
end Go.Proofs.YtphiljhdonnpmaaGreatDoor
