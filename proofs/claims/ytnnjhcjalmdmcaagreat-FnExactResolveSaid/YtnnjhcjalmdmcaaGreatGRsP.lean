/- Plain: what is read by another shape, and what is not. -/
import Derived.Test.YtnnjhcjalmdmcaaGreatGFitP
import Derived.Test.YtnnjhcjalmdmcaaGreatGBlankP
namespace Go.Proofs.YtnnjhcjalmdmcaaGreat
open Go.RowKit

def zva : Va := .mk 0 0 ⟨#[]⟩ []
theorem kd_mk (k n : Int) (t : ByteArray) (it : List Va) : (Va.mk k n t it).kd = k := rfl
theorem nn_mk (k n : Int) (t : ByteArray) (it : List Va) : (Va.mk k n t it).nn = n := rfl
theorem tx_mk (k n : Int) (t : ByteArray) (it : List Va) : (Va.mk k n t it).tx = t := rfl
theorem it_mk (k n : Int) (t : ByteArray) (it : List Va) : (Va.mk k n t it).it = it := rfl
def zsh : Sh := .mk 0 [] [] []
/-- What is got of parts, one behind the other: the first code ends it. -/
def collR (k : Int) : List Va → List (Va × Int) → Va × Int
  | acc, [] => (.mk k 0 ⟨#[]⟩ acc, 0)
  | acc, r :: l => if r.2 = 0 then collR k (acc ++ [r.1]) l else r
/-- The one of a shape. -/
def oneOf (s : Sh) : Sh := s.su.headD zsh
/-- What is read of a record for one field. -/
def fieldR (g : Sh → Sh → Va → Va × Int) (w : Sh) (name : ByteArray) (s : Sh) (v : Va) : Va × Int :=
  if 0 ≤ posOf w.na name then g (w.su.getD (posOf w.na name).toNat zsh) s (v.it.getD (posOf w.na name).toNat zva) else (blankB s, 0)
/-- The record that can not be read for one field. -/
def fieldW (g : Sh → Sh → Option Va) (w : Sh) (name : ByteArray) (s : Sh) : Option Va :=
  if 0 ≤ posOf w.na name then (g (w.su.getD (posOf w.na name).toNat zsh) s).map fun x => .mk 7 0 ⟨#[]⟩ ((blanks w.su).set (posOf w.na name).toNat x) else none
def firstW : List (Option Va) → Option Va
  | [] => none
  | some x :: _ => some x
  | none :: l => firstW l
/-- What comes of an Item, if there is one. -/
def unwrapR (g : Va → Va × Int) (v : Va) : Va × Int := if v.it.length = 0 then (zva, 6) else g (v.it.headD zva)
def pickR (known : List ByteArray) (v : Va) : Va × Int := if hasB known v.tx = true then (.mk v.kd v.nn v.tx [], 0) else (zva, 8)
def pickW (written known : List ByteArray) : Option Va := (written.find? fun s => !hasB known s).map fun s => .mk 4 0 s []

/-- What Resolve tells, of what is right. -/
def rdB : Nat → Sh → Sh → Va → Va × Int
  | 0, _, _, _ => (zva, 0)
  | n + 1, w, r, v =>
    if r.kd = 5 ∧ w.kd ≠ 5 then collR 5 [] [rdB n w (oneOf r) v]
    else if w.kd = 5 ∧ r.kd ≠ 5 then unwrapR (rdB n (oneOf w) r) v
    else if w.kd ≠ r.kd then (zva, 10)
    else if w.kd = 4 then pickR r.sy v
    else if w.kd = 5 ∨ w.kd = 6 then collR w.kd [] (v.it.map (rdB n (oneOf w) (oneOf r)))
    else if w.kd = 7 then collR 7 [] ((r.na.zip r.su).map fun p => fieldR (rdB n) w p.1 p.2 v)
    else (.mk v.kd v.nn v.tx [], 0)
/-- What can not be read. -/
def wnB : Nat → Sh → Sh → Option Va
  | 0, _, _ => none
  | n + 1, w, r =>
    if r.kd = 5 ∧ w.kd ≠ 5 then wnB n w (oneOf r)
    else if w.kd = 5 ∧ r.kd ≠ 5 then some (.mk 5 0 ⟨#[]⟩ [])
    else if w.kd ≠ r.kd then some (blankB w)
    else if w.kd = 4 then pickW w.sy r.sy
    else if w.kd = 5 ∨ w.kd = 6 then (wnB n (oneOf w) (oneOf r)).map fun x => .mk w.kd 0 ⟨#[]⟩ [x]
    else if w.kd = 7 then firstW ((r.na.zip r.su).map fun p => fieldW (wnB n) w p.1 p.2)
    else none

/-- The kinds of two right shapes. -/
theorem rd_wrap {n : Nat} {w r : Sh} (h1 : r.kd = 5) (h2 : w.kd ≠ 5) (v : Va) : rdB (n + 1) w r v = collR 5 [] [rdB n w (oneOf r) v] := by
  conv => lhs; unfold rdB
  rw [if_pos ⟨h1, h2⟩]
theorem wn_wrap {n : Nat} {w r : Sh} (h1 : r.kd = 5) (h2 : w.kd ≠ 5) : wnB (n + 1) w r = wnB n w (oneOf r) := by
  conv => lhs; unfold wnB
  rw [if_pos ⟨h1, h2⟩]
theorem rd_unwrap {n : Nat} {w r : Sh} (h1 : w.kd = 5) (h2 : r.kd ≠ 5) (v : Va) : rdB (n + 1) w r v = unwrapR (rdB n (oneOf w) r) v := by
  conv => lhs; unfold rdB
  rw [if_neg (fun h => h2 h.1), if_pos ⟨h1, h2⟩]
theorem wn_unwrap {n : Nat} {w r : Sh} (h1 : w.kd = 5) (h2 : r.kd ≠ 5) : wnB (n + 1) w r = some (.mk 5 0 ⟨#[]⟩ []) := by
  conv => lhs; unfold wnB
  rw [if_neg (fun h => h2 h.1), if_pos ⟨h1, h2⟩]
theorem rd_other {n : Nat} {w r : Sh} (h1 : w.kd ≠ 5) (h2 : r.kd ≠ 5) (h3 : w.kd ≠ r.kd) (v : Va) : rdB (n + 1) w r v = (zva, 10) := by
  conv => lhs; unfold rdB
  rw [if_neg (fun h => h2 h.1), if_neg (fun h => h1 h.1), if_pos h3]
theorem wn_other {n : Nat} {w r : Sh} (h1 : w.kd ≠ 5) (h2 : r.kd ≠ 5) (h3 : w.kd ≠ r.kd) : wnB (n + 1) w r = some (blankB w) := by
  conv => lhs; unfold wnB
  rw [if_neg (fun h => h2 h.1), if_neg (fun h => h1 h.1), if_pos h3]
theorem rd_pick {n : Nat} {w r : Sh} (h1 : w.kd = 4) (h2 : r.kd = 4) (v : Va) : rdB (n + 1) w r v = pickR r.sy v := by
  conv => lhs; unfold rdB
  rw [if_neg (fun h => by omega), if_neg (fun h => by omega), if_neg (fun h => h (h1.trans h2.symm)), if_pos h1]
theorem wn_pick {n : Nat} {w r : Sh} (h1 : w.kd = 4) (h2 : r.kd = 4) : wnB (n + 1) w r = pickW w.sy r.sy := by
  conv => lhs; unfold wnB
  rw [if_neg (fun h => by omega), if_neg (fun h => by omega), if_neg (fun h => h (h1.trans h2.symm)), if_pos h1]
theorem rd_items {n : Nat} {w r : Sh} {k : Int} (hk : k = 5 ∨ k = 6) (h1 : w.kd = k) (h2 : r.kd = k) (v : Va) : rdB (n + 1) w r v = collR k [] (v.it.map (rdB n (oneOf w) (oneOf r))) := by
  conv => lhs; unfold rdB
  rw [if_neg (fun h => by omega), if_neg (fun h => by omega), if_neg (fun h => h (h1.trans h2.symm)), if_neg (by omega), if_pos (by omega), h1]
theorem wn_items {n : Nat} {w r : Sh} {k : Int} (hk : k = 5 ∨ k = 6) (h1 : w.kd = k) (h2 : r.kd = k) : wnB (n + 1) w r = (wnB n (oneOf w) (oneOf r)).map fun x => .mk k 0 ⟨#[]⟩ [x] := by
  conv => lhs; unfold wnB
  rw [if_neg (fun h => by omega), if_neg (fun h => by omega), if_neg (fun h => h (h1.trans h2.symm)), if_neg (by omega), if_pos (by omega), h1]
theorem rd_rec {n : Nat} {w r : Sh} (h1 : w.kd = 7) (h2 : r.kd = 7) (v : Va) : rdB (n + 1) w r v = collR 7 [] ((r.na.zip r.su).map fun p => fieldR (rdB n) w p.1 p.2 v) := by
  conv => lhs; unfold rdB
  rw [if_neg (fun h => by omega), if_neg (fun h => by omega), if_neg (fun h => h (h1.trans h2.symm)), if_neg (by omega), if_neg (by omega), if_pos h1]
theorem wn_rec {n : Nat} {w r : Sh} (h1 : w.kd = 7) (h2 : r.kd = 7) : wnB (n + 1) w r = firstW ((r.na.zip r.su).map fun p => fieldW (wnB n) w p.1 p.2) := by
  conv => lhs; unfold wnB
  rw [if_neg (fun h => by omega), if_neg (fun h => by omega), if_neg (fun h => h (h1.trans h2.symm)), if_neg (by omega), if_neg (by omega), if_pos h1]
theorem rd_plain {n : Nat} {w r : Sh} (h1 : w.kd = r.kd) (h2 : w.kd = 1 ∨ w.kd = 2 ∨ w.kd = 3) (v : Va) : rdB (n + 1) w r v = (.mk v.kd v.nn v.tx [], 0) := by
  conv => lhs; unfold rdB
  rw [if_neg (fun h => by omega), if_neg (fun h => by omega), if_neg (fun h => h h1), if_neg (by omega), if_neg (by omega), if_neg (by omega)]
theorem wn_plain {n : Nat} {w r : Sh} (h1 : w.kd = r.kd) (h2 : w.kd = 1 ∨ w.kd = 2 ∨ w.kd = 3) : wnB (n + 1) w r = none := by
  conv => lhs; unfold wnB
  rw [if_neg (fun h => by omega), if_neg (fun h => by omega), if_neg (fun h => h h1), if_neg (by omega), if_neg (by omega), if_neg (by omega)]

/-- Parts, one more: it is well, and goes on; or it is the end. -/
theorem coll_ok {k : Int} {acc : List Va} {l : List (Va × Int)} {j : Nat} (h : j < l.length) (hc : l[j].2 = 0) : collR k acc (l.drop j) = collR k (acc ++ [l[j].1]) (l.drop (j + 1)) := by
  rw [List.drop_eq_getElem_cons h]
  conv => lhs; unfold collR
  rw [if_pos hc]
theorem coll_bad {k : Int} {acc : List Va} {l : List (Va × Int)} {j : Nat} (h : j < l.length) (hc : l[j].2 ≠ 0) : collR k acc (l.drop j) = l[j] := by
  rw [List.drop_eq_getElem_cons h]
  unfold collR
  rw [if_neg hc]
theorem coll_end {k : Int} {acc : List Va} {l : List (Va × Int)} {j : Nat} (h : l.length ≤ j) : collR k acc (l.drop j) = (.mk k 0 ⟨#[]⟩ acc, 0) := by
  rw [List.drop_eq_nil_of_le h]; rfl
/-- Beside a code nothing is told. -/
def ZBad (r : Va × Int) : Prop := r.2 ≠ 0 → r.1 = zva
theorem coll_zbad {k : Int} : ∀ {l : List (Va × Int)} {acc : List Va}, (∀ r ∈ l, ZBad r) → ZBad (collR k acc l)
  | [], acc, _ => fun h => absurd rfl h
  | r :: l, acc, h => by
    unfold collR
    by_cases hc : r.2 = 0
    · rw [if_pos hc]; exact coll_zbad fun x hx => h x (by simp [hx])
    · rw [if_neg hc]; exact h r (by simp)
theorem first_none {l : List (Option Va)} {j : Nat} (h : j < l.length) (hc : l[j] = none) : firstW (l.drop j) = firstW (l.drop (j + 1)) := by
  rw [List.drop_eq_getElem_cons h, hc]; rfl
theorem first_some {l : List (Option Va)} {j : Nat} {x : Va} (h : j < l.length) (hc : l[j] = some x) : firstW (l.drop j) = some x := by
  rw [List.drop_eq_getElem_cons h, hc]; rfl
theorem first_end {l : List (Option Va)} {j : Nat} (h : l.length ≤ j) : firstW (l.drop j) = none := by
  rw [List.drop_eq_nil_of_le h]; rfl
theorem posOf_lt : ∀ (l : List ByteArray) (t : ByteArray), posOf l t < l.length
  | [], _ => by simp [posOf]
  | s :: l, t => by
    have := posOf_lt l t
    unfold posOf
    simp only [List.length_cons]
    split
    · omega
    · split <;> omega
theorem getD_eq {α : Type} {l : List α} {d : α} {k : Nat} (h : k < l.length) : l.getD k d = l[k] := by simp [List.getD, h]
end Go.Proofs.YtnnjhcjalmdmcaaGreat
