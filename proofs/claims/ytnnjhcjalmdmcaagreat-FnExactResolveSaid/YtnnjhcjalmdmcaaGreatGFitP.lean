/- Plain: what fits a shape. -/
import Derived.Test.YtnnjhcjalmdmcaaGreatGShVa
import Derived.Test.YtnnjhcjalmdmcaaGreatGPosW
namespace Go.Proofs.YtnnjhcjalmdmcaaGreat
open Go.RowKit

def numOk (v : Va) : Bool := decide (v.tx.size = 0) && decide (v.it.length = 0)
def txtOk (v : Va) : Bool := decide (v.nn = 0) && decide (v.it.length = 0)
def itsOk (v : Va) : Bool := decide (v.nn = 0) && decide (v.tx.size = 0)
/-- A byte that may stand in a text. -/
def plainB (c : UInt8) : Bool := decide (32 ≤ (c.toNat : Int)) && (decide ((c.toNat : Int) ≤ 126) && !((c.toNat : Int) == 34))
def plainOk (l : List UInt8) : Bool := decide (l.length ≤ 20) && l.all plainB
mutual
/-- Does v fit the shape? -/
def fitB : Sh → Va → Bool
  | .mk k sy _ su, v => decide (v.kd = k) && (
     if k = 1 then numOk v && (decide (0 ≤ v.nn) && decide (v.nn ≤ 1))
     else if k = 2 then numOk v && (decide (0 ≤ v.nn) && decide (v.nn ≤ 1000000))
     else if k = 3 then txtOk v && plainOk v.tx.data.toList
     else if k = 4 then txtOk v && hasB sy v.tx
     else if k = 5 then itsOk v && (decide (v.it.length ≤ 1) && v.it.all (fitOne su))
     else if k = 6 then itsOk v && (decide (v.it.length ≤ 6) && v.it.all (fitOne su))
     else itsOk v && fitZip su v.it)
def fitOne : List Sh → Va → Bool
  | [], _ => false
  | x :: _, v => fitB x v
def fitZip : List Sh → List Va → Bool
  | [], [] => true
  | x :: l, v :: m => fitB x v && fitZip l m
  | _, _ => false
end
theorem fitZip_len : ∀ (l : List Sh) (m : List Va), fitZip l m = true → l.length = m.length
  | [], [], _ => rfl
  | [], _ :: _, h => by simp [fitZip] at h
  | _ :: _, [], h => by simp [fitZip] at h
  | x :: l, v :: m, h => by
    simp only [fitZip, Bool.and_eq_true] at h
    simp [fitZip_len l m h.2]
theorem fitZip_all : ∀ (l : List Sh) (m : List Va), l.length = m.length → fitZip l m = (l.zip m).all fun p => fitB p.1 p.2
  | [], [], _ => by simp [fitZip]
  | [], _ :: _, h => by simp at h
  | _ :: _, [], h => by simp at h
  | x :: l, v :: m, h => by
    simp only [fitZip, List.zip_cons_cons, List.all_cons]
    rw [fitZip_all l m (by simpa using h)]
theorem fitZip_ne {l : List Sh} {m : List Va} (h : ¬ l.length = m.length) : fitZip l m = false := by
  cases hf : fitZip l m with
  | false => rfl
  | true => exact absurd (fitZip_len l m hf) h
theorem empty_size {t : ByteArray} : t.size = 0 ↔ t = ⟨#[]⟩ := by
  constructor
  · intro h
    apply ByteArray.ext
    apply Array.ext'
    have : t.data.toList.length = 0 := by simpa using h
    simpa using List.eq_nil_of_length_eq_zero this
  · intro h; rw [h]; rfl
end Go.Proofs.YtnnjhcjalmdmcaaGreat
