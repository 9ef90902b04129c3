/- What the laws use that put marks into the answers. -/
import Derived.Test.YtflpfphfoibggaaHeldVW
import Derived.Test.YtflpfphfoibggaaMarkSW
import Derived.Test.YtflpfphfoibggaaTwoP
namespace Go.Proofs.Ytflpfphfoibggaa
open Go.RowKit

theorem blk_only {w w' : World} {F : List Nat} {b : Nat} {o : Obj} (h : w.heap[b]? = some o) (hy : Only F w w') (hn : b ∉ F) : w'.heap[b]? = some o := by
  rw [hy.block b (Array.getElem?_eq_some_iff.1 h).1 hn]; exact h

theorem smc_le : ∀ t : Sh, t.mc ≤ 1 + t.sz := by
  refine Sh.ind fun k sy na su ih => ?_
  have key : ∀ l : List Sh, (∀ x ∈ l, x.mc ≤ 1 + x.sz) → Sh.mcs l ≤ l.length + Sh.szs l := by
    intro l
    induction l with
    | nil => intro _; simp [Sh.mcs]
    | cons x l ihl =>
      intro h
      have h1 := h x (by simp)
      have h2 := ihl fun y hy => h y (by simp [hy])
      simp only [Sh.mcs, Sh.szs, List.length_cons]
      omega
  have := key su ih
  simp only [Sh.mc, Sh.sz, strsSz]
  omega

/-- markShape from 1 on, whatever it has. -/
theorem markSh_one (t : Sh) (w : World) (base : Nat) (v : Value) (F : List Nat) (h : OwnSh w base t v F) (hF : F.Nodup) (hq : t.sz ≤ 1048576) :
    Calls Try.prog 25 #[v, .int .i64 1] w fun e w' => ∃ K : Nat, e = .returned (.int .i64 (K : Int)) ∧ Only F w w' := by
  have hm := smc_le t
  cases t with | mk k sy na su =>
  refine (markShape_any w base k sy na su v F 1 h hF (by simp only [Sh.mc] at hm; omega)).mono ?_
  rintro e w' ⟨rfl, _, hy⟩
  exact ⟨_, rfl, hy⟩

/-- A Val as markVal from 1 on leaves it. -/
def HeldVa (w : World) (x : Va) (v : Value) : Prop := IsVa w (.mk x.kd x.nn x.tx (Va.markeds x.it 1)) v
theorem HeldVa.below {w w' : World} {x : Va} {v : Value} (h : HeldVa w x v) (hb : Below w.heap.size w w') : HeldVa w' x v := IsVa.keep (Keeps.of_below hb) _ _ h
theorem HeldVa.drew {w : World} {x : Va} {v : Value} (h : HeldVa w x v) : HeldVa w.drew x v := IsVa.keep keeps_drew _ _ h
theorem markVa_one (x : Va) (w : World) (base : Nat) (p : Option Addr) (n m : Nat) (F : List Nat) (h : OwnVa w base x (.agg #[.int .i64 x.kd, .int .i64 x.nn, .string x.tx, .slice p n m]) F) (hF : F.Nodup) (hq : 1 + Va.mcs x.it ≤ 1099511627776) :
    Calls Try.prog 26 #[.agg #[.int .i64 x.kd, .int .i64 x.nn, .string x.tx, .slice p n m], .int .i64 1] w fun e w' => e = .returned (.int .i64 ((1 + Va.mcs x.it : Nat) : Int)) ∧ HeldVa w' x (.agg #[.int .i64 x.kd, .int .i64 x.nn, .string x.tx, .slice p n m]) ∧ Only F w w' := by
  cases x with | mk k nn t it =>
  refine (markVal_any w base k nn t it (.slice p n m) F 1 h hF hq).mono ?_
  rintro e w' ⟨rfl, ho, hy⟩
  exact ⟨rfl, OwnVa.is _ _ _ ho, hy⟩
theorem heldVa_one (x : Va) (w : World) (v : Value) (h : HeldVa w x v) (hq : 1 + Va.mcs x.it ≤ 1099511627776) :
    Calls Try.prog 27 #[v, .int .i64 1] w fun e w' => e = .returned (.int .i64 ((1 + Va.mcs x.it : Nat) : Int)) ∧ Below w.heap.size w w' :=
  heldVal_any w x.kd x.nn x.tx x.it v 1 h hq
end Go.Proofs.Ytflpfphfoibggaa
