/- What the laws use that put marks into an answer that is a shape, where no Val is. -/
import Derived.Test.YtfdhmkmeffgkgaaDoorGHeldShW
import Derived.Test.YtfdhmkmeffgkgaaDoorGTwoP
import Derived.Test.YtfdhmkmeffgkgaaDoorGEqA
import Derived.Test.YtfdhmkmeffgkgaaDoorGPartB
import Derived.Test.YtfdhmkmeffgkgaaDoorGPutSP
namespace Go.Proofs.YtfdhmkmeffgkgaaDoor
open Go.RowKit

theorem blk_only {w w' : World} {F : List Nat} {b : Nat} {o : Obj} (h : w.heap[b]? = some o) (hy : Only F w w') (hn : b ∉ F) : w'.heap[b]? = some o := by
  rw [hy.block b (Array.getElem?_eq_some_iff.1 h).1 hn]; exact h

theorem smc_le : ∀ t : Sh, t.mc ≤ 1 + t.sz := by
  refine Sh.ind fun k sy na su ih => ?_
  have key : ∀ l : List Sh, (∀ x ∈ l, x.mc ≤ 1 + x.sz) → Sh.mcs l ≤ l.length + Sh.szs l := by
    intro l
    induction l with
    | nil => intro _; simp [Sh.mcs]
    | cons x l ihl =>
      intro h
      have h1 := h x (by simp)
      have h2 := ihl fun y hy => h y (by simp [hy])
      simp only [Sh.mcs, Sh.szs, List.length_cons]
      omega
  have := key su ih
  simp only [Sh.mc, Sh.sz, strsSz]
  omega

/-- markShape from q on, whatever it has. -/
theorem markSh_from (t : Sh) (w : World) (base : Nat) (v : Value) (F : List Nat) (q : Nat) (h : OwnSh w base t v F) (hF : F.Nodup) (hs : t.sz ≤ 1048576) (hq : q ≤ 10000000) :
    Calls Tryd.prog 33 #[v, .int .i64 q] w fun e w' => ∃ K : Nat, e = .returned (.int .i64 (K : Int)) ∧ K ≤ q + 1048577 ∧ Only F w w' := by
  have hm := smc_le t
  cases t with | mk k sy na su =>
  simp only [Sh.mc] at hm
  refine (markShape_any w base k sy na su v F q h hF (by omega)).mono ?_
  rintro e w' ⟨rfl, _, hy⟩
  exact ⟨_, rfl, by omega, hy⟩

/-- The marks of a shape that a value holds, without its own number. -/
def Sh.mcw (x : Sh) : Nat := x.sy.length + x.na.length + Sh.mcs x.su
theorem smcw_le (x : Sh) : 1 + Sh.mcw x ≤ 1 + x.sz := by
  have := smc_le x
  cases x with | mk k sy na su => simp only [Sh.mc, Sh.mcw, Sh.sy, Sh.na, Sh.su] at this ⊢; omega
def HeldSh (w : World) (x : Sh) (v : Value) : Prop := IsSh w (.mk x.kd (marksB 1 x.sy.length) (marksB (1 + x.sy.length) x.na.length) (Sh.markeds x.su (1 + x.sy.length + x.na.length))) v
theorem HeldSh.below {w w' : World} {x : Sh} {v : Value} (h : HeldSh w x v) (hb : Below w.heap.size w w') : HeldSh w' x v := IsSh.keep (Keeps.of_below hb) _ _ h
theorem markSh_one (x : Sh) (w : World) (base : Nat) (v : Value) (F : List Nat) (h : OwnSh w base x v F) (hF : F.Nodup) (hq : 1 + Sh.mcw x ≤ 1099511627776) :
    Calls Tryd.prog 33 #[v, .int .i64 1] w fun e w' => e = .returned (.int .i64 ((1 + Sh.mcw x : Nat) : Int)) ∧ HeldSh w' x v ∧ Only F w w' := by
  cases x with | mk k sy na su =>
  simp only [Sh.mcw, Sh.sy, Sh.na, Sh.su] at hq ⊢
  refine (markShape_any w base k sy na su v F 1 h hF (by omega)).mono ?_
  rintro e w' ⟨rfl, ho, hy⟩
  exact ⟨by congr 2; omega, ho.is, hy⟩
theorem heldSh_one (x : Sh) (w : World) (v : Value) (h : HeldSh w x v) (hq : 1 + Sh.mcw x ≤ 1099511627776) :
    Calls Tryd.prog 35 #[v, .int .i64 1] w fun e w' => e = .returned (.int .i64 ((1 + Sh.mcw x : Nat) : Int)) ∧ Below w.heap.size w w' := by
  cases x with | mk k sy na su =>
  simp only [Sh.mcw, Sh.sy, Sh.na, Sh.su] at hq ⊢
  refine (heldShape_any w k sy.length na.length su v 1 h (by omega)).mono ?_
  rintro e w' ⟨rfl, hy⟩
  exact ⟨by congr 2; omega, hy⟩
theorem markStrs_from (l : List ByteArray) (w : World) (base : Nat) (v : Value) (q : Nat) (h : OwnStrs w base v l) (hs : l.length ≤ 1048576) (hq : q ≤ 10000000) :
    Calls Tryd.prog 32 #[v, .int .i64 q] w fun e w' => ∃ K : Nat, e = .returned (.int .i64 (K : Int)) ∧ K ≤ q + 1048577 ∧ Only (blkOf v) w w' := by
  refine (markStrs_any w base v l q h (by omega)).mono ?_
  rintro e w' ⟨rfl, _, hy⟩
  exact ⟨_, rfl, by omega, hy⟩

end Go.Proofs.YtfdhmkmeffgkgaaDoor
