/- What the laws use that put marks into more than one argument; a Val's variable that a region makes. -/
import Derived.Test.YtnnjhcjalmdmcaaGreatGMkA
import Derived.Test.YtnnjhcjalmdmcaaGreatGRdaP
namespace Go.Proofs.YtnnjhcjalmdmcaaGreat
open Go.RowKit

/-- markShape from q on, whatever it has. -/
theorem markSh_from (t : Sh) (w : World) (base : Nat) (v : Value) (F : List Nat) (q : Nat) (h : OwnSh w base t v F) (hF : F.Nodup) (hs : t.sz ≤ 1048576) (hq : q ≤ 10000000) :
    Calls Tryz.prog 25 #[v, .int .i64 q] w fun e w' => ∃ K : Nat, e = .returned (.int .i64 (K : Int)) ∧ K ≤ q + 1048577 ∧ Only F w w' := by
  have hm := smc_le t
  cases t with | mk k sy na su =>
  simp only [Sh.mc] at hm
  refine (markShape_any w base k sy na su v F q h hF (by omega)).mono ?_
  rintro e w' ⟨rfl, _, hy⟩
  exact ⟨_, rfl, by omega, hy⟩

/-- The variable of a Val that a region makes, with what a call told. -/
def ValAt (y : Va) (u : World) (x : Value) (wc : World) : Prop :=
  ∃ (b : Nat) (k : Option Addr) (o : Nat) (F : List Nat), x = .pointer (some ⟨b, 0, none⟩) ∧ u.heap.size ≤ b ∧ wc.heap[b]? = some (.cells #[.int .i64 y.kd, .int .i64 y.nn, .string y.tx, .slice k y.it.length o] 29 (0, 0)) ∧
    OwnVa wc u.heap.size y (.agg #[.int .i64 y.kd, .int .i64 y.nn, .string y.tx, .slice k y.it.length o]) F ∧ F.Nodup ∧ b ∉ F ∧ Below u.heap.size u wc
theorem val_cut1 {y : Va} {u w3 : World} {B : Nat} {k : Option Addr} {o : Nat} {F : List Nat} (ho : OwnVa w3 B y (.agg #[.int .i64 y.kd, .int .i64 y.nn, .string y.tx, .slice k y.it.length o]) F) (hn : F.Nodup) (hB : u.heap.size ≤ B) (hb : Below u.heap.size u w3) :
    ValAt y u (.pointer (some ⟨w3.heap.size, 0, none⟩)) (w3.alloc (.cells #[.int .i64 y.kd, .int .i64 y.nn, .string y.tx, .slice k y.it.length o] 29)) :=
  ⟨w3.heap.size, k, o, F, rfl, hb.size, Go.Deep.blk_alloc_new _ _, OwnVa.move hB _ _ _ (fun g hg => (below_alloc w3 _).block g (OwnVa.blocks _ _ _ ho g hg).2) ho, hn, fun hm => by have := OwnVa.blocks _ _ _ ho _ hm; omega, hb.alloc hb.size _⟩
theorem val_cut2 {y : Va} {u w3 : World} {B b : Nat} {k : Option Addr} {o : Nat} {F : List Nat} (ho : OwnVa w3 B y (.agg #[.int .i64 y.kd, .int .i64 y.nn, .string y.tx, .slice k y.it.length o]) F) (hn : F.Nodup) (hB : u.heap.size ≤ B) (hb : Below u.heap.size u w3) (h1 : u.heap.size ≤ b) (h2 : b < B) (hz : w3.heap[b]? = some (.cells #[.int .i64 0, .int .i64 0, .string ⟨#[]⟩, .slice none 0 0] 29 (0, 0))) :
    ValAt y u (.pointer (some ⟨b, 0, none⟩)) ((((w3.setCell ⟨b, 0, none⟩ (.int .i64 y.kd)).setCell ⟨b, 1, none⟩ (.int .i64 y.nn)).setCell ⟨b, 2, none⟩ (.string y.tx)).setCell ⟨b, 3, none⟩ (.slice k y.it.length o)) := by
  have lt := OwnVa.blocks _ _ _ ho
  have a4 := blk_set (blk_set (blk_set (blk_set hz 0 (.int .i64 y.kd)) 1 (.int .i64 y.nn)) 2 (.string y.tx)) 3 (.slice k y.it.length o)
  refine ⟨b, k, o, F, rfl, h1, by simpa using a4, OwnVa.move hB _ _ _ (fun g hg => ?_) ho, hn, fun hm => by have := lt _ hm; omega, putQ_below hb h1 _ _ _ _⟩
  have hne : g ≠ b := by have := lt g hg; omega
  exact putQ_other _ _ _ _ _ _ hne
end Go.Proofs.YtnnjhcjalmdmcaaGreat
