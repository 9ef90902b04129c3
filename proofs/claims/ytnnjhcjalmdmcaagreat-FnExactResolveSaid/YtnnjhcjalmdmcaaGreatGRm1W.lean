/- Walks: what makes readings, but for records: which function values, and what they hold. -/
import Derived.Test.YtnnjhcjalmdmcaaGreatGRdaP
namespace Go.Proofs.YtnnjhcjalmdmcaaGreat
open Go.RowKit

set_option maxRecDepth 100000 in
set_option maxHeartbeats 1000000 in
theorem wrap_raw (f1 f2 : FuncId) (c1 c2 : Array Value) (w : World) :
    Calls Tryz.prog 63 #[.agg #[.func (.func f1) #[] c1, .func (.func f2) #[] c2]] w fun e w' =>
      e = .returned (.agg #[fnv 80 #[.pointer (some ⟨w.heap.size, 0, none⟩)], fnv f2 c2]) ∧ w'.heap[w.heap.size]? = some (.cells #[fnv f1 c1, fnv f2 c2] 67 (0, 0)) ∧ Below w.heap.size w w' := by
  have HN := Lib.hid fun o => (two_new w (.cells #[.func (.func f1) #[] c1, .func (.func f2) #[] c2] 67) o).1
  have HB := Lib.hid fun o1 o2 => (below_alloc w o1).alloc (by simp) o2
  go_enter Tryz.func63, Tryz.ntmps63
  go_wp2_with fail
  refine bodyPost_ret (v := .agg #[fnv 80 #[.pointer (some ⟨w.heap.size, 0, none⟩)], fnv f2 c2]) (by simp [results, Tryz.results63, go_sem]) rfl ?_
  exact ⟨rfl, HN.out _, HB.out _ _⟩

set_option maxRecDepth 100000 in
set_option maxHeartbeats 1000000 in
theorem unwrap_raw (f1 f2 : FuncId) (c1 c2 : Array Value) (w : World) :
    Calls Tryz.prog 64 #[.agg #[.func (.func f1) #[] c1, .func (.func f2) #[] c2]] w fun e w' =>
      e = .returned (.agg #[fnv 83 #[.pointer (some ⟨w.heap.size, 0, none⟩)], fnv 84 #[]]) ∧ w'.heap[w.heap.size]? = some (.cells #[fnv f1 c1, fnv f2 c2] 67 (0, 0)) ∧ Below w.heap.size w w' := by
  have HN := Lib.hid fun o => (two_new w (.cells #[.func (.func f1) #[] c1, .func (.func f2) #[] c2] 67) o).1
  have HB := Lib.hid fun o1 o2 => (below_alloc w o1).alloc (by simp) o2
  go_enter Tryz.func64, Tryz.ntmps64
  go_wp2_with fail
  refine bodyPost_ret (v := .agg #[fnv 83 #[.pointer (some ⟨w.heap.size, 0, none⟩)], fnv 84 #[]]) (by simp [results, Tryz.results64, go_sem]) rfl ?_
  exact ⟨rfl, HN.out _, HB.out _ _⟩

set_option maxRecDepth 100000 in
set_option maxHeartbeats 1000000 in
theorem other_raw (k : Int) (p1 p2 p3 : Option Addr) (n1 n2 n3 m1 m2 m3 : Nat) (w : World) :
    Calls Tryz.prog 65 #[.agg #[.int .i64 k, .slice p1 n1 m1, .slice p2 n2 m2, .slice p3 n3 m3]] w fun e w' =>
      e = .returned (.agg #[fnv 85 #[], fnv 86 #[.pointer (some ⟨w.heap.size, 0, none⟩)]]) ∧ w'.heap[w.heap.size]? = some (.cells #[.int .i64 k, .slice p1 n1 m1, .slice p2 n2 m2, .slice p3 n3 m3] 26 (0, 0)) ∧ Below w.heap.size w w' := by
  have HN := Lib.hid fun o => (two_new w (.cells #[.int .i64 k, .slice p1 n1 m1, .slice p2 n2 m2, .slice p3 n3 m3] 26) o).1
  have HB := Lib.hid fun o1 o2 => (below_alloc w o1).alloc (by simp) o2
  go_enter Tryz.func65, Tryz.ntmps65
  go_wp2_with fail
  refine bodyPost_ret (v := .agg #[fnv 85 #[], fnv 86 #[.pointer (some ⟨w.heap.size, 0, none⟩)]]) (by simp [results, Tryz.results65, go_sem]) rfl ?_
  exact ⟨rfl, HN.out _, HB.out _ _⟩

set_option maxRecDepth 100000 in
set_option maxHeartbeats 1000000 in
theorem newField_raw (k : Int) (p1 p2 p3 : Option Addr) (n1 n2 n3 m1 m2 m3 : Nat) (w : World) :
    Calls Tryz.prog 105 #[.agg #[.int .i64 k, .slice p1 n1 m1, .slice p2 n2 m2, .slice p3 n3 m3]] w fun e w' =>
      e = .returned (.agg #[fnv 108 #[.pointer (some ⟨w.heap.size, 0, none⟩)], fnv 93 #[]]) ∧ w'.heap[w.heap.size]? = some (.cells #[.int .i64 k, .slice p1 n1 m1, .slice p2 n2 m2, .slice p3 n3 m3] 26 (0, 0)) ∧ Below w.heap.size w w' := by
  have HN := Lib.hid fun o => (two_new w (.cells #[.int .i64 k, .slice p1 n1 m1, .slice p2 n2 m2, .slice p3 n3 m3] 26) o).1
  have HB := Lib.hid fun o1 o2 => (below_alloc w o1).alloc (by simp) o2
  go_enter Tryz.func105, Tryz.ntmps105
  go_wp2_with fail
  refine bodyPost_ret (v := .agg #[fnv 108 #[.pointer (some ⟨w.heap.size, 0, none⟩)], fnv 93 #[]]) (by simp [results, Tryz.results105, go_sem]) rfl ?_
  exact ⟨rfl, HN.out _, HB.out _ _⟩

set_option maxRecDepth 100000 in
set_option maxHeartbeats 1000000 in
theorem plain_raw (w : World) :
    Calls Tryz.prog 69 #[] w fun e w' =>
      e = .returned (.agg #[fnv 101 #[], fnv 93 #[]]) ∧ Below w.heap.size w w' := by
  have HB := Lib.hid fun o1 => (below_alloc w o1)
  go_enter Tryz.func69, Tryz.ntmps69
  go_wp2_with fail
  refine bodyPost_ret (v := .agg #[fnv 101 #[], fnv 93 #[]]) (by simp [results, Tryz.results69, go_sem]) rfl ?_
  exact ⟨rfl, HB.out _⟩

set_option maxRecDepth 100000 in
set_option maxHeartbeats 1000000 in
theorem pick_raw (p1 p2 : Option Addr) (n1 n2 m1 m2 : Nat) (w : World) :
    Calls Tryz.prog 66 #[.slice p1 n1 m1, .slice p2 n2 m2] w fun e w' =>
      e = .returned (.agg #[fnv 88 #[.pointer (some ⟨w.heap.size + 1, 0, none⟩)], fnv 91 #[.pointer (some ⟨w.heap.size, 0, none⟩), .pointer (some ⟨w.heap.size + 1, 0, none⟩)]]) ∧
      w'.heap[w.heap.size]? = some (.cells #[.slice p1 n1 m1] 23 (0, 0)) ∧ w'.heap[w.heap.size + 1]? = some (.cells #[.slice p2 n2 m2] 23 (0, 0)) ∧ Below w.heap.size w w' := by
  have HN := Lib.hid fun o => three_new w (.cells #[.slice p1 n1 m1] 23) (.cells #[.slice p2 n2 m2] 23) o
  have HB := Lib.hid fun o1 o2 o3 => ((below_alloc w o1).alloc (by simp) o2).alloc (by simp; omega) o3
  go_enter Tryz.func66, Tryz.ntmps66
  go_wp2_with fail
  refine bodyPost_ret (v := .agg #[fnv 88 #[.pointer (some ⟨w.heap.size + 1, 0, none⟩)], fnv 91 #[.pointer (some ⟨w.heap.size, 0, none⟩), .pointer (some ⟨w.heap.size + 1, 0, none⟩)]]) (by simp [results, Tryz.results66, go_sem]) rfl ?_
  exact ⟨rfl, (HN.out _).1, (HN.out _).2.1, HB.out _ _ _⟩

set_option maxRecDepth 100000 in
set_option maxHeartbeats 1000000 in
theorem items_raw (k : Int) (f1 f2 : FuncId) (c1 c2 : Array Value) (w : World) :
    Calls Tryz.prog 67 #[.int .i64 k, .agg #[.func (.func f1) #[] c1, .func (.func f2) #[] c2]] w fun e w' =>
      e = .returned (.agg #[fnv 94 #[.pointer (some ⟨w.heap.size, 0, none⟩), .pointer (some ⟨w.heap.size + 1, 0, none⟩)], fnv 96 #[.pointer (some ⟨w.heap.size + 1, 0, none⟩), .pointer (some ⟨w.heap.size, 0, none⟩)]]) ∧
      w'.heap[w.heap.size]? = some (.cells #[.int .i64 k] 2 (0, 0)) ∧ w'.heap[w.heap.size + 1]? = some (.cells #[fnv f1 c1, fnv f2 c2] 67 (0, 0)) ∧ Below w.heap.size w w' := by
  have HN := Lib.hid fun o => three_new w (.cells #[.int .i64 k] 2) (.cells #[.func (.func f1) #[] c1, .func (.func f2) #[] c2] 67) o
  have HB := Lib.hid fun o1 o2 o3 => ((below_alloc w o1).alloc (by simp) o2).alloc (by simp; omega) o3
  go_enter Tryz.func67, Tryz.ntmps67
  go_wp2_with fail
  refine bodyPost_ret (v := .agg #[fnv 94 #[.pointer (some ⟨w.heap.size, 0, none⟩), .pointer (some ⟨w.heap.size + 1, 0, none⟩)], fnv 96 #[.pointer (some ⟨w.heap.size + 1, 0, none⟩), .pointer (some ⟨w.heap.size, 0, none⟩)]]) (by simp [results, Tryz.results67, go_sem]) rfl ?_
  exact ⟨rfl, (HN.out _).1, (HN.out _).2.1, HB.out _ _ _⟩
end Go.Proofs.YtnnjhcjalmdmcaaGreat
