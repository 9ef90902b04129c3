/- Walks: what makes readings, but for records: which function values, and what they hold. -/
import Derived.Test.YtbpidhlpakobiaaGRdaP
namespace Go.Proofs.Ytbpidhlpakobiaa
open Go.RowKit

set_option maxRecDepth 100000 in
set_option maxHeartbeats 1000000 in
theorem wrap_raw (f1 f2 : FuncId) (c1 c2 : Array Value) (w : World) :
    Calls Try.prog 35 #[.agg #[.func (.func f1) #[] c1, .func (.func f2) #[] c2]] w fun e w' =>
      e = .returned (.agg #[fnv 46 #[.pointer (some ⟨w.heap.size, 0, none⟩)], fnv f2 c2]) ∧ w'.heap[w.heap.size]? = some (.cells #[fnv f1 c1, fnv f2 c2] 49 (0, 0)) ∧ Below w.heap.size w w' := by
  have HN := Lib.hid fun o => (two_new w (.cells #[.func (.func f1) #[] c1, .func (.func f2) #[] c2] 49) o).1
  have HB := Lib.hid fun o1 o2 => (below_alloc w o1).alloc (by simp) o2
  go_enter Try.func35, Try.ntmps35
  go_wp2_with fail
  refine bodyPost_ret (v := .agg #[fnv 46 #[.pointer (some ⟨w.heap.size, 0, none⟩)], fnv f2 c2]) (by simp [results, Try.results35, go_sem]) rfl ?_
  exact ⟨rfl, HN.out _, HB.out _ _⟩

set_option maxRecDepth 100000 in
set_option maxHeartbeats 1000000 in
theorem unwrap_raw (f1 f2 : FuncId) (c1 c2 : Array Value) (w : World) :
    Calls Try.prog 36 #[.agg #[.func (.func f1) #[] c1, .func (.func f2) #[] c2]] w fun e w' =>
      e = .returned (.agg #[fnv 49 #[.pointer (some ⟨w.heap.size, 0, none⟩)], fnv 50 #[]]) ∧ w'.heap[w.heap.size]? = some (.cells #[fnv f1 c1, fnv f2 c2] 49 (0, 0)) ∧ Below w.heap.size w w' := by
  have HN := Lib.hid fun o => (two_new w (.cells #[.func (.func f1) #[] c1, .func (.func f2) #[] c2] 49) o).1
  have HB := Lib.hid fun o1 o2 => (below_alloc w o1).alloc (by simp) o2
  go_enter Try.func36, Try.ntmps36
  go_wp2_with fail
  refine bodyPost_ret (v := .agg #[fnv 49 #[.pointer (some ⟨w.heap.size, 0, none⟩)], fnv 50 #[]]) (by simp [results, Try.results36, go_sem]) rfl ?_
  exact ⟨rfl, HN.out _, HB.out _ _⟩

set_option maxRecDepth 100000 in
set_option maxHeartbeats 1000000 in
theorem other_raw (k : Int) (p1 p2 p3 : Option Addr) (n1 n2 n3 m1 m2 m3 : Nat) (w : World) :
    Calls Try.prog 37 #[.agg #[.int .i64 k, .slice p1 n1 m1, .slice p2 n2 m2, .slice p3 n3 m3]] w fun e w' =>
      e = .returned (.agg #[fnv 51 #[], fnv 52 #[.pointer (some ⟨w.heap.size, 0, none⟩)]]) ∧ w'.heap[w.heap.size]? = some (.cells #[.int .i64 k, .slice p1 n1 m1, .slice p2 n2 m2, .slice p3 n3 m3] 30 (0, 0)) ∧ Below w.heap.size w w' := by
  have HN := Lib.hid fun o => (two_new w (.cells #[.int .i64 k, .slice p1 n1 m1, .slice p2 n2 m2, .slice p3 n3 m3] 30) o).1
  have HB := Lib.hid fun o1 o2 => (below_alloc w o1).alloc (by simp) o2
  go_enter Try.func37, Try.ntmps37
  go_wp2_with fail
  refine bodyPost_ret (v := .agg #[fnv 51 #[], fnv 52 #[.pointer (some ⟨w.heap.size, 0, none⟩)]]) (by simp [results, Try.results37, go_sem]) rfl ?_
  exact ⟨rfl, HN.out _, HB.out _ _⟩

set_option maxRecDepth 100000 in
set_option maxHeartbeats 1000000 in
theorem newField_raw (k : Int) (p1 p2 p3 : Option Addr) (n1 n2 n3 m1 m2 m3 : Nat) (w : World) :
    Calls Try.prog 71 #[.agg #[.int .i64 k, .slice p1 n1 m1, .slice p2 n2 m2, .slice p3 n3 m3]] w fun e w' =>
      e = .returned (.agg #[fnv 74 #[.pointer (some ⟨w.heap.size, 0, none⟩)], fnv 59 #[]]) ∧ w'.heap[w.heap.size]? = some (.cells #[.int .i64 k, .slice p1 n1 m1, .slice p2 n2 m2, .slice p3 n3 m3] 30 (0, 0)) ∧ Below w.heap.size w w' := by
  have HN := Lib.hid fun o => (two_new w (.cells #[.int .i64 k, .slice p1 n1 m1, .slice p2 n2 m2, .slice p3 n3 m3] 30) o).1
  have HB := Lib.hid fun o1 o2 => (below_alloc w o1).alloc (by simp) o2
  go_enter Try.func71, Try.ntmps71
  go_wp2_with fail
  refine bodyPost_ret (v := .agg #[fnv 74 #[.pointer (some ⟨w.heap.size, 0, none⟩)], fnv 59 #[]]) (by simp [results, Try.results71, go_sem]) rfl ?_
  exact ⟨rfl, HN.out _, HB.out _ _⟩

set_option maxRecDepth 100000 in
set_option maxHeartbeats 1000000 in
theorem plain_raw (w : World) :
    Calls Try.prog 41 #[] w fun e w' =>
      e = .returned (.agg #[fnv 67 #[], fnv 59 #[]]) ∧ Below w.heap.size w w' := by
  have HB := Lib.hid fun o1 => (below_alloc w o1)
  go_enter Try.func41, Try.ntmps41
  go_wp2_with fail
  refine bodyPost_ret (v := .agg #[fnv 67 #[], fnv 59 #[]]) (by simp [results, Try.results41, go_sem]) rfl ?_
  exact ⟨rfl, HB.out _⟩

set_option maxRecDepth 100000 in
set_option maxHeartbeats 1000000 in
theorem pick_raw (p1 p2 : Option Addr) (n1 n2 m1 m2 : Nat) (w : World) :
    Calls Try.prog 38 #[.slice p1 n1 m1, .slice p2 n2 m2] w fun e w' =>
      e = .returned (.agg #[fnv 54 #[.pointer (some ⟨w.heap.size + 1, 0, none⟩)], fnv 57 #[.pointer (some ⟨w.heap.size, 0, none⟩), .pointer (some ⟨w.heap.size + 1, 0, none⟩)]]) ∧
      w'.heap[w.heap.size]? = some (.cells #[.slice p1 n1 m1] 22 (0, 0)) ∧ w'.heap[w.heap.size + 1]? = some (.cells #[.slice p2 n2 m2] 22 (0, 0)) ∧ Below w.heap.size w w' := by
  have HN := Lib.hid fun o => three_new w (.cells #[.slice p1 n1 m1] 22) (.cells #[.slice p2 n2 m2] 22) o
  have HB := Lib.hid fun o1 o2 o3 => ((below_alloc w o1).alloc (by simp) o2).alloc (by simp; omega) o3
  go_enter Try.func38, Try.ntmps38
  go_wp2_with fail
  refine bodyPost_ret (v := .agg #[fnv 54 #[.pointer (some ⟨w.heap.size + 1, 0, none⟩)], fnv 57 #[.pointer (some ⟨w.heap.size, 0, none⟩), .pointer (some ⟨w.heap.size + 1, 0, none⟩)]]) (by simp [results, Try.results38, go_sem]) rfl ?_
  exact ⟨rfl, (HN.out _).1, (HN.out _).2.1, HB.out _ _ _⟩

set_option maxRecDepth 100000 in
set_option maxHeartbeats 1000000 in
theorem items_raw (k : Int) (f1 f2 : FuncId) (c1 c2 : Array Value) (w : World) :
    Calls Try.prog 39 #[.int .i64 k, .agg #[.func (.func f1) #[] c1, .func (.func f2) #[] c2]] w fun e w' =>
      e = .returned (.agg #[fnv 60 #[.pointer (some ⟨w.heap.size, 0, none⟩), .pointer (some ⟨w.heap.size + 1, 0, none⟩)], fnv 62 #[.pointer (some ⟨w.heap.size + 1, 0, none⟩), .pointer (some ⟨w.heap.size, 0, none⟩)]]) ∧
      w'.heap[w.heap.size]? = some (.cells #[.int .i64 k] 2 (0, 0)) ∧ w'.heap[w.heap.size + 1]? = some (.cells #[fnv f1 c1, fnv f2 c2] 49 (0, 0)) ∧ Below w.heap.size w w' := by
  have HN := Lib.hid fun o => three_new w (.cells #[.int .i64 k] 2) (.cells #[.func (.func f1) #[] c1, .func (.func f2) #[] c2] 49) o
  have HB := Lib.hid fun o1 o2 o3 => ((below_alloc w o1).alloc (by simp) o2).alloc (by simp; omega) o3
  go_enter Try.func39, Try.ntmps39
  go_wp2_with fail
  refine bodyPost_ret (v := .agg #[fnv 60 #[.pointer (some ⟨w.heap.size, 0, none⟩), .pointer (some ⟨w.heap.size + 1, 0, none⟩)], fnv 62 #[.pointer (some ⟨w.heap.size + 1, 0, none⟩), .pointer (some ⟨w.heap.size, 0, none⟩)]]) (by simp [results, Try.results39, go_sem]) rfl ?_
  exact ⟨rfl, (HN.out _).1, (HN.out _).2.1, HB.out _ _ _⟩
end Go.Proofs.Ytbpidhlpakobiaa
