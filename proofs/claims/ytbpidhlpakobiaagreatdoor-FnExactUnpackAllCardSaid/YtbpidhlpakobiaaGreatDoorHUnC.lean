/- Walks: math/bits.Mul, slices.Repeat of one packer. · Walks: the closures that unpack Items of one shape, and records. -/
import Derived.Test.YtbpidhlpakobiaaGreatDoorHPkOf
import Derived.Laws.BitsAllLaws
import Derived.Laws.CopyRow
import Derived.Laws.IdiomCopy
import Derived.Laws.CopyOwn
import Derived.RegionTactic
import Derived.Test.YtbpidhlpakobiaaGreatDoorHUnB1
namespace Go.Proofs.YtbpidhlpakobiaaGreatDoor
open Go.RowKit

set_option maxRecDepth 100000 in
theorem mul64_one (n : Nat) (hn : n ≤ 6) (w : World) : Calls Tryz.prog 193 #[.int .u64 1, .int .u64 n] w fun e w' => e = .returned (.tuple #[.int .u64 0, .int .u64 n]) ∧ w = w' := by
  match n, hn with
  | 0, _ | 1, _ | 2, _ | 3, _ | 4, _ | 5, _ | 6, _ =>
    go_enter Tryz.func193, Tryz.ntmps193
    go_wp2
    go_ret2
    exact ⟨by rfl, rfl⟩
set_option maxRecDepth 100000 in
theorem mul_one (n : Nat) (hn : n ≤ 6) (w : World) : Calls Tryz.prog 181 #[.int .u64 1, .int .u64 n] w fun e w' => e = .returned (.tuple #[.int .u64 0, .int .u64 n]) ∧ w = w' := by
  have HN := Lib.hid hn
  clear hn
  go_enter Tryz.func181, Tryz.ntmps181
  go_wp2_with fail
  refine (mul64_one n HN.out w).mono ?_
  rintro e w' ⟨rfl, rfl⟩
  go_wp2_with fail
  go_ret2
  exact ⟨rfl, rfl⟩

/-- So many times the pair. -/
def pairsOf (a b : Value) : Nat → List Value
  | 0 => []
  | n + 1 => a :: b :: pairsOf a b n
/-- The first m of n places are filled. -/
def rowOf (a b : Value) (m n : Nat) : List Value := pairsOf a b m ++ List.replicate (2 * (n - m)) .nilFunc

theorem run_copy2 (w : World) (ty : TypeId) (g o dLen dCap : Nat) (a : Addr) (sLen sCap k : Nat) (cur : Array Value) (t : TypeId) (cs : List Value)
    (hg : w.heap[g]? = some (.cells cur t (0, 0))) (hk : k = Nat.min sLen dLen) (hn : cs.length = k * 2)
    (hsrc : ∀ j v, cs[j]? = some v → w.cell? (a.add j) = some v) (hfit : o + cs.length ≤ cur.size) (h1 : ∀ v ∈ cs, v.oneCell' = true) :
    (Builtin.copy_ #[190, 190] ty #[.slice (some ⟨g, o, none⟩) dLen dCap, .slice (some a) sLen sCap]).run Tryz.prog w =
      .ok (.int .i64 (k : Int)) (w.setRow g (cur.toList.take o ++ cs ++ cur.toList.drop (o + cs.length)).toArray) := by
  have hl := run_loadCells_list (P := Tryz.prog) w a cs hsrc
  have hst := run_storeCells_at Tryz.prog g o t cs 0 cur w hg (by simpa using hfit) h1
  obtain ⟨i, hi, _, hs, _⟩ := info_parts info_pk
  simp [Builtin.copy_, run_underlying Tryz.underlying190, Builtin.lenOf, Builtin.firstCells, sizeOf, typeInfo, hi, hs, ← hk, ← hn, hl, hst, goInt]
theorem blk_row {w : World} {g : Nat} {cs : List Value} {T : TypeId} (h : w.heap[g]? = some (.cells cs.toArray T (0, 0))) (j : Nat) (v : Value) (hj : cs[j]? = some v) : w.cell? ((⟨g, 0, none⟩ : Addr).add j) = some v := by
  rw [show (⟨g, 0, none⟩ : Addr).add j = ⟨g, 0 + j, none⟩ from by unfold Addr.add; split <;> simp_all, Nat.zero_add]
  unfold World.cell?
  rw [h]; simpa using hj
theorem setRow_blk {w : World} {g : Nat} {c c' : Array Value} {T : TypeId} (h : w.heap[g]? = some (.cells c T (0, 0))) : (w.setRow g c').heap[g]? = some (.cells c' T (0, 0)) := by
  unfold World.setRow
  simp only [Array.getElem?_modify]
  rw [if_pos trivial, h]; rfl

/-- make([]packer, n). -/
theorem make_pks (n : Nat) (h : n ≤ 6) (w : World) :
    (Instr.makeSlice 190 (.int .i64 (n : Int)) (.int .i64 (n : Int))).run Tryz.prog w = .ok (.slice (some ⟨w.heap.size, 0, none⟩) n n) (w.alloc (.cells (madeCells #[.nilFunc, .nilFunc] (n * 2)) 86)) := by
  obtain ⟨i, hi, hz, hs, hb⟩ := info_parts info_pk
  have := run_make (P := Tryz.prog) w 190 86 i _ Tryz.underlying190 hi hz .i64 .i64 n n (by omega) (Int.le_refl _) (by rw [hb]; omega) (by omega)
  simpa [hs, Value.cells] using this
theorem made_nil (n : Nat) (h : n ≤ 6) : madeCells #[.nilFunc, .nilFunc] (n * 2) = (List.replicate (n * 2) Value.nilFunc).toArray := by
  match n, h with
  | 0, _ | 1, _ | 2, _ | 3, _ | 4, _ | 5, _ | 6, _ => exact Array.ext' (by simp [madeCells, List.range, List.range.loop, List.replicate])

/-- What Repeat leaves. -/
def RepPost (a b : Value) (n : Nat) (w : World) (e : Ending) (w' : World) : Prop := ∃ q c, e = .returned (.slice q n c) ∧ w'.ownsRow w.heap.size 86 2 (.slice q n c) n (pairsOf a b n) ∧ Below w.heap.size w w'
theorem rep_end {a b : Value} {n : Nat} {w wr : World} (hn : n ≤ 6) (h : wr.heap[w.heap.size]? = some (.cells (rowOf a b n n).toArray 86 (0, 0))) (hb : Below w.heap.size w wr) : RepPost a b n w (.returned (.slice (some ⟨w.heap.size, 0, none⟩) n n)) wr := by
  have e : rowOf a b n n = pairsOf a b n := by unfold rowOf; simp
  have hl : ∀ m, (pairsOf a b m).length = m * 2 := fun m => by
    induction m with
    | zero => rfl
    | succ m ih => simp only [pairsOf, List.length_cons, ih]; omega
  rw [e] at h
  refine ⟨_, _, rfl, ⟨hl n, .inr ⟨w.heap.size, n, _, rfl, Nat.le_refl _, h, Nat.le_refl _, by unfold maxLen; omega, by simp [hl], List.take_of_length_le (by simp [hl])⟩⟩, hb⟩

set_option maxRecDepth 100000 in
set_option maxHeartbeats 1000000 in
theorem rep_0 (g : Nat) (f1 f2 : FuncId) (c1 c2 : Array Value) (w : World) (h : w.heap[g]? = some (.cells #[fv f1 c1, fv f2 c2] 86 (0, 0))) :
    Calls Tryz.prog 163 #[.slice (some ⟨g, 0, none⟩) 1 1, .int .i64 0] w (RepPost (fv f1 c1) (fv f2 c2) 0 w) := by
  have hlt : g < w.heap.size := (Array.getElem?_eq_some_iff.1 h).1
  obtain ⟨W, hW⟩ : ∃ W, W = w.alloc (.cells (madeCells #[.nilFunc, .nilFunc] (0 * 2)) 86) := ⟨_, rfl⟩
  have hmk : (Instr.makeSlice 190 (.int .i64 0) (.int .i64 0)).run Tryz.prog w = .ok (.slice (some ⟨w.heap.size, 0, none⟩) 0 0) W := by rw [hW]; exact make_pks 0 (by decide) w
  have hbw : Below w.heap.size w W := by rw [hW]; exact below_alloc _ _
  have h0 : W.heap[w.heap.size]? = some (.cells #[] 86 (0, 0)) := by rw [hW, made_nil 0 (by decide)]; exact Go.Deep.blk_alloc_new _ _
  have hs : W.heap[g]? = some (.cells [fv f1 c1, fv f2 c2].toArray 86 (0, 0)) := blk_below h hbw hlt
  have BW := Lib.hid hbw
  have H0 := Lib.hid h0
  have hcp : (Builtin.copy_ #[190, 190] 3 #[.slice (some ⟨w.heap.size, 0, none⟩) 0 0, .slice (some ⟨g, 0, none⟩) 1 1]).run Tryz.prog W = .ok (.int .i64 0) W := by
    have := run_copy2 W 3 w.heap.size 0 0 0 ⟨g, 0, none⟩ 1 1 0 _ _ [] h0 rfl rfl (by simp) (by simp) (by simp)
    rw [this, setRow_self W w.heap.size _ _ _ (by simpa using h0)]; rfl
  clear h hbw h0 hs hW
  go_enter Tryz.func163, Tryz.ntmps163
  go_wp2_with fail
  refine (mul_one 0 (by decide) w).mono ?_
  rintro e w' ⟨rfl, rfl⟩
  go_wp2_with fail
  go_loop [8] (fun i => i = .int .i64 0) (fun _ => 0)
  case atStart => rfl
  case round =>
    subst hrel
    go_wp2_with fail
    go_ret
    exact rep_end (by decide) H0.out BW.out

set_option maxRecDepth 100000 in
set_option maxHeartbeats 1000000 in
theorem rep_1 (g : Nat) (f1 f2 : FuncId) (c1 c2 : Array Value) (w : World) (h : w.heap[g]? = some (.cells #[fv f1 c1, fv f2 c2] 86 (0, 0))) :
    Calls Tryz.prog 163 #[.slice (some ⟨g, 0, none⟩) 1 1, .int .i64 1] w (RepPost (fv f1 c1) (fv f2 c2) 1 w) := by
  have hlt : g < w.heap.size := (Array.getElem?_eq_some_iff.1 h).1
  obtain ⟨W, hW⟩ : ∃ W, W = w.alloc (.cells (madeCells #[.nilFunc, .nilFunc] (1 * 2)) 86) := ⟨_, rfl⟩
  have hmk : (Instr.makeSlice 190 (.int .i64 1) (.int .i64 1)).run Tryz.prog w = .ok (.slice (some ⟨w.heap.size, 0, none⟩) 1 1) W := by rw [hW]; exact make_pks 1 (by decide) w
  have hbw : Below w.heap.size w W := by rw [hW]; exact below_alloc _ _
  have h0 : W.heap[w.heap.size]? = some (.cells #[.nilFunc, .nilFunc] 86 (0, 0)) := by rw [hW, made_nil 1 (by decide)]; exact Go.Deep.blk_alloc_new _ _
  have hs : W.heap[g]? = some (.cells [fv f1 c1, fv f2 c2].toArray 86 (0, 0)) := blk_below h hbw hlt
  have BW := Lib.hid hbw
  have H0 := Lib.hid h0
  obtain ⟨W1, hW1⟩ : ∃ W1, W1 = W.setRow w.heap.size #[fv f1 c1, fv f2 c2] := ⟨_, rfl⟩
  have hcp : (Builtin.copy_ #[190, 190] 3 #[.slice (some ⟨w.heap.size, 0, none⟩) 1 1, .slice (some ⟨g, 0, none⟩) 1 1]).run Tryz.prog W = .ok (.int .i64 1) W1 := by
    rw [hW1]
    exact run_copy2 W 3 w.heap.size 0 1 1 ⟨g, 0, none⟩ 1 1 1 _ _ [fv f1 c1, fv f2 c2] h0 rfl rfl (blk_row hs) (by simp) (by intro v hv; simp only [List.mem_cons, List.not_mem_nil, or_false] at hv; rcases hv with rfl | rfl <;> rfl)
  have B1 : Hid (Below w.heap.size w W1) := by show Below _ _ _; rw [hW1]; exact below_setRow hbw (Nat.le_refl _) _
  have R1 : Hid (W1.heap[w.heap.size]? = some (.cells #[fv f1 c1, fv f2 c2] 86 (0, 0))) := by show _ = _; rw [hW1]; exact setRow_blk h0
  clear h hbw h0 hs hW hW1
  go_enter Tryz.func163, Tryz.ntmps163
  go_wp2_with fail
  refine (mul_one 1 (by decide) w).mono ?_
  rintro e w' ⟨rfl, rfl⟩
  go_wp2_with fail
  go_loopw [8] (fun i wr => Hid (Below w.heap.size w wr) ∧ ((i = .int .i64 1 ∧ Hid (wr.heap[w.heap.size]? = some (.cells #[fv f1 c1, fv f2 c2] 86 (0, 0)))))) (fun i _ => 1 - (intOf i).toNat)
  case atStart => exact ⟨B1.out, ⟨rfl, R1.out⟩⟩
  case round =>
    obtain ⟨HB, hr⟩ := hrel
    obtain ⟨rfl, HR⟩ := hr
    go_wp2_with fail
    go_ret
    exact rep_end (by decide) HR.out HB.out

set_option maxRecDepth 100000 in
set_option maxHeartbeats 1000000 in
theorem rep_2 (g : Nat) (f1 f2 : FuncId) (c1 c2 : Array Value) (w : World) (h : w.heap[g]? = some (.cells #[fv f1 c1, fv f2 c2] 86 (0, 0))) :
    Calls Tryz.prog 163 #[.slice (some ⟨g, 0, none⟩) 1 1, .int .i64 2] w (RepPost (fv f1 c1) (fv f2 c2) 2 w) := by
  have hlt : g < w.heap.size := (Array.getElem?_eq_some_iff.1 h).1
  obtain ⟨W, hW⟩ : ∃ W, W = w.alloc (.cells (madeCells #[.nilFunc, .nilFunc] (2 * 2)) 86) := ⟨_, rfl⟩
  have hmk : (Instr.makeSlice 190 (.int .i64 2) (.int .i64 2)).run Tryz.prog w = .ok (.slice (some ⟨w.heap.size, 0, none⟩) 2 2) W := by rw [hW]; exact make_pks 2 (by decide) w
  have hbw : Below w.heap.size w W := by rw [hW]; exact below_alloc _ _
  have h0 : W.heap[w.heap.size]? = some (.cells #[.nilFunc, .nilFunc, .nilFunc, .nilFunc] 86 (0, 0)) := by rw [hW, made_nil 2 (by decide)]; exact Go.Deep.blk_alloc_new _ _
  have hs : W.heap[g]? = some (.cells [fv f1 c1, fv f2 c2].toArray 86 (0, 0)) := blk_below h hbw hlt
  have BW := Lib.hid hbw
  have H0 := Lib.hid h0
  obtain ⟨W1, hW1⟩ : ∃ W1, W1 = W.setRow w.heap.size #[fv f1 c1, fv f2 c2, .nilFunc, .nilFunc] := ⟨_, rfl⟩
  have hcp : (Builtin.copy_ #[190, 190] 3 #[.slice (some ⟨w.heap.size, 0, none⟩) 2 2, .slice (some ⟨g, 0, none⟩) 1 1]).run Tryz.prog W = .ok (.int .i64 1) W1 := by
    rw [hW1]
    exact run_copy2 W 3 w.heap.size 0 2 2 ⟨g, 0, none⟩ 1 1 1 _ _ [fv f1 c1, fv f2 c2] h0 rfl rfl (blk_row hs) (by simp) (by intro v hv; simp only [List.mem_cons, List.not_mem_nil, or_false] at hv; rcases hv with rfl | rfl <;> rfl)
  have B1 : Hid (Below w.heap.size w W1) := by show Below _ _ _; rw [hW1]; exact below_setRow hbw (Nat.le_refl _) _
  have R1 : Hid (W1.heap[w.heap.size]? = some (.cells #[fv f1 c1, fv f2 c2, .nilFunc, .nilFunc] 86 (0, 0))) := by show _ = _; rw [hW1]; exact setRow_blk h0
  clear h hbw h0 hs hW hW1
  go_enter Tryz.func163, Tryz.ntmps163
  go_wp2_with fail
  refine (mul_one 2 (by decide) w).mono ?_
  rintro e w' ⟨rfl, rfl⟩
  go_wp2_with fail
  go_loopw [8] (fun i wr => Hid (Below w.heap.size w wr) ∧ ((i = .int .i64 1 ∧ Hid (wr.heap[w.heap.size]? = some (.cells #[fv f1 c1, fv f2 c2, .nilFunc, .nilFunc] 86 (0, 0)))) ∨ (i = .int .i64 2 ∧ Hid (wr.heap[w.heap.size]? = some (.cells #[fv f1 c1, fv f2 c2, fv f1 c1, fv f2 c2] 86 (0, 0)))))) (fun i _ => 2 - (intOf i).toNat)
  case atStart => exact ⟨B1.out, .inl ⟨rfl, R1.out⟩⟩
  case round =>
    obtain ⟨HB, hr⟩ := hrel
    rcases hr with ⟨rfl, HR⟩ | ⟨rfl, HR⟩
    · obtain ⟨W2, hW2⟩ : ∃ W2, W2 = wr.drew.setRow w.heap.size #[fv f1 c1, fv f2 c2, fv f1 c1, fv f2 c2] := ⟨_, rfl⟩
      have hcq : (Builtin.copy_ #[190, 190] 3 #[.slice (some ⟨w.heap.size, 2, none⟩) 1 1, .slice (some ⟨w.heap.size, 0, none⟩) 1 2]).run Tryz.prog wr.drew = .ok (.int .i64 1) W2 := by
        rw [hW2]
        exact run_copy2 wr.drew 3 w.heap.size 2 1 1 ⟨w.heap.size, 0, none⟩ 1 2 1 _ _ [fv f1 c1, fv f2 c2] HR.out rfl rfl (fun j v hj => blk_row (w := wr.drew) (g := w.heap.size) (T := 86) (cs := [fv f1 c1, fv f2 c2] ++ [Value.nilFunc, Value.nilFunc]) HR.out j v (by rw [List.getElem?_append_left (List.getElem?_eq_some_iff.1 hj).1]; exact hj)) (by simp) (by intro v hv; simp only [List.mem_cons, List.not_mem_nil, or_false] at hv; rcases hv with rfl | rfl <;> rfl)
      have B2 : Hid (Below w.heap.size w W2) := by show Below _ _ _; rw [hW2]; exact below_setRow HB.out.drew (Nat.le_refl _) _
      have R2 : Hid (W2.heap[w.heap.size]? = some (.cells #[fv f1 c1, fv f2 c2, fv f1 c1, fv f2 c2] 86 (0, 0))) := by show _ = _; rw [hW2]; exact setRow_blk (w := wr.drew) HR.out
      clear hW2
      go_wp2_with fail
      go_region
      all_goals
        go_wp2_with fail
        go_roundw
        case rel => exact ⟨B2.out, .inr (⟨rfl, R2.out⟩)⟩
        case measure => simp [intOf]
    · go_wp2_with fail
      go_ret
      exact rep_end (by decide) HR.out HB.out

set_option maxRecDepth 100000 in
set_option maxHeartbeats 1000000 in
theorem rep_3 (g : Nat) (f1 f2 : FuncId) (c1 c2 : Array Value) (w : World) (h : w.heap[g]? = some (.cells #[fv f1 c1, fv f2 c2] 86 (0, 0))) :
    Calls Tryz.prog 163 #[.slice (some ⟨g, 0, none⟩) 1 1, .int .i64 3] w (RepPost (fv f1 c1) (fv f2 c2) 3 w) := by
  have hlt : g < w.heap.size := (Array.getElem?_eq_some_iff.1 h).1
  obtain ⟨W, hW⟩ : ∃ W, W = w.alloc (.cells (madeCells #[.nilFunc, .nilFunc] (3 * 2)) 86) := ⟨_, rfl⟩
  have hmk : (Instr.makeSlice 190 (.int .i64 3) (.int .i64 3)).run Tryz.prog w = .ok (.slice (some ⟨w.heap.size, 0, none⟩) 3 3) W := by rw [hW]; exact make_pks 3 (by decide) w
  have hbw : Below w.heap.size w W := by rw [hW]; exact below_alloc _ _
  have h0 : W.heap[w.heap.size]? = some (.cells #[.nilFunc, .nilFunc, .nilFunc, .nilFunc, .nilFunc, .nilFunc] 86 (0, 0)) := by rw [hW, made_nil 3 (by decide)]; exact Go.Deep.blk_alloc_new _ _
  have hs : W.heap[g]? = some (.cells [fv f1 c1, fv f2 c2].toArray 86 (0, 0)) := blk_below h hbw hlt
  have BW := Lib.hid hbw
  have H0 := Lib.hid h0
  obtain ⟨W1, hW1⟩ : ∃ W1, W1 = W.setRow w.heap.size #[fv f1 c1, fv f2 c2, .nilFunc, .nilFunc, .nilFunc, .nilFunc] := ⟨_, rfl⟩
  have hcp : (Builtin.copy_ #[190, 190] 3 #[.slice (some ⟨w.heap.size, 0, none⟩) 3 3, .slice (some ⟨g, 0, none⟩) 1 1]).run Tryz.prog W = .ok (.int .i64 1) W1 := by
    rw [hW1]
    exact run_copy2 W 3 w.heap.size 0 3 3 ⟨g, 0, none⟩ 1 1 1 _ _ [fv f1 c1, fv f2 c2] h0 rfl rfl (blk_row hs) (by simp) (by intro v hv; simp only [List.mem_cons, List.not_mem_nil, or_false] at hv; rcases hv with rfl | rfl <;> rfl)
  have B1 : Hid (Below w.heap.size w W1) := by show Below _ _ _; rw [hW1]; exact below_setRow hbw (Nat.le_refl _) _
  have R1 : Hid (W1.heap[w.heap.size]? = some (.cells #[fv f1 c1, fv f2 c2, .nilFunc, .nilFunc, .nilFunc, .nilFunc] 86 (0, 0))) := by show _ = _; rw [hW1]; exact setRow_blk h0
  clear h hbw h0 hs hW hW1
  go_enter Tryz.func163, Tryz.ntmps163
  go_wp2_with fail
  refine (mul_one 3 (by decide) w).mono ?_
  rintro e w' ⟨rfl, rfl⟩
  go_wp2_with fail
  go_loopw [8] (fun i wr => Hid (Below w.heap.size w wr) ∧ ((i = .int .i64 1 ∧ Hid (wr.heap[w.heap.size]? = some (.cells #[fv f1 c1, fv f2 c2, .nilFunc, .nilFunc, .nilFunc, .nilFunc] 86 (0, 0)))) ∨ (i = .int .i64 2 ∧ Hid (wr.heap[w.heap.size]? = some (.cells #[fv f1 c1, fv f2 c2, fv f1 c1, fv f2 c2, .nilFunc, .nilFunc] 86 (0, 0)))) ∨ (i = .int .i64 3 ∧ Hid (wr.heap[w.heap.size]? = some (.cells #[fv f1 c1, fv f2 c2, fv f1 c1, fv f2 c2, fv f1 c1, fv f2 c2] 86 (0, 0)))))) (fun i _ => 3 - (intOf i).toNat)
  case atStart => exact ⟨B1.out, .inl ⟨rfl, R1.out⟩⟩
  case round =>
    obtain ⟨HB, hr⟩ := hrel
    rcases hr with ⟨rfl, HR⟩ | ⟨rfl, HR⟩ | ⟨rfl, HR⟩
    · obtain ⟨W2, hW2⟩ : ∃ W2, W2 = wr.drew.setRow w.heap.size #[fv f1 c1, fv f2 c2, fv f1 c1, fv f2 c2, .nilFunc, .nilFunc] := ⟨_, rfl⟩
      have hcq : (Builtin.copy_ #[190, 190] 3 #[.slice (some ⟨w.heap.size, 2, none⟩) 2 2, .slice (some ⟨w.heap.size, 0, none⟩) 1 3]).run Tryz.prog wr.drew = .ok (.int .i64 1) W2 := by
        rw [hW2]
        exact run_copy2 wr.drew 3 w.heap.size 2 2 2 ⟨w.heap.size, 0, none⟩ 1 3 1 _ _ [fv f1 c1, fv f2 c2] HR.out rfl rfl (fun j v hj => blk_row (w := wr.drew) (g := w.heap.size) (T := 86) (cs := [fv f1 c1, fv f2 c2] ++ [Value.nilFunc, Value.nilFunc, Value.nilFunc, Value.nilFunc]) HR.out j v (by rw [List.getElem?_append_left (List.getElem?_eq_some_iff.1 hj).1]; exact hj)) (by simp) (by intro v hv; simp only [List.mem_cons, List.not_mem_nil, or_false] at hv; rcases hv with rfl | rfl <;> rfl)
      have B2 : Hid (Below w.heap.size w W2) := by show Below _ _ _; rw [hW2]; exact below_setRow HB.out.drew (Nat.le_refl _) _
      have R2 : Hid (W2.heap[w.heap.size]? = some (.cells #[fv f1 c1, fv f2 c2, fv f1 c1, fv f2 c2, .nilFunc, .nilFunc] 86 (0, 0))) := by show _ = _; rw [hW2]; exact setRow_blk (w := wr.drew) HR.out
      clear hW2
      go_wp2_with fail
      go_region
      all_goals
        go_wp2_with fail
        go_roundw
        case rel => exact ⟨B2.out, .inr (.inl ⟨rfl, R2.out⟩)⟩
        case measure => simp [intOf]
    · obtain ⟨W2, hW2⟩ : ∃ W2, W2 = wr.drew.setRow w.heap.size #[fv f1 c1, fv f2 c2, fv f1 c1, fv f2 c2, fv f1 c1, fv f2 c2] := ⟨_, rfl⟩
      have hcq : (Builtin.copy_ #[190, 190] 3 #[.slice (some ⟨w.heap.size, 4, none⟩) 1 1, .slice (some ⟨w.heap.size, 0, none⟩) 2 3]).run Tryz.prog wr.drew = .ok (.int .i64 1) W2 := by
        rw [hW2]
        exact run_copy2 wr.drew 3 w.heap.size 4 1 1 ⟨w.heap.size, 0, none⟩ 2 3 1 _ _ [fv f1 c1, fv f2 c2] HR.out rfl rfl (fun j v hj => blk_row (w := wr.drew) (g := w.heap.size) (T := 86) (cs := [fv f1 c1, fv f2 c2] ++ [fv f1 c1, fv f2 c2, Value.nilFunc, Value.nilFunc]) HR.out j v (by rw [List.getElem?_append_left (List.getElem?_eq_some_iff.1 hj).1]; exact hj)) (by simp) (by intro v hv; simp only [List.mem_cons, List.not_mem_nil, or_false] at hv; rcases hv with rfl | rfl <;> rfl)
      have B2 : Hid (Below w.heap.size w W2) := by show Below _ _ _; rw [hW2]; exact below_setRow HB.out.drew (Nat.le_refl _) _
      have R2 : Hid (W2.heap[w.heap.size]? = some (.cells #[fv f1 c1, fv f2 c2, fv f1 c1, fv f2 c2, fv f1 c1, fv f2 c2] 86 (0, 0))) := by show _ = _; rw [hW2]; exact setRow_blk (w := wr.drew) HR.out
      clear hW2
      go_wp2_with fail
      go_region
      all_goals
        go_wp2_with fail
        go_roundw
        case rel => exact ⟨B2.out, .inr (.inr (⟨rfl, R2.out⟩))⟩
        case measure => simp [intOf]
    · go_wp2_with fail
      go_ret
      exact rep_end (by decide) HR.out HB.out

set_option maxRecDepth 100000 in
set_option maxHeartbeats 1000000 in
theorem rep_4 (g : Nat) (f1 f2 : FuncId) (c1 c2 : Array Value) (w : World) (h : w.heap[g]? = some (.cells #[fv f1 c1, fv f2 c2] 86 (0, 0))) :
    Calls Tryz.prog 163 #[.slice (some ⟨g, 0, none⟩) 1 1, .int .i64 4] w (RepPost (fv f1 c1) (fv f2 c2) 4 w) := by
  have hlt : g < w.heap.size := (Array.getElem?_eq_some_iff.1 h).1
  obtain ⟨W, hW⟩ : ∃ W, W = w.alloc (.cells (madeCells #[.nilFunc, .nilFunc] (4 * 2)) 86) := ⟨_, rfl⟩
  have hmk : (Instr.makeSlice 190 (.int .i64 4) (.int .i64 4)).run Tryz.prog w = .ok (.slice (some ⟨w.heap.size, 0, none⟩) 4 4) W := by rw [hW]; exact make_pks 4 (by decide) w
  have hbw : Below w.heap.size w W := by rw [hW]; exact below_alloc _ _
  have h0 : W.heap[w.heap.size]? = some (.cells #[.nilFunc, .nilFunc, .nilFunc, .nilFunc, .nilFunc, .nilFunc, .nilFunc, .nilFunc] 86 (0, 0)) := by rw [hW, made_nil 4 (by decide)]; exact Go.Deep.blk_alloc_new _ _
  have hs : W.heap[g]? = some (.cells [fv f1 c1, fv f2 c2].toArray 86 (0, 0)) := blk_below h hbw hlt
  have BW := Lib.hid hbw
  have H0 := Lib.hid h0
  obtain ⟨W1, hW1⟩ : ∃ W1, W1 = W.setRow w.heap.size #[fv f1 c1, fv f2 c2, .nilFunc, .nilFunc, .nilFunc, .nilFunc, .nilFunc, .nilFunc] := ⟨_, rfl⟩
  have hcp : (Builtin.copy_ #[190, 190] 3 #[.slice (some ⟨w.heap.size, 0, none⟩) 4 4, .slice (some ⟨g, 0, none⟩) 1 1]).run Tryz.prog W = .ok (.int .i64 1) W1 := by
    rw [hW1]
    exact run_copy2 W 3 w.heap.size 0 4 4 ⟨g, 0, none⟩ 1 1 1 _ _ [fv f1 c1, fv f2 c2] h0 rfl rfl (blk_row hs) (by simp) (by intro v hv; simp only [List.mem_cons, List.not_mem_nil, or_false] at hv; rcases hv with rfl | rfl <;> rfl)
  have B1 : Hid (Below w.heap.size w W1) := by show Below _ _ _; rw [hW1]; exact below_setRow hbw (Nat.le_refl _) _
  have R1 : Hid (W1.heap[w.heap.size]? = some (.cells #[fv f1 c1, fv f2 c2, .nilFunc, .nilFunc, .nilFunc, .nilFunc, .nilFunc, .nilFunc] 86 (0, 0))) := by show _ = _; rw [hW1]; exact setRow_blk h0
  clear h hbw h0 hs hW hW1
  go_enter Tryz.func163, Tryz.ntmps163
  go_wp2_with fail
  refine (mul_one 4 (by decide) w).mono ?_
  rintro e w' ⟨rfl, rfl⟩
  go_wp2_with fail
  go_loopw [8] (fun i wr => Hid (Below w.heap.size w wr) ∧ ((i = .int .i64 1 ∧ Hid (wr.heap[w.heap.size]? = some (.cells #[fv f1 c1, fv f2 c2, .nilFunc, .nilFunc, .nilFunc, .nilFunc, .nilFunc, .nilFunc] 86 (0, 0)))) ∨ (i = .int .i64 2 ∧ Hid (wr.heap[w.heap.size]? = some (.cells #[fv f1 c1, fv f2 c2, fv f1 c1, fv f2 c2, .nilFunc, .nilFunc, .nilFunc, .nilFunc] 86 (0, 0)))) ∨ (i = .int .i64 4 ∧ Hid (wr.heap[w.heap.size]? = some (.cells #[fv f1 c1, fv f2 c2, fv f1 c1, fv f2 c2, fv f1 c1, fv f2 c2, fv f1 c1, fv f2 c2] 86 (0, 0)))))) (fun i _ => 4 - (intOf i).toNat)
  case atStart => exact ⟨B1.out, .inl ⟨rfl, R1.out⟩⟩
  case round =>
    obtain ⟨HB, hr⟩ := hrel
    rcases hr with ⟨rfl, HR⟩ | ⟨rfl, HR⟩ | ⟨rfl, HR⟩
    · obtain ⟨W2, hW2⟩ : ∃ W2, W2 = wr.drew.setRow w.heap.size #[fv f1 c1, fv f2 c2, fv f1 c1, fv f2 c2, .nilFunc, .nilFunc, .nilFunc, .nilFunc] := ⟨_, rfl⟩
      have hcq : (Builtin.copy_ #[190, 190] 3 #[.slice (some ⟨w.heap.size, 2, none⟩) 3 3, .slice (some ⟨w.heap.size, 0, none⟩) 1 4]).run Tryz.prog wr.drew = .ok (.int .i64 1) W2 := by
        rw [hW2]
        exact run_copy2 wr.drew 3 w.heap.size 2 3 3 ⟨w.heap.size, 0, none⟩ 1 4 1 _ _ [fv f1 c1, fv f2 c2] HR.out rfl rfl (fun j v hj => blk_row (w := wr.drew) (g := w.heap.size) (T := 86) (cs := [fv f1 c1, fv f2 c2] ++ [Value.nilFunc, Value.nilFunc, Value.nilFunc, Value.nilFunc, Value.nilFunc, Value.nilFunc]) HR.out j v (by rw [List.getElem?_append_left (List.getElem?_eq_some_iff.1 hj).1]; exact hj)) (by simp) (by intro v hv; simp only [List.mem_cons, List.not_mem_nil, or_false] at hv; rcases hv with rfl | rfl <;> rfl)
      have B2 : Hid (Below w.heap.size w W2) := by show Below _ _ _; rw [hW2]; exact below_setRow HB.out.drew (Nat.le_refl _) _
      have R2 : Hid (W2.heap[w.heap.size]? = some (.cells #[fv f1 c1, fv f2 c2, fv f1 c1, fv f2 c2, .nilFunc, .nilFunc, .nilFunc, .nilFunc] 86 (0, 0))) := by show _ = _; rw [hW2]; exact setRow_blk (w := wr.drew) HR.out
      clear hW2
      go_wp2_with fail
      go_region
      all_goals
        go_wp2_with fail
        go_roundw
        case rel => exact ⟨B2.out, .inr (.inl ⟨rfl, R2.out⟩)⟩
        case measure => simp [intOf]
    · obtain ⟨W2, hW2⟩ : ∃ W2, W2 = wr.drew.setRow w.heap.size #[fv f1 c1, fv f2 c2, fv f1 c1, fv f2 c2, fv f1 c1, fv f2 c2, fv f1 c1, fv f2 c2] := ⟨_, rfl⟩
      have hcq : (Builtin.copy_ #[190, 190] 3 #[.slice (some ⟨w.heap.size, 4, none⟩) 2 2, .slice (some ⟨w.heap.size, 0, none⟩) 2 4]).run Tryz.prog wr.drew = .ok (.int .i64 2) W2 := by
        rw [hW2]
        exact run_copy2 wr.drew 3 w.heap.size 4 2 2 ⟨w.heap.size, 0, none⟩ 2 4 2 _ _ [fv f1 c1, fv f2 c2, fv f1 c1, fv f2 c2] HR.out rfl rfl (fun j v hj => blk_row (w := wr.drew) (g := w.heap.size) (T := 86) (cs := [fv f1 c1, fv f2 c2, fv f1 c1, fv f2 c2] ++ [Value.nilFunc, Value.nilFunc, Value.nilFunc, Value.nilFunc]) HR.out j v (by rw [List.getElem?_append_left (List.getElem?_eq_some_iff.1 hj).1]; exact hj)) (by simp) (by intro v hv; simp only [List.mem_cons, List.not_mem_nil, or_false] at hv; rcases hv with rfl | rfl | rfl | rfl <;> rfl)
      have B2 : Hid (Below w.heap.size w W2) := by show Below _ _ _; rw [hW2]; exact below_setRow HB.out.drew (Nat.le_refl _) _
      have R2 : Hid (W2.heap[w.heap.size]? = some (.cells #[fv f1 c1, fv f2 c2, fv f1 c1, fv f2 c2, fv f1 c1, fv f2 c2, fv f1 c1, fv f2 c2] 86 (0, 0))) := by show _ = _; rw [hW2]; exact setRow_blk (w := wr.drew) HR.out
      clear hW2
      go_wp2_with fail
      go_region
      all_goals
        go_wp2_with fail
        go_roundw
        case rel => exact ⟨B2.out, .inr (.inr (⟨rfl, R2.out⟩))⟩
        case measure => simp [intOf]
    · go_wp2_with fail
      go_ret
      exact rep_end (by decide) HR.out HB.out

set_option maxRecDepth 100000 in
set_option maxHeartbeats 1000000 in
theorem rep_5 (g : Nat) (f1 f2 : FuncId) (c1 c2 : Array Value) (w : World) (h : w.heap[g]? = some (.cells #[fv f1 c1, fv f2 c2] 86 (0, 0))) :
    Calls Tryz.prog 163 #[.slice (some ⟨g, 0, none⟩) 1 1, .int .i64 5] w (RepPost (fv f1 c1) (fv f2 c2) 5 w) := by
  have hlt : g < w.heap.size := (Array.getElem?_eq_some_iff.1 h).1
  obtain ⟨W, hW⟩ : ∃ W, W = w.alloc (.cells (madeCells #[.nilFunc, .nilFunc] (5 * 2)) 86) := ⟨_, rfl⟩
  have hmk : (Instr.makeSlice 190 (.int .i64 5) (.int .i64 5)).run Tryz.prog w = .ok (.slice (some ⟨w.heap.size, 0, none⟩) 5 5) W := by rw [hW]; exact make_pks 5 (by decide) w
  have hbw : Below w.heap.size w W := by rw [hW]; exact below_alloc _ _
  have h0 : W.heap[w.heap.size]? = some (.cells #[.nilFunc, .nilFunc, .nilFunc, .nilFunc, .nilFunc, .nilFunc, .nilFunc, .nilFunc, .nilFunc, .nilFunc] 86 (0, 0)) := by rw [hW, made_nil 5 (by decide)]; exact Go.Deep.blk_alloc_new _ _
  have hs : W.heap[g]? = some (.cells [fv f1 c1, fv f2 c2].toArray 86 (0, 0)) := blk_below h hbw hlt
  have BW := Lib.hid hbw
  have H0 := Lib.hid h0
  obtain ⟨W1, hW1⟩ : ∃ W1, W1 = W.setRow w.heap.size #[fv f1 c1, fv f2 c2, .nilFunc, .nilFunc, .nilFunc, .nilFunc, .nilFunc, .nilFunc, .nilFunc, .nilFunc] := ⟨_, rfl⟩
  have hcp : (Builtin.copy_ #[190, 190] 3 #[.slice (some ⟨w.heap.size, 0, none⟩) 5 5, .slice (some ⟨g, 0, none⟩) 1 1]).run Tryz.prog W = .ok (.int .i64 1) W1 := by
    rw [hW1]
    exact run_copy2 W 3 w.heap.size 0 5 5 ⟨g, 0, none⟩ 1 1 1 _ _ [fv f1 c1, fv f2 c2] h0 rfl rfl (blk_row hs) (by simp) (by intro v hv; simp only [List.mem_cons, List.not_mem_nil, or_false] at hv; rcases hv with rfl | rfl <;> rfl)
  have B1 : Hid (Below w.heap.size w W1) := by show Below _ _ _; rw [hW1]; exact below_setRow hbw (Nat.le_refl _) _
  have R1 : Hid (W1.heap[w.heap.size]? = some (.cells #[fv f1 c1, fv f2 c2, .nilFunc, .nilFunc, .nilFunc, .nilFunc, .nilFunc, .nilFunc, .nilFunc, .nilFunc] 86 (0, 0))) := by show _ = _; rw [hW1]; exact setRow_blk h0
  clear h hbw h0 hs hW hW1
  go_enter Tryz.func163, Tryz.ntmps163
  go_wp2_with fail
  refine (mul_one 5 (by decide) w).mono ?_
  rintro e w' ⟨rfl, rfl⟩
  go_wp2_with fail
  go_loopw [8] (fun i wr => Hid (Below w.heap.size w wr) ∧ ((i = .int .i64 1 ∧ Hid (wr.heap[w.heap.size]? = some (.cells #[fv f1 c1, fv f2 c2, .nilFunc, .nilFunc, .nilFunc, .nilFunc, .nilFunc, .nilFunc, .nilFunc, .nilFunc] 86 (0, 0)))) ∨ (i = .int .i64 2 ∧ Hid (wr.heap[w.heap.size]? = some (.cells #[fv f1 c1, fv f2 c2, fv f1 c1, fv f2 c2, .nilFunc, .nilFunc, .nilFunc, .nilFunc, .nilFunc, .nilFunc] 86 (0, 0)))) ∨ (i = .int .i64 4 ∧ Hid (wr.heap[w.heap.size]? = some (.cells #[fv f1 c1, fv f2 c2, fv f1 c1, fv f2 c2, fv f1 c1, fv f2 c2, fv f1 c1, fv f2 c2, .nilFunc, .nilFunc] 86 (0, 0)))) ∨ (i = .int .i64 5 ∧ Hid (wr.heap[w.heap.size]? = some (.cells #[fv f1 c1, fv f2 c2, fv f1 c1, fv f2 c2, fv f1 c1, fv f2 c2, fv f1 c1, fv f2 c2, fv f1 c1, fv f2 c2] 86 (0, 0)))))) (fun i _ => 5 - (intOf i).toNat)
  case atStart => exact ⟨B1.out, .inl ⟨rfl, R1.out⟩⟩
  case round =>
    obtain ⟨HB, hr⟩ := hrel
    rcases hr with ⟨rfl, HR⟩ | ⟨rfl, HR⟩ | ⟨rfl, HR⟩ | ⟨rfl, HR⟩
    · obtain ⟨W2, hW2⟩ : ∃ W2, W2 = wr.drew.setRow w.heap.size #[fv f1 c1, fv f2 c2, fv f1 c1, fv f2 c2, .nilFunc, .nilFunc, .nilFunc, .nilFunc, .nilFunc, .nilFunc] := ⟨_, rfl⟩
      have hcq : (Builtin.copy_ #[190, 190] 3 #[.slice (some ⟨w.heap.size, 2, none⟩) 4 4, .slice (some ⟨w.heap.size, 0, none⟩) 1 5]).run Tryz.prog wr.drew = .ok (.int .i64 1) W2 := by
        rw [hW2]
        exact run_copy2 wr.drew 3 w.heap.size 2 4 4 ⟨w.heap.size, 0, none⟩ 1 5 1 _ _ [fv f1 c1, fv f2 c2] HR.out rfl rfl (fun j v hj => blk_row (w := wr.drew) (g := w.heap.size) (T := 86) (cs := [fv f1 c1, fv f2 c2] ++ [Value.nilFunc, Value.nilFunc, Value.nilFunc, Value.nilFunc, Value.nilFunc, Value.nilFunc, Value.nilFunc, Value.nilFunc]) HR.out j v (by rw [List.getElem?_append_left (List.getElem?_eq_some_iff.1 hj).1]; exact hj)) (by simp) (by intro v hv; simp only [List.mem_cons, List.not_mem_nil, or_false] at hv; rcases hv with rfl | rfl <;> rfl)
      have B2 : Hid (Below w.heap.size w W2) := by show Below _ _ _; rw [hW2]; exact below_setRow HB.out.drew (Nat.le_refl _) _
      have R2 : Hid (W2.heap[w.heap.size]? = some (.cells #[fv f1 c1, fv f2 c2, fv f1 c1, fv f2 c2, .nilFunc, .nilFunc, .nilFunc, .nilFunc, .nilFunc, .nilFunc] 86 (0, 0))) := by show _ = _; rw [hW2]; exact setRow_blk (w := wr.drew) HR.out
      clear hW2
      go_wp2_with fail
      go_region
      all_goals
        go_wp2_with fail
        go_roundw
        case rel => exact ⟨B2.out, .inr (.inl ⟨rfl, R2.out⟩)⟩
        case measure => simp [intOf]
    · obtain ⟨W2, hW2⟩ : ∃ W2, W2 = wr.drew.setRow w.heap.size #[fv f1 c1, fv f2 c2, fv f1 c1, fv f2 c2, fv f1 c1, fv f2 c2, fv f1 c1, fv f2 c2, .nilFunc, .nilFunc] := ⟨_, rfl⟩
      have hcq : (Builtin.copy_ #[190, 190] 3 #[.slice (some ⟨w.heap.size, 4, none⟩) 3 3, .slice (some ⟨w.heap.size, 0, none⟩) 2 5]).run Tryz.prog wr.drew = .ok (.int .i64 2) W2 := by
        rw [hW2]
        exact run_copy2 wr.drew 3 w.heap.size 4 3 3 ⟨w.heap.size, 0, none⟩ 2 5 2 _ _ [fv f1 c1, fv f2 c2, fv f1 c1, fv f2 c2] HR.out rfl rfl (fun j v hj => blk_row (w := wr.drew) (g := w.heap.size) (T := 86) (cs := [fv f1 c1, fv f2 c2, fv f1 c1, fv f2 c2] ++ [Value.nilFunc, Value.nilFunc, Value.nilFunc, Value.nilFunc, Value.nilFunc, Value.nilFunc]) HR.out j v (by rw [List.getElem?_append_left (List.getElem?_eq_some_iff.1 hj).1]; exact hj)) (by simp) (by intro v hv; simp only [List.mem_cons, List.not_mem_nil, or_false] at hv; rcases hv with rfl | rfl | rfl | rfl <;> rfl)
      have B2 : Hid (Below w.heap.size w W2) := by show Below _ _ _; rw [hW2]; exact below_setRow HB.out.drew (Nat.le_refl _) _
      have R2 : Hid (W2.heap[w.heap.size]? = some (.cells #[fv f1 c1, fv f2 c2, fv f1 c1, fv f2 c2, fv f1 c1, fv f2 c2, fv f1 c1, fv f2 c2, .nilFunc, .nilFunc] 86 (0, 0))) := by show _ = _; rw [hW2]; exact setRow_blk (w := wr.drew) HR.out
      clear hW2
      go_wp2_with fail
      go_region
      all_goals
        go_wp2_with fail
        go_roundw
        case rel => exact ⟨B2.out, .inr (.inr (.inl ⟨rfl, R2.out⟩))⟩
        case measure => simp [intOf]
    · obtain ⟨W2, hW2⟩ : ∃ W2, W2 = wr.drew.setRow w.heap.size #[fv f1 c1, fv f2 c2, fv f1 c1, fv f2 c2, fv f1 c1, fv f2 c2, fv f1 c1, fv f2 c2, fv f1 c1, fv f2 c2] := ⟨_, rfl⟩
      have hcq : (Builtin.copy_ #[190, 190] 3 #[.slice (some ⟨w.heap.size, 8, none⟩) 1 1, .slice (some ⟨w.heap.size, 0, none⟩) 4 5]).run Tryz.prog wr.drew = .ok (.int .i64 1) W2 := by
        rw [hW2]
        exact run_copy2 wr.drew 3 w.heap.size 8 1 1 ⟨w.heap.size, 0, none⟩ 4 5 1 _ _ [fv f1 c1, fv f2 c2] HR.out rfl rfl (fun j v hj => blk_row (w := wr.drew) (g := w.heap.size) (T := 86) (cs := [fv f1 c1, fv f2 c2] ++ [fv f1 c1, fv f2 c2, fv f1 c1, fv f2 c2, fv f1 c1, fv f2 c2, Value.nilFunc, Value.nilFunc]) HR.out j v (by rw [List.getElem?_append_left (List.getElem?_eq_some_iff.1 hj).1]; exact hj)) (by simp) (by intro v hv; simp only [List.mem_cons, List.not_mem_nil, or_false] at hv; rcases hv with rfl | rfl <;> rfl)
      have B2 : Hid (Below w.heap.size w W2) := by show Below _ _ _; rw [hW2]; exact below_setRow HB.out.drew (Nat.le_refl _) _
      have R2 : Hid (W2.heap[w.heap.size]? = some (.cells #[fv f1 c1, fv f2 c2, fv f1 c1, fv f2 c2, fv f1 c1, fv f2 c2, fv f1 c1, fv f2 c2, fv f1 c1, fv f2 c2] 86 (0, 0))) := by show _ = _; rw [hW2]; exact setRow_blk (w := wr.drew) HR.out
      clear hW2
      go_wp2_with fail
      go_region
      all_goals
        go_wp2_with fail
        go_roundw
        case rel => exact ⟨B2.out, .inr (.inr (.inr (⟨rfl, R2.out⟩)))⟩
        case measure => simp [intOf]
    · go_wp2_with fail
      go_ret
      exact rep_end (by decide) HR.out HB.out

set_option maxRecDepth 100000 in
set_option maxHeartbeats 1000000 in
theorem rep_6 (g : Nat) (f1 f2 : FuncId) (c1 c2 : Array Value) (w : World) (h : w.heap[g]? = some (.cells #[fv f1 c1, fv f2 c2] 86 (0, 0))) :
    Calls Tryz.prog 163 #[.slice (some ⟨g, 0, none⟩) 1 1, .int .i64 6] w (RepPost (fv f1 c1) (fv f2 c2) 6 w) := by
  have hlt : g < w.heap.size := (Array.getElem?_eq_some_iff.1 h).1
  obtain ⟨W, hW⟩ : ∃ W, W = w.alloc (.cells (madeCells #[.nilFunc, .nilFunc] (6 * 2)) 86) := ⟨_, rfl⟩
  have hmk : (Instr.makeSlice 190 (.int .i64 6) (.int .i64 6)).run Tryz.prog w = .ok (.slice (some ⟨w.heap.size, 0, none⟩) 6 6) W := by rw [hW]; exact make_pks 6 (by decide) w
  have hbw : Below w.heap.size w W := by rw [hW]; exact below_alloc _ _
  have h0 : W.heap[w.heap.size]? = some (.cells #[.nilFunc, .nilFunc, .nilFunc, .nilFunc, .nilFunc, .nilFunc, .nilFunc, .nilFunc, .nilFunc, .nilFunc, .nilFunc, .nilFunc] 86 (0, 0)) := by rw [hW, made_nil 6 (by decide)]; exact Go.Deep.blk_alloc_new _ _
  have hs : W.heap[g]? = some (.cells [fv f1 c1, fv f2 c2].toArray 86 (0, 0)) := blk_below h hbw hlt
  have BW := Lib.hid hbw
  have H0 := Lib.hid h0
  obtain ⟨W1, hW1⟩ : ∃ W1, W1 = W.setRow w.heap.size #[fv f1 c1, fv f2 c2, .nilFunc, .nilFunc, .nilFunc, .nilFunc, .nilFunc, .nilFunc, .nilFunc, .nilFunc, .nilFunc, .nilFunc] := ⟨_, rfl⟩
  have hcp : (Builtin.copy_ #[190, 190] 3 #[.slice (some ⟨w.heap.size, 0, none⟩) 6 6, .slice (some ⟨g, 0, none⟩) 1 1]).run Tryz.prog W = .ok (.int .i64 1) W1 := by
    rw [hW1]
    exact run_copy2 W 3 w.heap.size 0 6 6 ⟨g, 0, none⟩ 1 1 1 _ _ [fv f1 c1, fv f2 c2] h0 rfl rfl (blk_row hs) (by simp) (by intro v hv; simp only [List.mem_cons, List.not_mem_nil, or_false] at hv; rcases hv with rfl | rfl <;> rfl)
  have B1 : Hid (Below w.heap.size w W1) := by show Below _ _ _; rw [hW1]; exact below_setRow hbw (Nat.le_refl _) _
  have R1 : Hid (W1.heap[w.heap.size]? = some (.cells #[fv f1 c1, fv f2 c2, .nilFunc, .nilFunc, .nilFunc, .nilFunc, .nilFunc, .nilFunc, .nilFunc, .nilFunc, .nilFunc, .nilFunc] 86 (0, 0))) := by show _ = _; rw [hW1]; exact setRow_blk h0
  clear h hbw h0 hs hW hW1
  go_enter Tryz.func163, Tryz.ntmps163
  go_wp2_with fail
  refine (mul_one 6 (by decide) w).mono ?_
  rintro e w' ⟨rfl, rfl⟩
  go_wp2_with fail
  go_loopw [8] (fun i wr => Hid (Below w.heap.size w wr) ∧ ((i = .int .i64 1 ∧ Hid (wr.heap[w.heap.size]? = some (.cells #[fv f1 c1, fv f2 c2, .nilFunc, .nilFunc, .nilFunc, .nilFunc, .nilFunc, .nilFunc, .nilFunc, .nilFunc, .nilFunc, .nilFunc] 86 (0, 0)))) ∨ (i = .int .i64 2 ∧ Hid (wr.heap[w.heap.size]? = some (.cells #[fv f1 c1, fv f2 c2, fv f1 c1, fv f2 c2, .nilFunc, .nilFunc, .nilFunc, .nilFunc, .nilFunc, .nilFunc, .nilFunc, .nilFunc] 86 (0, 0)))) ∨ (i = .int .i64 4 ∧ Hid (wr.heap[w.heap.size]? = some (.cells #[fv f1 c1, fv f2 c2, fv f1 c1, fv f2 c2, fv f1 c1, fv f2 c2, fv f1 c1, fv f2 c2, .nilFunc, .nilFunc, .nilFunc, .nilFunc] 86 (0, 0)))) ∨ (i = .int .i64 6 ∧ Hid (wr.heap[w.heap.size]? = some (.cells #[fv f1 c1, fv f2 c2, fv f1 c1, fv f2 c2, fv f1 c1, fv f2 c2, fv f1 c1, fv f2 c2, fv f1 c1, fv f2 c2, fv f1 c1, fv f2 c2] 86 (0, 0)))))) (fun i _ => 6 - (intOf i).toNat)
  case atStart => exact ⟨B1.out, .inl ⟨rfl, R1.out⟩⟩
  case round =>
    obtain ⟨HB, hr⟩ := hrel
    rcases hr with ⟨rfl, HR⟩ | ⟨rfl, HR⟩ | ⟨rfl, HR⟩ | ⟨rfl, HR⟩
    · obtain ⟨W2, hW2⟩ : ∃ W2, W2 = wr.drew.setRow w.heap.size #[fv f1 c1, fv f2 c2, fv f1 c1, fv f2 c2, .nilFunc, .nilFunc, .nilFunc, .nilFunc, .nilFunc, .nilFunc, .nilFunc, .nilFunc] := ⟨_, rfl⟩
      have hcq : (Builtin.copy_ #[190, 190] 3 #[.slice (some ⟨w.heap.size, 2, none⟩) 5 5, .slice (some ⟨w.heap.size, 0, none⟩) 1 6]).run Tryz.prog wr.drew = .ok (.int .i64 1) W2 := by
        rw [hW2]
        exact run_copy2 wr.drew 3 w.heap.size 2 5 5 ⟨w.heap.size, 0, none⟩ 1 6 1 _ _ [fv f1 c1, fv f2 c2] HR.out rfl rfl (fun j v hj => blk_row (w := wr.drew) (g := w.heap.size) (T := 86) (cs := [fv f1 c1, fv f2 c2] ++ [Value.nilFunc, Value.nilFunc, Value.nilFunc, Value.nilFunc, Value.nilFunc, Value.nilFunc, Value.nilFunc, Value.nilFunc, Value.nilFunc, Value.nilFunc]) HR.out j v (by rw [List.getElem?_append_left (List.getElem?_eq_some_iff.1 hj).1]; exact hj)) (by simp) (by intro v hv; simp only [List.mem_cons, List.not_mem_nil, or_false] at hv; rcases hv with rfl | rfl <;> rfl)
      have B2 : Hid (Below w.heap.size w W2) := by show Below _ _ _; rw [hW2]; exact below_setRow HB.out.drew (Nat.le_refl _) _
      have R2 : Hid (W2.heap[w.heap.size]? = some (.cells #[fv f1 c1, fv f2 c2, fv f1 c1, fv f2 c2, .nilFunc, .nilFunc, .nilFunc, .nilFunc, .nilFunc, .nilFunc, .nilFunc, .nilFunc] 86 (0, 0))) := by show _ = _; rw [hW2]; exact setRow_blk (w := wr.drew) HR.out
      clear hW2
      go_wp2_with fail
      go_region
      all_goals
        go_wp2_with fail
        go_roundw
        case rel => exact ⟨B2.out, .inr (.inl ⟨rfl, R2.out⟩)⟩
        case measure => simp [intOf]
    · obtain ⟨W2, hW2⟩ : ∃ W2, W2 = wr.drew.setRow w.heap.size #[fv f1 c1, fv f2 c2, fv f1 c1, fv f2 c2, fv f1 c1, fv f2 c2, fv f1 c1, fv f2 c2, .nilFunc, .nilFunc, .nilFunc, .nilFunc] := ⟨_, rfl⟩
      have hcq : (Builtin.copy_ #[190, 190] 3 #[.slice (some ⟨w.heap.size, 4, none⟩) 4 4, .slice (some ⟨w.heap.size, 0, none⟩) 2 6]).run Tryz.prog wr.drew = .ok (.int .i64 2) W2 := by
        rw [hW2]
        exact run_copy2 wr.drew 3 w.heap.size 4 4 4 ⟨w.heap.size, 0, none⟩ 2 6 2 _ _ [fv f1 c1, fv f2 c2, fv f1 c1, fv f2 c2] HR.out rfl rfl (fun j v hj => blk_row (w := wr.drew) (g := w.heap.size) (T := 86) (cs := [fv f1 c1, fv f2 c2, fv f1 c1, fv f2 c2] ++ [Value.nilFunc, Value.nilFunc, Value.nilFunc, Value.nilFunc, Value.nilFunc, Value.nilFunc, Value.nilFunc, Value.nilFunc]) HR.out j v (by rw [List.getElem?_append_left (List.getElem?_eq_some_iff.1 hj).1]; exact hj)) (by simp) (by intro v hv; simp only [List.mem_cons, List.not_mem_nil, or_false] at hv; rcases hv with rfl | rfl | rfl | rfl <;> rfl)
      have B2 : Hid (Below w.heap.size w W2) := by show Below _ _ _; rw [hW2]; exact below_setRow HB.out.drew (Nat.le_refl _) _
      have R2 : Hid (W2.heap[w.heap.size]? = some (.cells #[fv f1 c1, fv f2 c2, fv f1 c1, fv f2 c2, fv f1 c1, fv f2 c2, fv f1 c1, fv f2 c2, .nilFunc, .nilFunc, .nilFunc, .nilFunc] 86 (0, 0))) := by show _ = _; rw [hW2]; exact setRow_blk (w := wr.drew) HR.out
      clear hW2
      go_wp2_with fail
      go_region
      all_goals
        go_wp2_with fail
        go_roundw
        case rel => exact ⟨B2.out, .inr (.inr (.inl ⟨rfl, R2.out⟩))⟩
        case measure => simp [intOf]
    · obtain ⟨W2, hW2⟩ : ∃ W2, W2 = wr.drew.setRow w.heap.size #[fv f1 c1, fv f2 c2, fv f1 c1, fv f2 c2, fv f1 c1, fv f2 c2, fv f1 c1, fv f2 c2, fv f1 c1, fv f2 c2, fv f1 c1, fv f2 c2] := ⟨_, rfl⟩
      have hcq : (Builtin.copy_ #[190, 190] 3 #[.slice (some ⟨w.heap.size, 8, none⟩) 2 2, .slice (some ⟨w.heap.size, 0, none⟩) 4 6]).run Tryz.prog wr.drew = .ok (.int .i64 2) W2 := by
        rw [hW2]
        exact run_copy2 wr.drew 3 w.heap.size 8 2 2 ⟨w.heap.size, 0, none⟩ 4 6 2 _ _ [fv f1 c1, fv f2 c2, fv f1 c1, fv f2 c2] HR.out rfl rfl (fun j v hj => blk_row (w := wr.drew) (g := w.heap.size) (T := 86) (cs := [fv f1 c1, fv f2 c2, fv f1 c1, fv f2 c2] ++ [fv f1 c1, fv f2 c2, fv f1 c1, fv f2 c2, Value.nilFunc, Value.nilFunc, Value.nilFunc, Value.nilFunc]) HR.out j v (by rw [List.getElem?_append_left (List.getElem?_eq_some_iff.1 hj).1]; exact hj)) (by simp) (by intro v hv; simp only [List.mem_cons, List.not_mem_nil, or_false] at hv; rcases hv with rfl | rfl | rfl | rfl <;> rfl)
      have B2 : Hid (Below w.heap.size w W2) := by show Below _ _ _; rw [hW2]; exact below_setRow HB.out.drew (Nat.le_refl _) _
      have R2 : Hid (W2.heap[w.heap.size]? = some (.cells #[fv f1 c1, fv f2 c2, fv f1 c1, fv f2 c2, fv f1 c1, fv f2 c2, fv f1 c1, fv f2 c2, fv f1 c1, fv f2 c2, fv f1 c1, fv f2 c2] 86 (0, 0))) := by show _ = _; rw [hW2]; exact setRow_blk (w := wr.drew) HR.out
      clear hW2
      go_wp2_with fail
      go_region
      all_goals
        go_wp2_with fail
        go_roundw
        case rel => exact ⟨B2.out, .inr (.inr (.inr (⟨rfl, R2.out⟩)))⟩
        case measure => simp [intOf]
    · go_wp2_with fail
      go_ret
      exact rep_end (by decide) HR.out HB.out

theorem repeat_any (g : Nat) (f1 f2 : FuncId) (c1 c2 : Array Value) (n : Nat) (hn : n ≤ 6) (w : World) (h : w.heap[g]? = some (.cells #[fv f1 c1, fv f2 c2] 86 (0, 0))) :
    Calls Tryz.prog 163 #[.slice (some ⟨g, 0, none⟩) 1 1, .int .i64 n] w (RepPost (fv f1 c1) (fv f2 c2) n w) := by
  match n, hn with
  | 0, _ => exact rep_0 g f1 f2 c1 c2 w h
  | 1, _ => exact rep_1 g f1 f2 c1 c2 w h
  | 2, _ => exact rep_2 g f1 f2 c1 c2 w h
  | 3, _ => exact rep_3 g f1 f2 c1 c2 w h
  | 4, _ => exact rep_4 g f1 f2 c1 c2 w h
  | 5, _ => exact rep_5 g f1 f2 c1 c2 w h
  | 6, _ => exact rep_6 g f1 f2 c1 c2 w h
end Go.Proofs.YtbpidhlpakobiaaGreatDoor
namespace Go.Proofs.YtbpidhlpakobiaaGreatDoor
open Go.RowKit

theorem row_caps {w : World} {B T sz n cap : Nat} {aa : Option Addr} {xs : List Value} (h : w.ownsRow B T sz (.slice aa n cap) n xs) : n ≤ cap ∧ cap ≤ 9223372036854775807 := by
  rcases h.2 with ⟨hv, h0⟩ | ⟨g', cap', cur, hv, hb, hg, hn, hc, _⟩
  · cases hv; exact ⟨Nat.le_refl _, by decide⟩
  · cases hv
    unfold maxLen at hc
    exact ⟨hn, by omega⟩
theorem row_cells {w : World} {B T sz n cap : Nat} {aa : Option Addr} {xs : List Value} (h : w.ownsRow B T sz (.slice aa n cap) n xs) (h0 : 0 < n) : ∃ g, aa = some ⟨g, 0, none⟩ ∧ B ≤ g ∧ ∀ j c, xs[j]? = some c → w.cell? ⟨g, j, none⟩ = some c := by
  obtain ⟨hl, hh⟩ := h
  rcases hh with ⟨hv, hz⟩ | ⟨g, cap', cur, hv, hb, hg, hn, hc, hsz, ht⟩
  · omega
  · cases hv
    refine ⟨g, rfl, hb, fun j c hj => ?_⟩
    have hlt : j < xs.length := (List.getElem?_eq_some_iff.1 hj).1
    have e : (cur.toList.take (n * sz))[j]? = cur.toList[j]? := List.getElem?_take_of_lt (by omega)
    rw [ht, hj] at e
    simp [World.cell?, hg, ← Array.getElem?_toList, ← e]
theorem UnW.move {bs : ByteArray} {rb : Nat} {w w' : World} {s : Sh} {c : Value} (h : UnW bs rb w s c) (hs : Stab (fun g => g = rb) w w') : UnW bs rb w' s c := by
  obtain ⟨F, caps, h1, h2, h3⟩ := h
  exact ⟨F, caps, h1, h2, fun w2 p k => h3 w2 p (hs.trans k)⟩
theorem pairsOf_at (a b : Value) : ∀ (n i : Nat), i < n → (pairsOf a b n)[i * 2]? = some a ∧ (pairsOf a b n)[i * 2 + 1]? = some b
  | 0, _, h => by omega
  | n + 1, 0, _ => ⟨rfl, rfl⟩
  | n + 1, i + 1, h => by
    have ih := pairsOf_at a b n i (by omega)
    have e : (i + 1) * 2 = i * 2 + 2 := by omega
    simp only [pairsOf]
    rw [e]
    exact ⟨by simpa using ih.1, by simpa using ih.2⟩
/-- A Val of the Items of a row. -/
theorem own_items {W w : World} {B rb : Nat} {its : List Va} {q : Option Addr} {m : Nat} {cs : List Value} {F : List Nat} {k : Int} (h : Rows4 W w rb its q its.length m cs F) (hk : InI64' k) (hB : B ≤ W.heap.size) : OwnVa w B (.mk k 0 ⟨#[]⟩ its) (.agg #[.int .i64 k, .int .i64 0, .string ⟨#[]⟩, .slice q its.length m]) (blkOf (.slice q its.length m) ++ F) := by
  simp only [OwnVa]
  exact ⟨_, cs, F, rfl, hk, by unfold InI64'; omega, by decide, own_mono h.row hB, h.own.move hB fun _ _ => rfl, rfl⟩

set_option maxRecDepth 100000 in
set_option maxHeartbeats 2000000 in
theorem unCount_any (bs : ByteArray) (p k most : Int) (rb bm bo bk : Nat) (y : Sh) (f1 f2 : FuncId) (c1 c2 : Array Value) (w : World) (hs : bs.size ≤ 8000) (hki : InI64' k) (h : RdAt w rb bs p) (hm : w.cell? ⟨bm, 0, none⟩ = some (.int .i64 most))
    (ho0 : w.cell? ⟨bo, 0, none⟩ = some (fv f1 c1)) (ho1 : w.cell? ⟨bo, 1, none⟩ = some (fv f2 c2)) (hk : w.cell? ⟨bk, 0, none⟩ = some (.int .i64 k)) (hno : bo ≠ rb) (hne : bk ≠ rb) (hmo : most ≤ 6) (hU : UnW bs rb w y (fv f2 c2)) :
    Calls Tryz.prog 161 #[.pointer (some ⟨rb, 0, none⟩), .pointer (some ⟨bm, 0, none⟩), .pointer (some ⟨bo, 0, none⟩), .pointer (some ⟨bk, 0, none⟩)] w
      (UPost bs rb w (if (readN bs p most).2.2 ≠ 0 then (zeroVa, 0, (readN bs p most).2.2) else itemsU k (seqU (List.replicate (readN bs p most).1.toNat (unB bs y)) (readN bs p most).2.1))) := by
  obtain ⟨⟨n, q, c⟩, hR⟩ : ∃ R : Int × Int × Int, readN bs p most = R := ⟨_, rfl⟩
  have hpl := readN_place (bs := bs) (p := p) (most := most)
  rw [hR] at hpl ⊢
  simp only at hpl
  obtain ⟨r, hr⟩ : ∃ r : UnR, (if (n, q, c).2.2 ≠ 0 then (zeroVa, 0, (n, q, c).2.2) else itemsU k (seqU (List.replicate (n, q, c).1.toNat (unB bs y)) (n, q, c).2.1)) = r := ⟨_, rfl⟩
  rw [hr]
  have HRr : Hid ((if c ≠ 0 then (zeroVa, (0 : Int), c) else itemsU k (seqU (List.replicate n.toNat (unB bs y)) q)) = r) := hr
  have HR := Lib.hid hR
  have HP := Lib.hid hpl
  have HH := Lib.hid h
  have HK := Lib.hid hk
  have HO0 := Lib.hid ho0
  have HO1 := Lib.hid ho1
  have HU := Lib.hid hU
  have hmb := World.block_lt_of_cell? w ⟨bm, 0, none⟩ hm
  obtain ⟨W, hW⟩ : ∃ W, W = w.alloc (.cells #[.int .i64 0, .int .i64 0, .string ⟨#[]⟩, .slice none 0 0] 29) := ⟨_, rfl⟩
  have hbw : Below w.heap.size w W := by rw [hW]; exact below_alloc _ _
  have BW := Lib.hid hbw
  have N1 : Hid (W.heap[w.heap.size]? = some (.cells #[.int .i64 0, .int .i64 0, .string ⟨#[]⟩, .slice none 0 0] 29 (0, 0))) := by show _ = _; rw [hW]; exact Go.Deep.blk_alloc_new _ _
  have R1 : Hid (RdAt W rb bs p) := blk_below h hbw (Array.getElem?_eq_some_iff.1 h).1
  have hrz : rb < w.heap.size := (Array.getElem?_eq_some_iff.1 h).1
  have HW := Lib.hid hW
  clear hR hpl h hk hbw hW hr ho0 ho1 hU
  go_enter Tryz.func161, Tryz.ntmps161
  go_wp2_with fail
  rw [← HW.out]
  refine (rdNum_any bs p most rb W hs R1.out _ HR.out).mono ?_
  rintro e w1 ⟨rfl, hrd, ho⟩
  have O1 := Lib.hid ((Only.of_below (F := [rb]) BW.out).trans ho)
  have N2 := Lib.hid ((ho.block w.heap.size (Array.getElem?_eq_some_iff.1 N1.out).1 (by simp; omega)).trans N1.out)
  have hz1 : w.heap.size < w1.heap.size := (Array.getElem?_eq_some_iff.1 N2.out).1
  by_cases hc : c = 0
  · subst hc
    simp only [errV_ok]
    have HD := Lib.hid (hrd rfl)
    obtain ⟨⟨p0, p1⟩, _⟩ := HP.out rfl
    obtain ⟨j, rfl⟩ := Int.eq_ofNat_of_zero_le p0
    have hj6 : j ≤ 6 := by omega
    have HRs : Hid (itemsU k (seqU ((List.replicate j y).map (unB bs)) q) = r) := by
      have := HRr.out
      rw [if_neg (fun h => h rfl)] at this
      rw [List.map_replicate]
      exact this
    have k0 := cell_only O1.out HO0.out hno
    have k1 := cell_only O1.out HO1.out hno
    have kz := World.block_lt_of_cell? w1 ⟨bo, 0, none⟩ k0
    obtain ⟨w2, hw2⟩ : ∃ w2, w2 = w1.alloc (.cells #[fv f1 c1, fv f2 c2] 86) := ⟨_, rfl⟩
    have hb2 : Below w1.heap.size w1 w2 := by rw [hw2]; exact below_alloc _ _
    have X2 : Hid (w2.heap[w1.heap.size]? = some (.cells #[fv f1 c1, fv f2 c2] 86 (0, 0))) := by show _ = _; rw [hw2]; exact Go.Deep.blk_alloc_new _ _
    have HW2 := Lib.hid hw2
    have B2 := Lib.hid hb2
    clear hrd ho hw2 hb2
    go_wp2_with fail
    rw [← HW2.out]
    refine (repeat_any w1.heap.size f1 f2 c1 c2 j hj6 w2 X2.out).mono ?_
    rintro e w3 ⟨qa, cc, rfl, hown, hb3⟩
    have B3 := Lib.hid (B2.out.trans (hb3.mono B2.out.size))
    have O3 := Lib.hid (O1.out.trans (Only.of_below (F := [rb]) B3.out))
    have D3 : Hid (RdAt w3 rb bs q) := blk_below HD.out B3.out (Array.getElem?_eq_some_iff.1 HD.out).1
    have U3 := Lib.hid (HU.out.move (Stab.of_only (X := fun g => g = rb) O3.out (by simp)))
    have N3 := Lib.hid (blk_below N2.out B3.out hz1)
    have hz3 : w.heap.size < w3.heap.size := Nat.lt_of_lt_of_le hz1 B3.out.size
    have hz23 : w.heap.size < w2.heap.size := Nat.lt_of_lt_of_le hz1 B2.out.size
    have HC3 := Lib.hid (row_caps hown)
    have HOw := Lib.hid hown
    have HLr : Hid ((List.replicate j y).length = j) := by show _ = _; simp
    have hrow : ∀ i (h : i < (List.replicate j y).length), ∃ (g off : Nat), qa = some ⟨g, off, none⟩ ∧ g ≠ rb ∧ ∃ (f1 : FuncId) (c1 : Array Value) (f2 : FuncId) (c2 : Array Value), w3.cell? ⟨g, off + i * 2, none⟩ = some (.func (.func f1) #[] c1) ∧ w3.cell? ⟨g, off + i * 2 + 1, none⟩ = some (.func (.func f2) #[] c2) ∧ UnW bs rb w3 (List.replicate j y)[i] (.func (.func f2) #[] c2) := fun i hi => by
      rw [HLr.out] at hi
      obtain ⟨g, hga, hgB, hk⟩ := row_cells HOw.out (by omega)
      obtain ⟨e0, e1⟩ := pairsOf_at (fv f1 c1) (fv f2 c2) j i hi
      refine ⟨g, 0, hga, by omega, f1, c1, f2, c2, ?_, ?_, ?_⟩
      · rw [Nat.zero_add]; exact hk _ _ e0
      · rw [Nat.zero_add]; exact hk _ _ e1
      · rw [List.getElem_replicate]; exact U3.out
    have HROW := Lib.hid (row_any bs rb (List.replicate j y) qa cc w3 q (by rw [HLr.out]; exact hj6) (by rw [HLr.out]; exact HC3.out) D3.out hrow)
    rw [HLr.out] at HROW
    obtain ⟨s, hsq⟩ : ∃ s, seqU ((List.replicate j y).map (unB bs)) q = s := ⟨_, rfl⟩
    rw [hsq] at HROW HRs
    clear hown hb3 hrow hsq k0 k1
    go_wp2_with fail
    refine HROW.out.mono ?_
    rintro e w4 ⟨q4, l4, m4, cs4, F4, rfl, hok, ho4⟩
    have O4 := Lib.hid (O3.out.trans ho4)
    obtain ⟨a0, a1, a2, a3, _, _, _, _, az⟩ := blk4 ((ho4.block w.heap.size hz3 (by simp; omega)).trans N3.out)
    by_cases hc4 : s.2.2 = 0
    · rw [hc4]
      simp only [errV_ok]
      obtain ⟨rfl, hrows, hrd4⟩ := hok hc4
      have hk4 := cell_only O4.out HK.out hne
      have HE : Hid (r = (.mk k 0 ⟨#[]⟩ s.1, s.2.1, 0)) := by show _ = _; rw [← HRs.out]; unfold itemsU; rw [if_neg (fun h => h hc4)]
      have HRw := Lib.hid hrows
      have HD4 := Lib.hid hrd4
      clear hok ho4 hc4 hrows hrd4
      go_wp2_with fail
      refine bodyPost_ret (v := .tuple #[.agg #[.int .i64 k, .int .i64 0, .string ⟨#[]⟩, .slice q4 s.1.length m4], .nilIface]) (by simp [results, Tryz.results161, go_sem, a0, a1, a2, a3]) rfl ?_
      rw [HE.out]
      refine upost_ok O4.out hrz HD4.out (own_items HRw.out hki (by omega)) (fun g hg e => ?_) HRw.out.nodup
      subst e
      rcases List.mem_append.1 hg with hg | hg
      · have := (blkOf_own HRw.out.row _ hg).1; omega
      · have := (HRw.out.own.lt _ hg).1; omega
    · obtain ⟨c4, hcc⟩ : ∃ c4, s.2.2 = c4 := ⟨_, rfl⟩
      rw [hcc] at hc4 ⊢
      rw [errV_bad hc4]
      have HE : Hid (r = (zeroVa, 0, c4)) := by show _ = _; rw [← HRs.out]; unfold itemsU; rw [hcc, if_pos hc4]
      have HC := Lib.hid hc4
      clear hok ho4 hc4 hcc
      go_wp2_with fail
      refine bodyPost_ret (v := .tuple #[.agg #[.int .i64 0, .int .i64 0, .string ⟨#[]⟩, .slice none 0 0], .iface 97 (.agg #[.int .i64 c4])]) (by simp [results, Tryz.results161, go_sem, a0, a1, a2, a3]) rfl ?_
      rw [HE.out]
      exact upost_bad HC.out O4.out
  · simp only [errV_bad hc]
    obtain ⟨a0, a1, a2, a3, _, _, _, _, az⟩ := blk4 N2.out
    have HC := Lib.hid hc
    clear hrd ho hc
    go_wp2_with fail
    refine bodyPost_ret (v := .tuple #[.agg #[.int .i64 0, .int .i64 0, .string ⟨#[]⟩, .slice none 0 0], .iface 97 (.agg #[.int .i64 c])]) (by simp [results, Tryz.results161, go_sem, a0, a1, a2, a3]) rfl ?_
    rw [← HRr.out, if_pos HC.out]
    exact upost_bad HC.out O1.out

set_option maxRecDepth 100000 in
set_option maxHeartbeats 2000000 in
theorem unRec_any (bs : ByteArray) (p : Int) (rb b : Nat) (su : List Sh) (aa : Option Addr) (cc : Nat) (w : World) (h6 : su.length ≤ 6) (hcc : su.length ≤ cc ∧ cc ≤ 9223372036854775807) (h : RdAt w rb bs p) (hc : w.cell? ⟨b, 0, none⟩ = some (.slice aa su.length cc))
    (hrow : ∀ i (h : i < su.length), ∃ (g off : Nat), aa = some ⟨g, off, none⟩ ∧ g ≠ rb ∧ ∃ (f1 : FuncId) (c1 : Array Value) (f2 : FuncId) (c2 : Array Value), w.cell? ⟨g, off + i * 2, none⟩ = some (.func (.func f1) #[] c1) ∧ w.cell? ⟨g, off + i * 2 + 1, none⟩ = some (.func (.func f2) #[] c2) ∧ UnW bs rb w su[i] (.func (.func f2) #[] c2)) :
    Calls Tryz.prog 165 #[.pointer (some ⟨rb, 0, none⟩), .pointer (some ⟨b, 0, none⟩)] w (UPost bs rb w (itemsU 7 (seqU (su.map (unB bs)) p))) := by
  obtain ⟨r, hr⟩ : ∃ r : UnR, itemsU 7 (seqU (su.map (unB bs)) p) = r := ⟨_, rfl⟩
  rw [hr]
  obtain ⟨W, hW⟩ : ∃ W, W = w.alloc (.cells #[.int .i64 0, .int .i64 0, .string ⟨#[]⟩, .slice none 0 0] 29) := ⟨_, rfl⟩
  have hbw : Below w.heap.size w W := by rw [hW]; exact below_alloc _ _
  have BW := Lib.hid hbw
  have N1 : Hid (W.heap[w.heap.size]? = some (.cells #[.int .i64 0, .int .i64 0, .string ⟨#[]⟩, .slice none 0 0] 29 (0, 0))) := by show _ = _; rw [hW]; exact Go.Deep.blk_alloc_new _ _
  have R1 : Hid (RdAt W rb bs p) := blk_below h hbw (Array.getElem?_eq_some_iff.1 h).1
  have hrz : rb < w.heap.size := (Array.getElem?_eq_some_iff.1 h).1
  have hKp := Keeps.of_below hbw
  have hz3 : w.heap.size < W.heap.size := (Array.getElem?_eq_some_iff.1 N1.out).1
  have HROW := Lib.hid (row_any bs rb su aa cc W p h6 hcc R1.out fun i hi => by
    obtain ⟨g, off, e, hg, f1, c1, f2, c2, k0, k1, hu⟩ := hrow i hi
    exact ⟨g, off, e, hg, f1, c1, f2, c2, hKp _ _ _ k0, hKp _ _ _ k1, hu.move (Stab.of_below hbw)⟩)
  obtain ⟨s, hsq⟩ : ∃ s, seqU (su.map (unB bs)) p = s := ⟨_, rfl⟩
  rw [hsq] at HROW hr
  have HRs := Lib.hid hr
  have HW := Lib.hid hW
  have hbz := World.block_lt_of_cell? w ⟨b, 0, none⟩ hc
  clear h hbw hW hr hrow hsq hKp
  go_enter Tryz.func165, Tryz.ntmps165
  go_wp2_with fail
  rw [← HW.out]
  refine HROW.out.mono ?_
  rintro e w4 ⟨q4, l4, m4, cs4, F4, rfl, hok, ho4⟩
  have O4 := Lib.hid ((Only.of_below (F := [rb]) BW.out).trans ho4)
  obtain ⟨a0, a1, a2, a3, _, _, _, _, az⟩ := blk4 ((ho4.block w.heap.size hz3 (by simp; omega)).trans N1.out)
  by_cases hc4 : s.2.2 = 0
  · rw [hc4]
    simp only [errV_ok]
    obtain ⟨rfl, hrows, hrd4⟩ := hok hc4
    have HE : Hid (r = (.mk 7 0 ⟨#[]⟩ s.1, s.2.1, 0)) := by show _ = _; rw [← HRs.out]; unfold itemsU; rw [if_neg (fun h => h hc4)]
    have HRw := Lib.hid hrows
    have HD4 := Lib.hid hrd4
    clear hok ho4 hc4 hrows hrd4
    go_wp2_with fail
    refine bodyPost_ret (v := .tuple #[.agg #[.int .i64 7, .int .i64 0, .string ⟨#[]⟩, .slice q4 s.1.length m4], .nilIface]) (by simp [results, Tryz.results165, go_sem, a0, a1, a2, a3]) rfl ?_
    rw [HE.out]
    refine upost_ok O4.out hrz HD4.out (own_items HRw.out (by unfold InI64'; omega) (by omega)) (fun g hg e => ?_) HRw.out.nodup
    subst e
    rcases List.mem_append.1 hg with hg | hg
    · have := (blkOf_own HRw.out.row _ hg).1; omega
    · have := (HRw.out.own.lt _ hg).1; omega
  · obtain ⟨c4, hcc⟩ : ∃ c4, s.2.2 = c4 := ⟨_, rfl⟩
    rw [hcc] at hc4 ⊢
    rw [errV_bad hc4]
    have HE : Hid (r = (zeroVa, 0, c4)) := by show _ = _; rw [← HRs.out]; unfold itemsU; rw [hcc, if_pos hc4]
    have HC := Lib.hid hc4
    clear hok ho4 hc4 hcc
    go_wp2_with fail
    refine bodyPost_ret (v := .tuple #[.agg #[.int .i64 0, .int .i64 0, .string ⟨#[]⟩, .slice none 0 0], .iface 97 (.agg #[.int .i64 c4])]) (by simp [results, Tryz.results165, go_sem, a0, a1, a2, a3]) rfl ?_
    rw [HE.out]
    exact upost_bad HC.out O4.out
end Go.Proofs.YtbpidhlpakobiaaGreatDoor
