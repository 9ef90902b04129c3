/- Walks: the draws of spec (l01Src). -/
import Derived.Test.YtejkeoahdienmaaOwn
import Derived.Test.YtejkeoahdienmaaFrame
import Derived.Test.YtejkeoahdienmaaBitsP
import Derived.WalkLawsBesides
import Derived.Lib.Hide
import Derived.Outline
import Derived.OpenShut
import Derived.Deep.DeepCutAuto
import Derived.RegionTactic
import Derived.BigQuiet
import Derived.Deep.QuietTactic
namespace Go.Proofs.Ytejkeoahdienmaa
open Go.RowKit

/-- A number of uint64. -/
def InU64 (n : Int) : Prop := 0 ≤ n ∧ n ≤ 18446744073709551615
/-- What a source's block holds. -/
def srcB (a : Option Addr) (len cap : Nat) (pos : Nat) (mix : Int) (sz : Nat) : Obj := .cells #[.slice a len cap, .int .i64 pos, .int .u64 mix, .int .i64 sz] 51 (0, 0)
/-- Block b holds a source over that slice. -/
def SrcIs (w : World) (b : Nat) (a : Option Addr) (len cap : Nat) : Prop :=
  ∃ (pos : Nat) (mix : Int) (sz : Nat), pos ≤ len ∧ InU64 mix ∧ sz ≤ 12 ∧ w.heap[b]? = some (srcB a len cap pos mix sz)

theorem src_cells {w : World} {b : Nat} {c0 c1 c2 c3 : Value} (h : w.heap[b]? = some (.cells #[c0, c1, c2, c3] 51 (0, 0))) :
    w.cell? ⟨b, 0, none⟩ = some c0 ∧ w.cell? ⟨b, 1, none⟩ = some c1 ∧ w.cell? ⟨b, 2, none⟩ = some c2 ∧ w.cell? ⟨b, 3, none⟩ = some c3 ∧ w.frozen? ⟨b, 0, none⟩ = false ∧ w.frozen? ⟨b, 1, none⟩ = false ∧ w.frozen? ⟨b, 2, none⟩ = false ∧ w.frozen? ⟨b, 3, none⟩ = false := by
  simp [World.cell?, World.frozen?, h]

theorem bits_in (op : BinOp) (x y : Int) : InU64 (bits op .u64 x y) := by
  have h := wf_bits op .u64 x y
  have := bounds_u64 h
  unfold InU64; omega

/-- Block b alone may have changed. -/
def OnlyB (b : Nat) (w w' : World) : Prop := w.grownBy w' (some b) ∧ w'.heap.size = w.heap.size
theorem OnlyB.refl (b : Nat) (w : World) : OnlyB b w w := ⟨World.grownBy.refl _ _, rfl⟩
theorem OnlyB.trans {b : Nat} {w w' w'' : World} (h : OnlyB b w w') (k : OnlyB b w' w'') : OnlyB b w w'' :=
  ⟨⟨k.1.os.trans h.1.os, k.1.tape.trans h.1.tape, k.1.output.trans h.1.output, Nat.le_trans h.1.size k.1.size, fun i hi hne => (k.1.block i (by rw [h.2]; exact hi) hne).trans (h.1.block i hi hne)⟩, k.2.trans h.2⟩
theorem OnlyB.drewN {b : Nat} {w w' : World} (h : OnlyB b w w') (n : Nat) : OnlyB b w (w'.drewN n) :=
  ⟨⟨h.1.os, h.1.tape, h.1.output, h.1.size, h.1.block⟩, h.2⟩
theorem OnlyB.drew {b : Nat} {w w' : World} (h : OnlyB b w w') : OnlyB b w w'.drew := h.drewN 1
theorem OnlyB.setCell {b : Nat} {w w' : World} (h : OnlyB b w w') (i : Nat) (v : Value) : OnlyB b w (w'.setCell ⟨b, i, none⟩ v) :=
  h.trans ⟨⟨rfl, rfl, rfl, by simp [World.setCell], fun k _ hne => Below.heap_setCell _ _ _ _ (fun e => hne (by rw [e]))⟩, by simp [World.setCell]⟩

theorem src_alloc {w : World} {b : Nat} {a : Option Addr} {len cap : Nat} (h : SrcIs w b a len cap) (o : Obj) : SrcIs (w.alloc o) b a len cap := by
  obtain ⟨pos, mix, sz, h1, h2, h3, h4⟩ := h
  have hlt : b < w.heap.size := (Array.getElem?_eq_some_iff.1 h4).1
  exact ⟨pos, mix, sz, h1, h2, h3, by rw [Below.heap_alloc _ _ _ hlt]; exact h4⟩
theorem grown_below {w w' : World} {b B : Nat} (h : w.grownBy w' (some b)) (hB : B ≤ b) (hw : B ≤ w.heap.size) : Below B w w' :=
  ⟨h.os, h.tape, h.output, h.size, fun k hk => h.block k (by omega) (fun e => by simp at e; omega)⟩
set_option maxRecDepth 100000 in
theorem n_small (b : Nat) (most : Int) (w : World) (hm : most ≤ 1) :
    Calls Try.prog 31 #[.pointer (some ⟨b, 0, none⟩), .int .i64 most] w fun e w' => e = .returned (.int .i64 0) ∧ w = w' := by
  go_enter Try.func31, Try.ntmps31
  go_wp2
  go_ret
  exact ⟨rfl, rfl⟩

theorem src_mix {w : World} {b : Nat} {a : Option Addr} {len cap pos : Nat} {mix : Int} {sz : Nat} (h : w.heap[b]? = some (srcB a len cap pos mix sz)) (n : Nat) (x : Int) :
    ((w.drewN n).setCell ⟨b, 2, none⟩ (.int .u64 x)).heap[b]? = some (srcB a len cap pos x sz) :=
  heap_setCell_same (w.drewN n) b 2 #[.slice a len cap, .int .i64 pos, .int .u64 mix, .int .i64 sz] 51 _ h
theorem src_pos {w : World} {b : Nat} {a : Option Addr} {len cap pos : Nat} {mix : Int} {sz : Nat} (h : w.heap[b]? = some (srcB a len cap pos mix sz)) (n : Nat) (x : Nat) :
    ((w.drewN n).setCell ⟨b, 1, none⟩ (.int .i64 (x : Int))).heap[b]? = some (srcB a len cap x mix sz) :=
  heap_setCell_same (w.drewN n) b 1 #[.slice a len cap, .int .i64 pos, .int .u64 mix, .int .i64 sz] 51 _ h
theorem wrap_mod (x : Int) {m : Int} (hm : 1 < m) (hm2 : m ≤ 1099511627776) : wrap64 (x % m) = x % m := by
  have h1 := Int.emod_nonneg x (show m ≠ 0 by omega)
  have h2 := Int.emod_lt_of_pos x (show 0 < m by omega)
  exact IntWalk.wrap64_in _ (by omega)
theorem mod_lo (x : Int) {m : Int} (hm : 1 < m) : 0 ≤ x % m := Int.emod_nonneg x (by omega)
theorem mod_hi (x : Int) {m : Int} (hm : 1 < m) : x % m < m := Int.emod_lt_of_pos x (by omega)
theorem OnlyB.setN (b : Nat) (w : World) (n i : Nat) (v : Value) : OnlyB b w ((w.drewN n).setCell ⟨b, i, none⟩ v) := ((OnlyB.refl b w).drewN n).setCell i v

set_option maxRecDepth 100000 in
set_option maxHeartbeats 2000000 in
theorem n_end (b : Nat) (most : Int) (w : World) (hm : 1 < most) (hm2 : most ≤ 1099511627776) (a : Option Addr) (len cap pos : Nat) (mix : Int) (sz : Nat) (hp : len ≤ pos)
    (h : w.heap[b]? = some (srcB a len cap pos mix sz)) :
    Calls Try.prog 31 #[.pointer (some ⟨b, 0, none⟩), .int .i64 most] w fun e w' => ∃ v mix' : Int, e = .returned (.int .i64 v) ∧ 0 ≤ v ∧ v < most ∧ InU64 mix' ∧ w'.heap[b]? = some (srcB a len cap pos mix' sz) ∧ OnlyB b w w' := by
  have hp' : (len : Int) ≤ pos := by omega
  obtain ⟨hc0, hc1, hc2, hc3, hf0, hf1, hf2, hf3⟩ := src_cells h
  have H := Lib.hid h
  clear h
  go_enter Try.func31, Try.ntmps31
  go_wp2
  go_quiet (fail)
  go_wp2
  go_upto_region 7 with fail
  go_cut [] (fun wc => ∃ m : Int, Hid (InU64 m) ∧ Hid (wc.heap[b]? = some (srcB a len cap pos m sz)) ∧ OnlyB b w wc)
  case first =>
    go_region
    all_goals (go_wp2_with fail; go_meet; exact ⟨_, bits_in _ _ _, src_mix H.out _ _, OnlyB.setN _ _ _ _ _⟩)
  case rest =>
    obtain ⟨m7, hm7, H7, hon7⟩ := hcut
    obtain ⟨c0, c1, c2, c3, f0, f1, f2, f3⟩ := src_cells H7.out
    go_upto_region 8 with fail
    go_cut [] (fun wc => ∃ m : Int, Hid (InU64 m) ∧ Hid (wc.heap[b]? = some (srcB a len cap pos m sz)) ∧ OnlyB b w wc)
    case first =>
      go_region
      all_goals (go_wp2_with fail; go_meet; exact ⟨_, bits_in _ _ _, src_mix H7.out _ _, hon7.trans (OnlyB.setN _ _ _ _ _)⟩)
    case rest =>
      obtain ⟨m8, hm8, H8, hon8⟩ := hcut
      obtain ⟨c0, c1, c2, c3, f0, f1, f2, f3⟩ := src_cells H8.out
      go_upto_region 9 with fail
      go_cut [] (fun wc => ∃ m : Int, Hid (InU64 m) ∧ Hid (wc.heap[b]? = some (srcB a len cap pos m sz)) ∧ OnlyB b w wc)
      case first =>
        go_region
        all_goals (go_wp2_with fail; go_meet; exact ⟨_, bits_in _ _ _, src_mix H8.out _ _, hon8.trans (OnlyB.setN _ _ _ _ _)⟩)
      case rest =>
        obtain ⟨m9, hm9, H9, hon9⟩ := hcut
        obtain ⟨c0, c1, c2, c3, f0, f1, f2, f3⟩ := src_cells H9.out
        have hm0 : 0 ≤ m9 := hm9.out.1
        have hm1 : m9 ≤ 18446744073709551615 := hm9.out.2
        go_wp2
        go_ret
        exact ⟨_, m9, ret_int (wrap_mod _ hm hm2), mod_lo _ hm, mod_hi _ hm, hm9.out, H9.out, hon9⟩

set_option maxRecDepth 100000 in
set_option maxHeartbeats 2000000 in
theorem n_byte (b : Nat) (most : Int) (w : World) (hm : 1 < most) (hm2 : most ≤ 1099511627776) (ab off len cap pos : Nat) (c : Int) (mix : Int) (sz : Nat) (hp : pos < len) (hlen : len ≤ 9223372036854775807)
    (h : w.heap[b]? = some (srcB (some ⟨ab, off, none⟩) len cap pos mix sz)) (hbyte : w.cell? ⟨ab, off + pos, none⟩ = some (.int .u8 c)) (hb0 : 0 ≤ c) (hb1 : c ≤ 255) :
    Calls Try.prog 31 #[.pointer (some ⟨b, 0, none⟩), .int .i64 most] w fun e w' => ∃ v mix' : Int, e = .returned (.int .i64 v) ∧ 0 ≤ v ∧ v < most ∧ InU64 mix' ∧ w'.heap[b]? = some (srcB (some ⟨ab, off, none⟩) len cap (pos + 1) mix' sz) ∧ OnlyB b w w' := by
  have hp' : (pos : Int) < len := by omega
  obtain ⟨hc0, hc1, hc2, hc3, hf0, hf1, hf2, hf3⟩ := src_cells h
  have H := Lib.hid h
  clear h
  go_enter Try.func31, Try.ntmps31
  go_wp2
  go_quiet (fail)
  go_wp2
  go_quiet (fail)
  go_wp2
  go_upto_region 7 with fail
  go_cut [] (fun wc => ∃ m : Int, Hid (InU64 m) ∧ Hid (wc.heap[b]? = some (srcB (some ⟨ab, off, none⟩) len cap (pos + 1) m sz)) ∧ OnlyB b w wc)
  case first =>
    go_region
    all_goals (go_wp2_with fail; go_meet; exact ⟨_, bits_in _ _ _, src_mix (src_pos H.out _ _) _ _, (OnlyB.setN _ _ _ _ _).trans (OnlyB.setN _ _ _ _ _)⟩)
  case rest =>
    obtain ⟨m7, hm7, H7, hon7⟩ := hcut
    obtain ⟨c0, c1, c2, c3, f0, f1, f2, f3⟩ := src_cells H7.out
    go_upto_region 8 with fail
    go_cut [] (fun wc => ∃ m : Int, Hid (InU64 m) ∧ Hid (wc.heap[b]? = some (srcB (some ⟨ab, off, none⟩) len cap (pos + 1) m sz)) ∧ OnlyB b w wc)
    case first =>
      go_region
      all_goals (go_wp2_with fail; go_meet; exact ⟨_, bits_in _ _ _, src_mix H7.out _ _, hon7.trans (OnlyB.setN _ _ _ _ _)⟩)
    case rest =>
      obtain ⟨m8, hm8, H8, hon8⟩ := hcut
      obtain ⟨c0, c1, c2, c3, f0, f1, f2, f3⟩ := src_cells H8.out
      go_upto_region 9 with fail
      go_cut [] (fun wc => ∃ m : Int, Hid (InU64 m) ∧ Hid (wc.heap[b]? = some (srcB (some ⟨ab, off, none⟩) len cap (pos + 1) m sz)) ∧ OnlyB b w wc)
      case first =>
        go_region
        all_goals (go_wp2_with fail; go_meet; exact ⟨_, bits_in _ _ _, src_mix H8.out _ _, hon8.trans (OnlyB.setN _ _ _ _ _)⟩)
      case rest =>
        obtain ⟨m9, hm9, H9, hon9⟩ := hcut
        obtain ⟨c0, c1, c2, c3, f0, f1, f2, f3⟩ := src_cells H9.out
        have hm0 : 0 ≤ m9 := hm9.out.1
        have hm1 : m9 ≤ 18446744073709551615 := hm9.out.2
        go_wp2
        go_ret
        exact ⟨_, m9, ret_int (wrap_mod _ hm hm2), mod_lo _ hm, mod_hi _ hm, hm9.out, H9.out, hon9⟩

end Go.Proofs.Ytejkeoahdienmaa
