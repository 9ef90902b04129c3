/- Walks: laws.toStringS, laws.toShapeS, laws.toShape: an argument in memory of the law's own. -/
import Derived.Test.YtfdhmkmeffgkgaaDoorGOwnA
import Derived.Test.YtfdhmkmeffgkgaaDoorGSzA
import Derived.Laws.Rows
import Derived.Deep.OwnRows
namespace Go.Proofs.YtfdhmkmeffgkgaaDoor
open Go.RowKit

theorem info_str : (Tryd.prog.info? 9).map (fun i => (i.zero, i.size, i.bytes)) = some (some (.string ⟨#[]⟩), 1, 16) := by kernel_rfl
theorem info_shape : (Tryd.prog.info? 31).map (fun i => (i.zero, i.size, i.bytes)) = some (some (.agg #[.int .i64 0, .slice none 0 0, .slice none 0 0, .slice none 0 0]), 4, 80) := by kernel_rfl

/-- make([]string, n). -/
theorem make_strs (n : Nat) (h : n ≤ 1048576) (w : World) :
    (Instr.makeSlice 22 (.int .i64 (n : Int)) (.int .i64 (n : Int))).run Tryd.prog w = .ok (.slice (some ⟨w.heap.size, 0, none⟩) n n) (w.alloc (.cells (madeCells #[.string ⟨#[]⟩] n) 9)) := by
  obtain ⟨i, hi, hz, hs, hb⟩ := info_parts info_str
  have := run_make (P := Tryd.prog) w 22 9 i (.string ⟨#[]⟩) Tryd.underlying22 hi hz .i64 .i64 n n (by omega) (Int.le_refl _) (by rw [hb]; omega) (by omega)
  simpa [hs, Value.cells] using this
/-- make([]impl.Shape, n). -/
theorem make_shapes (n : Nat) (h : n ≤ 1048576) (w : World) :
    (Instr.makeSlice 29 (.int .i64 (n : Int)) (.int .i64 (n : Int))).run Tryd.prog w = .ok (.slice (some ⟨w.heap.size, 0, none⟩) n n) (w.alloc (.cells (madeCells #[.int .i64 0, .slice none 0 0, .slice none 0 0, .slice none 0 0] (n * 4)) 31)) := by
  obtain ⟨i, hi, hz, hs, hb⟩ := info_parts info_shape
  have := run_make (P := Tryd.prog) w 29 31 i _ Tryd.underlying29 hi hz .i64 .i64 n n (by omega) (Int.le_refl _) (by rw [hb]; omega) (by omega)
  simpa [hs, Value.cells] using this

/-- Block g holds the cells A, and n more behind them. -/
def Filled (w : World) (g : Nat) (T : TypeId) (A : List Value) (n : Nat) : Prop := ∃ R : List Value, R.length = n ∧ w.heap[g]? = some (.cells (A ++ R).toArray T (0, 0))
theorem Filled.made (w : World) (z : Array Value) (n : Nat) (T : TypeId) : Filled (w.alloc (.cells (madeCells z n) T)) w.heap.size T [] n :=
  ⟨(madeCells z n).toList, by simp [size_madeCells], by rw [Go.Deep.blk_alloc_new]; simp⟩
theorem Filled.cell {w : World} {g : Nat} {T : TypeId} {A : List Value} {n : Nat} (h : Filled w g T A n) {j : Nat} (hj : j < n) : ∃ c, w.cell? ⟨g, A.length + j, none⟩ = some c := by
  obtain ⟨R, hR, hg⟩ := h
  refine ⟨R[j]'(by omega), ?_⟩
  simp [World.cell?, hg, List.getElem?_append_right, List.getElem?_eq_getElem (show j < R.length by omega)]
theorem Filled.frozen {w : World} {g : Nat} {T : TypeId} {A : List Value} {n : Nat} (h : Filled w g T A n) (j : Nat) : w.frozen? ⟨g, j, none⟩ = false := by
  obtain ⟨R, hR, hg⟩ := h
  simp [World.frozen?, hg]
theorem Filled.lt {w : World} {g : Nat} {T : TypeId} {A : List Value} {n : Nat} (h : Filled w g T A n) : g < w.heap.size := by
  obtain ⟨R, hR, hg⟩ := h
  exact (Array.getElem?_eq_some_iff.1 hg).1
theorem Filled.set {w : World} {g : Nat} {T : TypeId} {A : List Value} {n : Nat} (h : Filled w g T A (n + 1)) (v : Value) {k : Nat} (hk : k = A.length) : Filled (w.setCell ⟨g, k, none⟩ v) g T (A ++ [v]) n := by
  obtain ⟨R, hR, hg⟩ := h
  match R, hR with
  | u :: R, hR =>
    refine ⟨R, by simpa using hR, ?_⟩
    rw [Go.heap_setCell_same w g k _ T v hg]
    subst hk
    simp [List.setIfInBounds_toArray]
theorem Filled.block {w w' : World} {g : Nat} {T : TypeId} {A : List Value} {n : Nat} (h : Filled w g T A n) (e : w'.heap[g]? = w.heap[g]?) : Filled w' g T A n := by
  obtain ⟨R, hR, hg⟩ := h
  exact ⟨R, hR, by rw [e]; exact hg⟩
theorem Filled.own {w : World} {g base : Nat} {T : TypeId} {A : List Value} {n sz : Nat} (h : Filled w g T A 0) (hA : A.length = n * sz) (hb : base ≤ g) (hn : n ≤ maxLen) : w.ownsRow base T sz (.slice (some ⟨g, 0, none⟩) n n) n A := by
  obtain ⟨R, hR, hg⟩ := h
  obtain rfl := List.eq_nil_of_length_eq_zero hR
  rw [List.append_nil] at hg
  exact ⟨hA, .inr ⟨g, n, _, rfl, hb, hg, Nat.le_refl _, hn, by simpa using hA, List.take_of_length_le (Nat.le_of_eq hA)⟩⟩

theorem map_take_snoc (l : List ByteArray) (k : Nat) (h : k < l.length) : (l.take k).map Value.string ++ [Value.string l[k]] = (l.take (k + 1)).map Value.string := by
  rw [List.take_succ_eq_append_getElem h, List.map_append, List.map_cons, List.map_nil]

set_option maxHeartbeats 400000 in
theorem toStrs_any (v : Value) (l : List ByteArray) (w : World) (h : IsStrs w v l) (hl : l.length ≤ 1048576) :
    Calls Tryd.prog 26 #[v] w fun e w' => e = .returned (.slice (some ⟨w.heap.size, 0, none⟩) l.length l.length) ∧ OwnStrs w' w.heap.size (.slice (some ⟨w.heap.size, 0, none⟩) l.length l.length) l ∧ Below w.heap.size w w' ∧ w.heap.size < w'.heap.size := by
  obtain ⟨h1, h2, a, cap, rfl, h3, h4, h6⟩ := h
  have H6 := Lib.hid h6
  have H2 := Lib.hid h2
  clear h6 h2
  have hmk := make_strs l.length hl
  go_enter Tryd.func26, Tryd.ntmps26
  go_wp2_with fail
  go_loopw [4] (fun i wr => ∃ k : Nat, k ≤ l.length ∧ i = .int .i64 k ∧ Hid (Filled wr w.heap.size 9 ((l.take k).map Value.string) (l.length - k)) ∧ Hid (Below w.heap.size w wr)) (fun i _ => l.length - (intOf i).toNat)
  case atStart => exact ⟨0, Nat.zero_le _, rfl, Filled.made _ _ _ _, below_alloc _ _⟩
  case round =>
    obtain ⟨k, hk, rfl, HF, HB⟩ := hrel
    by_cases hlt : k < l.length
    · obtain ⟨b, off, rfl, hc⟩ := IsStrs.at H6.out hlt
      have g0 := Keeps.of_below HB.out _ _ _ hc
      obtain ⟨x, hx⟩ := HF.out.cell (show 0 < l.length - k by omega)
      have e : ((l.take k).map Value.string).length = k := by simp; omega
      rw [e, Nat.add_zero] at hx
      have hf := HF.out.frozen k
      have hz := HF.out.lt
      have HE := Lib.hid e
      clear hc e
      go_wp2_with fail
      go_roundw
      case rel =>
        refine ⟨k + 1, hlt, by go_num, ?_, HB.out.setCell (p := ⟨w.heap.size, k, none⟩) (Nat.le_refl _) _⟩
        have := Filled.set (n := l.length - (k + 1)) (by rw [show l.length - (k + 1) + 1 = l.length - k by omega]; exact HF.out) (.string l[k]) HE.out.symm
        rw [map_take_snoc l k hlt] at this
        exact this
      case measure => simp [intOf]; omega
    · obtain rfl : k = l.length := by omega
      go_wp2_with fail
      go_ret
      refine ⟨rfl, ⟨fun s hs => by have := H2.out s hs; omega, Filled.own (by have := HF.out; rw [List.take_length, Nat.sub_self] at this; exact this) (by simp) (Nat.le_refl _) (by unfold maxLen; omega)⟩, HB.out, HF.out.lt⟩

/-- What toShape leaves. -/
def ToPost (x : Sh) (w : World) (e : Ending) (w' : World) : Prop :=
  ∃ c0 c1 c2 c3 F, e = .returned (.agg #[c0, c1, c2, c3]) ∧ OwnSh w' w.heap.size x (.agg #[c0, c1, c2, c3]) F ∧ F.Nodup ∧ Below w.heap.size w w'
def ToAt (x : Sh) : Prop := ∀ (v : Value) (w : World), IsSh w x v → x.sz ≤ 1048576 → Calls Tryd.prog 27 #[v] w (ToPost x w)
/-- What toShapeS leaves. -/
def TosPost (l : List Sh) (w : World) (e : Ending) (w' : World) : Prop :=
  ∃ cs F, e = .returned (.slice (some ⟨w.heap.size, 0, none⟩) l.length l.length) ∧ w'.ownsRow w.heap.size 31 4 (.slice (some ⟨w.heap.size, 0, none⟩) l.length l.length) l.length cs ∧
    OwnAll w' (w.heap.size + 1) l cs F ∧ F.Nodup ∧ Below w.heap.size w w' ∧ w.heap.size < w'.heap.size

theorem sz_mem {l : List Sh} {k : Nat} (h : k < l.length) : l[k].sz ≤ Sh.szs l := by
  have h1 := szs_take l k h
  have h2 := szs_take_le l (k + 1)
  omega
theorem Filled.set4 {w : World} {g : Nat} {T : TypeId} {A : List Value} {n : Nat} (h : Filled w g T A (n + 4)) (c0 c1 c2 c3 : Value) {k : Nat} (hk : k = A.length) :
    Filled ((((w.setCell ⟨g, k, none⟩ c0).setCell ⟨g, k + 1, none⟩ c1).setCell ⟨g, k + 2, none⟩ c2).setCell ⟨g, k + 3, none⟩ c3) g T (A ++ [c0, c1, c2, c3]) n := by
  have h1 := h.set c0 hk
  have h2 := h1.set c1 (k := k + 1) (by simp [hk])
  have h3 := h2.set c2 (k := k + 2) (by simp [hk])
  have h4 := h3.set c3 (k := k + 3) (by simp [hk])
  simpa using h4
theorem set4_other {w : World} {g k : Nat} {c0 c1 c2 c3 : Value} {b : Nat} (h : b ≠ g) :
    ((((w.setCell ⟨g, k, none⟩ c0).setCell ⟨g, k + 1, none⟩ c1).setCell ⟨g, k + 2, none⟩ c2).setCell ⟨g, k + 3, none⟩ c3).heap[b]? = w.heap[b]? := by
  rw [Below.heap_setCell _ _ _ _ h, Below.heap_setCell _ _ _ _ h, Below.heap_setCell _ _ _ _ h, Below.heap_setCell _ _ _ _ h]
theorem set4_below {B : Nat} {a w : World} (h : Below B a w) {g k : Nat} (hg : B ≤ g) (c0 c1 c2 c3 : Value) :
    Below B a ((((w.setCell ⟨g, k, none⟩ c0).setCell ⟨g, k + 1, none⟩ c1).setCell ⟨g, k + 2, none⟩ c2).setCell ⟨g, k + 3, none⟩ c3) :=
  (((h.setCell (p := ⟨g, k, none⟩) hg _).setCell (p := ⟨g, k + 1, none⟩) hg _).setCell (p := ⟨g, k + 2, none⟩) hg _).setCell (p := ⟨g, k + 3, none⟩) hg _

/-- One round of toShapeS. -/
theorem tos_step {w wr w1 : World} {l : List Sh} {k : Nat} {cs : List Value} {F F1 : List Nat} {c0 c1 c2 c3 : Value} (hk : k < l.length) (hA : OwnAll wr (w.heap.size + 1) (l.take k) cs F) (hN : F.Nodup)
    (hF : Filled wr w.heap.size 31 cs ((l.length - k) * 4)) (hB : Below w.heap.size w wr) (h1 : OwnSh w1 wr.heap.size l[k] (.agg #[c0, c1, c2, c3]) F1) (hN1 : F1.Nodup) (hB1 : Below wr.heap.size wr w1) :
    OwnAll ((((w1.setCell ⟨w.heap.size, k * 4, none⟩ c0).setCell ⟨w.heap.size, k * 4 + 1, none⟩ c1).setCell ⟨w.heap.size, k * 4 + 2, none⟩ c2).setCell ⟨w.heap.size, k * 4 + 3, none⟩ c3) (w.heap.size + 1) (l.take (k + 1)) (cs ++ [c0, c1, c2, c3]) (F ++ F1) ∧
    (F ++ F1).Nodup ∧
    Filled ((((w1.setCell ⟨w.heap.size, k * 4, none⟩ c0).setCell ⟨w.heap.size, k * 4 + 1, none⟩ c1).setCell ⟨w.heap.size, k * 4 + 2, none⟩ c2).setCell ⟨w.heap.size, k * 4 + 3, none⟩ c3) w.heap.size 31 (cs ++ [c0, c1, c2, c3]) ((l.length - (k + 1)) * 4) ∧
    Below w.heap.size w ((((w1.setCell ⟨w.heap.size, k * 4, none⟩ c0).setCell ⟨w.heap.size, k * 4 + 1, none⟩ c1).setCell ⟨w.heap.size, k * 4 + 2, none⟩ c2).setCell ⟨w.heap.size, k * 4 + 3, none⟩ c3) := by
  have hlt := hF.lt
  have hlen := hA.len
  have e : (l.take k).length = k := by simp; omega
  rw [e] at hlen
  have hlF := hA.lt
  have hlF1 := OwnSh.blocks _ _ _ h1
  have hA1 : OwnAll w1 (w.heap.size + 1) (l.take k) cs F := hA.move (Nat.le_refl _) fun g hg => hB1.block g (hlF g hg).2
  have h1' : OwnSh w1 (w.heap.size + 1) l[k] (.agg #[c0, c1, c2, c3]) F1 := OwnSh.move (by omega) _ _ _ (fun _ _ => rfl) h1
  have hs := OwnAll.snoc hA1 h1'
  rw [← List.take_succ_eq_append_getElem hk] at hs
  have hF1 : Filled w1 w.heap.size 31 cs ((l.length - (k + 1)) * 4 + 4) := by
    rw [show (l.length - (k + 1)) * 4 + 4 = (l.length - k) * 4 by omega]
    exact hF.block (hB1.block _ hlt)
  refine ⟨hs.move (Nat.le_refl _) fun g hg => set4_other (by have := hs.lt g hg; omega), ?_, hF1.set4 c0 c1 c2 c3 hlen.symm, set4_below (hB.trans (hB1.mono hB.size)) (Nat.le_refl _) _ _ _ _⟩
  rw [List.nodup_append]
  refine ⟨hN, hN1, fun a ha b hb => ?_⟩
  have := (hlF a ha).2
  have := (hlF1 b hb).1
  omega

set_option maxHeartbeats 1000000 in
theorem toShs_any (v : Value) (l : List Sh) (ih : ∀ x ∈ l, ToAt x) (w : World) (h : IsShs w v l) (hl : l.length + Sh.szs l ≤ 1048576) :
    Calls Tryd.prog 54 #[v] w (TosPost l w) := by
  obtain ⟨a, cap, rfl, h3, h4, h6⟩ := h
  have H6 := Lib.hid h6
  have IH := Lib.hid ih
  clear h6 ih
  have hl' : l.length ≤ 1048576 := by omega
  have hmk := make_shapes l.length hl'
  go_enter Tryd.func54, Tryd.ntmps54
  go_wp2_with fail
  go_loopw [4] (fun i wr => ∃ (k : Nat) (cs : List Value) (F : List Nat), k ≤ l.length ∧ i = .int .i64 k ∧ Hid (OwnAll wr (w.heap.size + 1) (l.take k) cs F) ∧ Hid F.Nodup ∧ Hid (Filled wr w.heap.size 31 cs ((l.length - k) * 4)) ∧ Hid (Below w.heap.size w wr)) (fun i _ => l.length - (intOf i).toNat)
  case atStart => exact ⟨0, [], [], Nat.zero_le _, rfl, by show OwnAll _ _ _ _ _; simp [OwnAll], List.nodup_nil, Filled.made _ _ _ _, below_alloc _ _⟩
  case round =>
    obtain ⟨k, cs, F, hk, rfl, HA, HN, HF, HB⟩ := hrel
    by_cases hlt : k < l.length
    · obtain ⟨b, off, rfl, c0, c1, c2, c3, g0, g1, g2, g3, g4⟩ := IsShs.at H6.out hlt
      have HK := Lib.hid (Keeps.of_below HB.out)
      have k0 := HK.out _ _ _ g0
      have k1 := HK.out _ _ _ g1
      have k2 := HK.out _ _ _ g2
      have k3 := HK.out _ _ _ g3
      have K4 := Lib.hid (IsSh.keep HK.out _ _ g4)
      clear g0 g1 g2 g3 g4
      go_wp2_with fail
      refine (IH.out _ (List.getElem_mem hlt) _ _ K4.out (by have := sz_mem hlt; omega)).mono ?_
      rintro e w1 ⟨d0, d1, d2, d3, F1, rfl, h1, hN1, hB1⟩
      have HS := Lib.hid (tos_step hlt HA.out HN.out HF.out HB.out h1 hN1 hB1)
      have HF1 := Lib.hid (HF.out.block (hB1.block _ HF.out.lt))
      have hcl := HA.out.len
      have e : (l.take k).length = k := by simp; omega
      rw [e] at hcl
      have HC := Lib.hid hcl
      obtain ⟨x0, y0⟩ := HF1.out.cell (show 0 < (l.length - k) * 4 by omega)
      obtain ⟨x1, y1⟩ := HF1.out.cell (show 1 < (l.length - k) * 4 by omega)
      obtain ⟨x2, y2⟩ := HF1.out.cell (show 2 < (l.length - k) * 4 by omega)
      obtain ⟨x3, y3⟩ := HF1.out.cell (show 3 < (l.length - k) * 4 by omega)
      rw [hcl] at y0 y1 y2 y3
      rw [Nat.add_zero] at y0
      have f0 := HF1.out.frozen (k * 4)
      have f1 := HF1.out.frozen (k * 4 + 1)
      have f2 := HF1.out.frozen (k * 4 + 2)
      have f3 := HF1.out.frozen (k * 4 + 3)
      have hz := HF1.out.lt
      obtain ⟨p1, n1, m1, p2, n2, m2, p3, n3, m3, rfl, rfl, rfl, rfl⟩ := (OwnSh.is _ _ _ h1).cells
      clear h1 hN1 hB1 hcl e k0 k1 k2 k3
      go_wp2_with fail
      go_roundw
      case rel => exact ⟨k + 1, _, _, hlt, by go_num, HS.out.1, HS.out.2.1, HS.out.2.2.1, HS.out.2.2.2⟩
      case measure => simp [intOf]; omega
    · obtain rfl : k = l.length := by omega
      go_wp2_with fail
      go_ret
      have hA := HA.out
      have hF := HF.out
      rw [List.take_length] at hA
      rw [Nat.sub_self, Nat.zero_mul] at hF
      exact ⟨cs, F, rfl, hF.own hA.len (Nat.le_refl _) (by unfold maxLen; omega), hA, HN.out, HB.out, hF.lt⟩

theorem toSh_end {w w1 w2 w3 : World} {k : Int} {sy na : List ByteArray} {su : List Sh} {cs : List Value} {F : List Nat} {u1 u2 u3 c0 c1 c2 c3 : Value} (hk : InI64' k)
    (ho1 : OwnStrs w1 (w.heap.size + 1 + 1 + 1) (.slice (some ⟨w.heap.size + 1 + 1 + 1, 0, none⟩) sy.length sy.length) sy) (z1 : w.heap.size + 1 + 1 + 1 < w1.heap.size)
    (hb2 : Below w1.heap.size (w1.setCell ⟨w.heap.size + 1 + 1, 1, none⟩ u1) w2)
    (ho2 : OwnStrs w2 w1.heap.size (.slice (some ⟨w1.heap.size, 0, none⟩) na.length na.length) na) (z2 : w1.heap.size < w2.heap.size)
    (hb3 : Below w2.heap.size (w2.setCell ⟨w.heap.size + 1 + 1, 2, none⟩ u2) w3)
    (ho3 : w3.ownsRow w2.heap.size 31 4 (.slice (some ⟨w2.heap.size, 0, none⟩) su.length su.length) su.length cs) (ha3 : OwnAll w3 (w2.heap.size + 1) su cs F) (hn3 : F.Nodup)
    (hBb : Below w.heap.size w (w2.setCell ⟨w.heap.size + 1 + 1, 2, none⟩ u2)) :
    ToPost (.mk k sy na su) w (.returned (.agg #[.int .i64 k, .slice (some ⟨w.heap.size + 1 + 1 + 1, 0, none⟩) sy.length sy.length, .slice (some ⟨w1.heap.size, 0, none⟩) na.length na.length, .slice (some ⟨w2.heap.size, 0, none⟩) su.length su.length]))
      (((((w3.setCell ⟨w.heap.size + 1 + 1, 3, none⟩ u3).setCell ⟨w.heap.size + 1, 0, none⟩ c0).setCell ⟨w.heap.size + 1, 1, none⟩ c1).setCell ⟨w.heap.size + 1, 2, none⟩ c2).setCell ⟨w.heap.size + 1, 3, none⟩ c3) := by
  have e3 : ∀ g, g ≠ w.heap.size + 1 → g ≠ w.heap.size + 1 + 1 → (((((w3.setCell ⟨w.heap.size + 1 + 1, 3, none⟩ u3).setCell ⟨w.heap.size + 1, 0, none⟩ c0).setCell ⟨w.heap.size + 1, 1, none⟩ c1).setCell ⟨w.heap.size + 1, 2, none⟩ c2).setCell ⟨w.heap.size + 1, 3, none⟩ c3).heap[g]? = w3.heap[g]? := fun g h1 h2 => by
    rw [Below.heap_setCell _ _ _ _ h1, Below.heap_setCell _ _ _ _ h1, Below.heap_setCell _ _ _ _ h1, Below.heap_setCell _ _ _ _ h1, Below.heap_setCell _ _ _ _ h2]
  have e2 : ∀ g, g < w2.heap.size → g ≠ w.heap.size + 1 + 1 → w3.heap[g]? = w2.heap[g]? := fun g h1 h2 => by
    rw [hb3.block g h1, Below.heap_setCell _ _ _ _ h2]
  have e1 : ∀ g, g < w1.heap.size → g ≠ w.heap.size + 1 + 1 → w2.heap[g]? = w1.heap[g]? := fun g h1 h2 => by
    rw [hb2.block g h1, Below.heap_setCell _ _ _ _ h2]
  have hlF := ha3.lt
  refine ⟨_, _, _, _, (w.heap.size + 1 + 1 + 1) :: w1.heap.size :: w2.heap.size :: F, rfl, ?_, ?_, ?_⟩
  · simp only [OwnSh]
    refine ⟨_, _, _, cs, F, rfl, hk, ⟨ho1.1, own_mono (own_block ho1.2 fun g hg => ?_) (by omega)⟩, ⟨ho2.1, own_mono (own_block ho2.2 fun g hg => ?_) (by omega)⟩, own_mono (own_block ho3 fun g hg => ?_) (by omega), ha3.move (by omega) fun g hg => ?_, rfl⟩
    · simp [blkOf] at hg
      subst hg
      rw [e3 _ (by omega) (by omega), e2 _ (by omega) (by omega), e1 _ (by omega) (by omega)]
    · simp [blkOf] at hg
      subst hg
      rw [e3 _ (by omega) (by omega), e2 _ (by omega) (by omega)]
    · simp [blkOf] at hg
      subst hg
      rw [e3 _ (by omega) (by omega)]
    · have := hlF g hg
      rw [e3 _ (by omega) (by omega)]
  · have m : ∀ g ∈ F, w2.heap.size < g := fun g hg => by have := hlF g hg; omega
    refine List.nodup_cons.2 ⟨fun h => ?_, List.nodup_cons.2 ⟨fun h => ?_, List.nodup_cons.2 ⟨fun h => ?_, hn3⟩⟩⟩
    · rcases List.mem_cons.1 h with h | h
      · omega
      · rcases List.mem_cons.1 h with h | h
        · omega
        · have := m _ h; omega
    · rcases List.mem_cons.1 h with h | h
      · omega
      · have := m _ h; omega
    · have := m _ h; omega
  · have hb := hBb.trans (hb3.mono (by have := hBb.size; rw [size_set] at this; exact this))
    exact set4_below (hb.setCell (p := ⟨w.heap.size + 1 + 1, 3, none⟩) (by show _ ≤ w.heap.size + 1 + 1; omega) _) (by omega) _ _ _ _

set_option maxRecDepth 100000 in
set_option maxHeartbeats 1000000 in
theorem toSh_any : ∀ x, ToAt x := by
  refine Sh.ind fun k sy na su ih v w h hsz => ?_
  obtain ⟨vs, vn, vp, rfl, h1, h2, h3, h4⟩ := h.parts
  simp only [Sh.sz, strsSz] at hsz
  have IH := Lib.hid ih
  have H1 := Lib.hid h1
  have H2 := Lib.hid h2
  have H3 := Lib.hid h3
  have H4 := Lib.hid h4
  have l1 : sy.length ≤ 1048576 := by omega
  have l2 : na.length ≤ 1048576 := by omega
  have l3 : su.length + Sh.szs su ≤ 1048576 := by omega
  clear h ih h1 h2 h3 h4 hsz
  have hB0 : ∀ o1 o2 o3 : Obj, Below w.heap.size w (((w.alloc o1).alloc o2).alloc o3) := fun o1 o2 o3 => ((below_alloc w o1).alloc (by simp) o2).alloc (by simp; omega) o3
  have HB0 := Lib.hid hB0
  have HN := Lib.hid (three_new w)
  clear hB0
  go_enter Tryd.func27, Tryd.ntmps27
  go_wp2_with fail
  refine (toStrs_any _ sy _ (H2.out.keep (Keeps.of_below (HB0.out _ _ _))) l1).mono ?_
  rintro e w1 ⟨rfl, ho1, hb1, hz1⟩
  obtain ⟨n0, n1, n2⟩ := HN.out (.cells #[.int .i64 k, vs, vn, vp] 25) (.cells #[.int .i64 0, .slice none 0 0, .slice none 0 0, .slice none 0 0] 31) (.cells #[.int .i64 k, .slice none 0 0, .slice none 0 0, .slice none 0 0] 31)
  have hq : (((w.alloc (.cells #[.int .i64 k, vs, vn, vp] 25)).alloc (.cells #[.int .i64 0, .slice none 0 0, .slice none 0 0, .slice none 0 0] 31)).alloc (.cells #[.int .i64 k, .slice none 0 0, .slice none 0 0, .slice none 0 0] 31)).heap.size = w.heap.size + 1 + 1 + 1 := by simp
  rw [hq] at ho1 hb1 hz1 ⊢
  have A1 := Lib.hid (blk_below n0 hb1 (by omega))
  have B1 := Lib.hid (blk_below n1 hb1 (by omega))
  have C1 := Lib.hid (blk_below n2 hb1 (by omega))
  have HBa := Lib.hid (((HB0.out _ _ _).trans (hb1.mono (by omega))).setCell (p := ⟨w.heap.size + 1 + 1, 1, none⟩) (show w.heap.size ≤ w.heap.size + 1 + 1 by omega) (.slice (some ⟨w.heap.size + 1 + 1 + 1, 0, none⟩) sy.length sy.length))
  have HO1 := Lib.hid ho1
  obtain ⟨a0, a1, a2, a3, _, _, _, _, az⟩ := blk4 A1.out
  obtain ⟨d0, d1, d2, d3, f0, f1, f2, f3, dz⟩ := blk4 C1.out
  have HZ1 := Lib.hid hz1
  clear n0 n1 n2 ho1 hb1 hz1 hq
  go_wp2_with fail
  refine (toStrs_any _ na _ (H3.out.keep (Keeps.of_below HBa.out)) l2).mono ?_
  rintro e w2 ⟨rfl, ho2, hb2, hz2⟩
  rw [size_set] at ho2 hb2 hz2 ⊢
  have A2 := Lib.hid (blk_below (blk_other A1.out (by omega) _) hb2 (by omega))
  have B2 := Lib.hid (blk_below (blk_other B1.out (by omega) _) hb2 (by omega))
  have C2 := Lib.hid (blk_below (blk_set C1.out 1 _) hb2 (by omega))
  have HBb := Lib.hid ((HBa.out.trans (hb2.mono (by have := HBa.out.size; rw [size_set] at this; exact this))).setCell (p := ⟨w.heap.size + 1 + 1, 2, none⟩) (show w.heap.size ≤ w.heap.size + 1 + 1 by omega) (.slice (some ⟨w1.heap.size, 0, none⟩) na.length na.length))
  have HO2 := Lib.hid ho2
  clear a0 a1 a2 a3 d0 d1 d2 d3 f0 f1 f2 f3 az dz ho2
  obtain ⟨a0, a1, a2, a3, _, _, _, _, az⟩ := blk4 A2.out
  obtain ⟨d0, d1, d2, d3, f0, f1, f2, f3, dz⟩ := blk4 C2.out
  have HB2 := Lib.hid hb2
  have HZ2 := Lib.hid hz2
  clear hb2 hz2
  go_wp2_with fail
  refine (toShs_any _ su (fun x hx => IH.out x hx) _ (H4.out.keep (Keeps.of_below HBb.out)) l3).mono ?_
  rintro e w3 ⟨cs, F, rfl, ho3, ha3, hn3, hb3, hz3⟩
  rw [size_set] at ho3 ha3 hb3 hz3 ⊢
  have B3 := Lib.hid (blk_below (blk_other B2.out (by omega) _) hb3 (by omega))
  have C3 := Lib.hid (blk_below (blk_set C2.out 2 _) hb3 (by omega))
  clear a0 a1 a2 a3 d0 d1 d2 d3 f0 f1 f2 f3 az dz
  obtain ⟨b0, b1, b2, b3, e0, e1, e2, e3, ez⟩ := blk4 B3.out
  obtain ⟨d0, d1, d2, d3, f0, f1, f2, f3, dz⟩ := blk4 C3.out
  have HO3 := Lib.hid ho3
  have HA3 := Lib.hid ha3
  have HN3 := Lib.hid hn3
  have HB3 := Lib.hid hb3
  clear ho3 ha3 hn3 hb3
  go_wp2_with fail
  refine bodyPost_ret (v := .agg #[.int .i64 k, .slice (some ⟨w.heap.size + 1 + 1 + 1, 0, none⟩) sy.length sy.length, .slice (some ⟨w1.heap.size, 0, none⟩) na.length na.length, .slice (some ⟨w2.heap.size, 0, none⟩) su.length su.length]) ?_ rfl ?_
  · simp [results, Tryd.results27, go_sem, b0, b1, b2, b3]
  · exact toSh_end H1.out HO1.out HZ1.out HB2.out HO2.out HZ2.out HB3.out HO3.out HA3.out HN3.out HBb.out
end Go.Proofs.YtfdhmkmeffgkgaaDoor
