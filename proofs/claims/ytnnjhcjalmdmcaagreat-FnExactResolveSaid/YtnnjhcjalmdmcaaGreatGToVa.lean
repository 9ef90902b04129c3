/- Walks: laws.toValS, laws.toVal: an argument in memory of the law's own. · Walks: laws.toVal. -/
import Derived.Test.YtnnjhcjalmdmcaaGreatGOwnA
import Derived.Test.YtnnjhcjalmdmcaaGreatGSzA
import Derived.Test.YtnnjhcjalmdmcaaGreatGToW
namespace Go.Proofs.YtnnjhcjalmdmcaaGreat
open Go.RowKit

theorem info_val : (Tryz.prog.info? 29).map (fun i => (i.zero, i.size, i.bytes)) = some (some (.agg #[.int .i64 0, .int .i64 0, .string ⟨#[]⟩, .slice none 0 0]), 4, 56) := by kernel_rfl
/-- make([]impl.Val, n). -/
theorem make_vals (n : Nat) (h : n ≤ 1048576) (w : World) :
    (Instr.makeSlice 27 (.int .i64 (n : Int)) (.int .i64 (n : Int))).run Tryz.prog w = .ok (.slice (some ⟨w.heap.size, 0, none⟩) n n) (w.alloc (.cells (madeCells #[.int .i64 0, .int .i64 0, .string ⟨#[]⟩, .slice none 0 0] (n * 4)) 29)) := by
  obtain ⟨i, hi, hz, hs, hb⟩ := info_parts info_val
  have := run_make (P := Tryz.prog) w 27 29 i _ Tryz.underlying27 hi hz .i64 .i64 n n (by omega) (Int.le_refl _) (by rw [hb]; omega) (by omega)
  simpa [hs, Value.cells] using this

/-- What toVal leaves. -/
def ToVPost (x : Va) (w : World) (e : Ending) (w' : World) : Prop :=
  ∃ c0 c1 c2 c3 F, e = .returned (.agg #[c0, c1, c2, c3]) ∧ OwnVa w' w.heap.size x (.agg #[c0, c1, c2, c3]) F ∧ F.Nodup ∧ Below w.heap.size w w'
def ToVAt (x : Va) : Prop := ∀ (v : Value) (w : World), IsVa w x v → x.sz ≤ 1048576 → Calls Tryz.prog 21 #[v] w (ToVPost x w)
/-- What toValS leaves. -/
def TosVPost (l : List Va) (w : World) (e : Ending) (w' : World) : Prop :=
  ∃ cs F, e = .returned (.slice (some ⟨w.heap.size, 0, none⟩) l.length l.length) ∧ w'.ownsRow w.heap.size 29 4 (.slice (some ⟨w.heap.size, 0, none⟩) l.length l.length) l.length cs ∧
    OwnVas w' (w.heap.size + 1) l cs F ∧ F.Nodup ∧ Below w.heap.size w w' ∧ w.heap.size < w'.heap.size

theorem vsz_mem {l : List Va} {k : Nat} (h : k < l.length) : l[k].sz ≤ Va.szs l := by
  have h1 := vszs_take l k h
  have h2 := vszs_take_le l (k + 1)
  omega

/-- One round of toValS. -/
theorem tovs_step {w wr w1 : World} {l : List Va} {k : Nat} {cs : List Value} {F F1 : List Nat} {c0 c1 c2 c3 : Value} (hk : k < l.length) (hA : OwnVas wr (w.heap.size + 1) (l.take k) cs F) (hN : F.Nodup)
    (hF : Filled wr w.heap.size 29 cs ((l.length - k) * 4)) (hB : Below w.heap.size w wr) (h1 : OwnVa w1 wr.heap.size l[k] (.agg #[c0, c1, c2, c3]) F1) (hN1 : F1.Nodup) (hB1 : Below wr.heap.size wr w1) :
    OwnVas ((((w1.setCell ⟨w.heap.size, k * 4, none⟩ c0).setCell ⟨w.heap.size, k * 4 + 1, none⟩ c1).setCell ⟨w.heap.size, k * 4 + 2, none⟩ c2).setCell ⟨w.heap.size, k * 4 + 3, none⟩ c3) (w.heap.size + 1) (l.take (k + 1)) (cs ++ [c0, c1, c2, c3]) (F ++ F1) ∧
    (F ++ F1).Nodup ∧
    Filled ((((w1.setCell ⟨w.heap.size, k * 4, none⟩ c0).setCell ⟨w.heap.size, k * 4 + 1, none⟩ c1).setCell ⟨w.heap.size, k * 4 + 2, none⟩ c2).setCell ⟨w.heap.size, k * 4 + 3, none⟩ c3) w.heap.size 29 (cs ++ [c0, c1, c2, c3]) ((l.length - (k + 1)) * 4) ∧
    Below w.heap.size w ((((w1.setCell ⟨w.heap.size, k * 4, none⟩ c0).setCell ⟨w.heap.size, k * 4 + 1, none⟩ c1).setCell ⟨w.heap.size, k * 4 + 2, none⟩ c2).setCell ⟨w.heap.size, k * 4 + 3, none⟩ c3) := by
  have hlt := hF.lt
  have hlen := hA.len
  have e : (l.take k).length = k := by simp; omega
  rw [e] at hlen
  have hlF := hA.lt
  have hlF1 := OwnVa.blocks _ _ _ h1
  have hA1 : OwnVas w1 (w.heap.size + 1) (l.take k) cs F := hA.move (Nat.le_refl _) fun g hg => hB1.block g (hlF g hg).2
  have h1' : OwnVa w1 (w.heap.size + 1) l[k] (.agg #[c0, c1, c2, c3]) F1 := OwnVa.move (by omega) _ _ _ (fun _ _ => rfl) h1
  have hs := OwnVas.snoc hA1 h1'
  rw [← List.take_succ_eq_append_getElem hk] at hs
  have hF1 : Filled w1 w.heap.size 29 cs ((l.length - (k + 1)) * 4 + 4) := by
    rw [show (l.length - (k + 1)) * 4 + 4 = (l.length - k) * 4 by omega]
    exact hF.block (hB1.block _ hlt)
  refine ⟨hs.move (Nat.le_refl _) fun g hg => set4_other (by have := hs.lt g hg; omega), ?_, hF1.set4 c0 c1 c2 c3 hlen.symm, set4_below (hB.trans (hB1.mono hB.size)) (Nat.le_refl _) _ _ _ _⟩
  rw [List.nodup_append]
  refine ⟨hN, hN1, fun a ha b hb => ?_⟩
  have := (hlF a ha).2
  have := (hlF1 b hb).1
  omega

set_option maxHeartbeats 1000000 in
theorem toVas_any (v : Value) (l : List Va) (ih : ∀ x ∈ l, ToVAt x) (w : World) (h : IsVas w v l) (hl : l.length + Va.szs l ≤ 1048576) :
    Calls Tryz.prog 48 #[v] w (TosVPost l w) := by
  obtain ⟨a, cap, rfl, h3, h4, h6⟩ := h
  have H6 := Lib.hid h6
  have IH := Lib.hid ih
  clear h6 ih
  have hl' : l.length ≤ 1048576 := by omega
  have hmk := make_vals l.length hl'
  go_enter Tryz.func48, Tryz.ntmps48
  go_wp2_with fail
  go_loopw [4] (fun i wr => ∃ (k : Nat) (cs : List Value) (F : List Nat), k ≤ l.length ∧ i = .int .i64 k ∧ Hid (OwnVas wr (w.heap.size + 1) (l.take k) cs F) ∧ Hid F.Nodup ∧ Hid (Filled wr w.heap.size 29 cs ((l.length - k) * 4)) ∧ Hid (Below w.heap.size w wr)) (fun i _ => l.length - (intOf i).toNat)
  case atStart => exact ⟨0, [], [], Nat.zero_le _, rfl, by show OwnVas _ _ _ _ _; simp [OwnVas], List.nodup_nil, Filled.made _ _ _ _, below_alloc _ _⟩
  case round =>
    obtain ⟨k, cs, F, hk, rfl, HA, HN, HF, HB⟩ := hrel
    by_cases hlt : k < l.length
    · obtain ⟨b, off, rfl, c0, c1, c2, c3, g0, g1, g2, g3, g4⟩ := IsVas.at H6.out hlt
      have HK := Lib.hid (Keeps.of_below HB.out)
      have k0 := HK.out _ _ _ g0
      have k1 := HK.out _ _ _ g1
      have k2 := HK.out _ _ _ g2
      have k3 := HK.out _ _ _ g3
      have K4 := Lib.hid (IsVa.keep HK.out _ _ g4)
      clear g0 g1 g2 g3 g4
      go_wp2_with fail
      refine (IH.out _ (List.getElem_mem hlt) _ _ K4.out (by have := vsz_mem hlt; omega)).mono ?_
      rintro e w1 ⟨d0, d1, d2, d3, F1, rfl, h1, hN1, hB1⟩
      have HS := Lib.hid (tovs_step hlt HA.out HN.out HF.out HB.out h1 hN1 hB1)
      have HF1 := Lib.hid (HF.out.block (hB1.block _ HF.out.lt))
      have hcl := HA.out.len
      have e : (l.take k).length = k := by simp; omega
      rw [e] at hcl
      have HC := Lib.hid hcl
      obtain ⟨x0, y0⟩ := HF1.out.cell (show 0 < (l.length - k) * 4 by omega)
      obtain ⟨x1, y1⟩ := HF1.out.cell (show 1 < (l.length - k) * 4 by omega)
      obtain ⟨x2, y2⟩ := HF1.out.cell (show 2 < (l.length - k) * 4 by omega)
      obtain ⟨x3, y3⟩ := HF1.out.cell (show 3 < (l.length - k) * 4 by omega)
      rw [hcl] at y0 y1 y2 y3
      rw [Nat.add_zero] at y0
      have f0 := HF1.out.frozen (k * 4)
      have f1 := HF1.out.frozen (k * 4 + 1)
      have f2 := HF1.out.frozen (k * 4 + 2)
      have f3 := HF1.out.frozen (k * 4 + 3)
      have hz := HF1.out.lt
      obtain ⟨p3, m3, rfl, rfl, rfl, rfl⟩ := (OwnVa.is _ _ _ h1).cells
      clear h1 hN1 hB1 hcl e k0 k1 k2 k3
      go_wp2_with fail
      go_roundw
      case rel => exact ⟨k + 1, _, _, hlt, by go_num, HS.out.1, HS.out.2.1, HS.out.2.2.1, HS.out.2.2.2⟩
      case measure => simp [intOf]; omega
    · obtain rfl : k = l.length := by omega
      go_wp2_with fail
      go_ret
      have hA := HA.out
      have hF := HF.out
      rw [List.take_length] at hA
      rw [Nat.sub_self, Nat.zero_mul] at hF
      exact ⟨cs, F, rfl, hF.own hA.len (Nat.le_refl _) (by unfold maxLen; omega), hA, HN.out, HB.out, hF.lt⟩
end Go.Proofs.YtnnjhcjalmdmcaaGreat
namespace Go.Proofs.YtnnjhcjalmdmcaaGreat
open Go.RowKit

theorem toVa_end {w w1 : World} {k n : Int} {t : ByteArray} {it : List Va} {cs : List Value} {F : List Nat} {W0 : World} {u c0 c1 c2 c3 : Value} (hk : InI64' k) (hn : InI64' n) (ht : t.size ≤ 9223372036854775807)
    (hW : Below w.heap.size w W0) (hz : W0.heap.size = w.heap.size + 1 + 1 + 1) (hb : Below W0.heap.size W0 w1)
    (ho : w1.ownsRow W0.heap.size 29 4 (.slice (some ⟨W0.heap.size, 0, none⟩) it.length it.length) it.length cs) (ha : OwnVas w1 (W0.heap.size + 1) it cs F) (hF : F.Nodup) :
    ToVPost (.mk k n t it) w (.returned (.agg #[.int .i64 k, .int .i64 n, .string t, .slice (some ⟨W0.heap.size, 0, none⟩) it.length it.length]))
      (((((w1.setCell ⟨w.heap.size + 1 + 1, 3, none⟩ u).setCell ⟨w.heap.size + 1, 0, none⟩ c0).setCell ⟨w.heap.size + 1, 1, none⟩ c1).setCell ⟨w.heap.size + 1, 2, none⟩ c2).setCell ⟨w.heap.size + 1, 3, none⟩ c3) := by
  have e3 : ∀ g, g ≠ w.heap.size + 1 → g ≠ w.heap.size + 1 + 1 → (((((w1.setCell ⟨w.heap.size + 1 + 1, 3, none⟩ u).setCell ⟨w.heap.size + 1, 0, none⟩ c0).setCell ⟨w.heap.size + 1, 1, none⟩ c1).setCell ⟨w.heap.size + 1, 2, none⟩ c2).setCell ⟨w.heap.size + 1, 3, none⟩ c3).heap[g]? = w1.heap[g]? := fun g h1 h2 => by
    rw [Below.heap_setCell _ _ _ _ h1, Below.heap_setCell _ _ _ _ h1, Below.heap_setCell _ _ _ _ h1, Below.heap_setCell _ _ _ _ h1, Below.heap_setCell _ _ _ _ h2]
  have hlF := ha.lt
  refine ⟨_, _, _, _, W0.heap.size :: F, rfl, ?_, ?_, ?_⟩
  · simp only [OwnVa]
    refine ⟨_, cs, F, rfl, hk, hn, ht, own_mono (own_block ho fun g hg => ?_) (by omega), ha.move (by omega) fun g hg => ?_, rfl⟩
    · simp [blkOf] at hg
      subst hg
      rw [e3 _ (by omega) (by omega)]
    · have := hlF g hg
      rw [e3 _ (by omega) (by omega)]
  · refine List.nodup_cons.2 ⟨fun h => ?_, hF⟩
    have := hlF _ h; omega
  · have hbb := hW.trans (hb.mono (by omega))
    exact set4_below (hbb.setCell (p := ⟨w.heap.size + 1 + 1, 3, none⟩) (by show _ ≤ w.heap.size + 1 + 1; omega) _) (by omega) _ _ _ _

set_option maxRecDepth 100000 in
set_option maxHeartbeats 1000000 in
theorem toVa_any : ∀ x, ToVAt x := by
  refine Va.ind fun k n t it ih v w h hsz => ?_
  obtain ⟨vp, rfl, h1, h2, h3, h4⟩ := h.parts
  simp only [Va.sz] at hsz
  have IH := Lib.hid ih
  have H1 := Lib.hid h1
  have H2 := Lib.hid h2
  have H3 := Lib.hid h3
  have H4 := Lib.hid h4
  have l3 : it.length + Va.szs it ≤ 1048576 := by omega
  clear h ih h1 h2 h4 hsz
  have hB0 : ∀ o1 o2 o3 : Obj, Below w.heap.size w (((w.alloc o1).alloc o2).alloc o3) := fun o1 o2 o3 => ((below_alloc w o1).alloc (by simp) o2).alloc (by simp; omega) o3
  have HB0 := Lib.hid hB0
  have HN := Lib.hid (three_new w)
  clear hB0
  go_enter Tryz.func21, Tryz.ntmps21
  go_wp2_with fail
  obtain ⟨W0, hW0⟩ : ∃ W0, W0 = (((w.alloc (.cells #[.int .i64 k, .int .i64 n, .string t, vp] 49)).alloc (.cells #[.int .i64 0, .int .i64 0, .string ⟨#[]⟩, .slice none 0 0] 29)).alloc (.cells #[.int .i64 k, .int .i64 n, .string t, .slice none 0 0] 29)) := ⟨_, rfl⟩
  have HBW : Hid (Below w.heap.size w W0) := by show Below _ _ _; rw [hW0]; exact HB0.out _ _ _
  have HZ : Hid (W0.heap.size = w.heap.size + 1 + 1 + 1) := by show _ = _; rw [hW0]; simp
  obtain ⟨n0, n1, n2⟩ := HN.out (.cells #[.int .i64 k, .int .i64 n, .string t, vp] 49) (.cells #[.int .i64 0, .int .i64 0, .string ⟨#[]⟩, .slice none 0 0] 29) (.cells #[.int .i64 k, .int .i64 n, .string t, .slice none 0 0] 29)
  rw [← hW0] at n0 n1 n2 ⊢
  refine (toVas_any _ it (fun x hx => IH.out x hx) _ (H4.out.keep (Keeps.of_below HBW.out)) l3).mono ?_
  rintro e w1 ⟨cs, F, rfl, ho3, ha3, hn3, hb3, hz3⟩
  have B3 := Lib.hid (blk_below n1 hb3 (by have := HZ.out; omega))
  have C3 := Lib.hid (blk_below n2 hb3 (by have := HZ.out; omega))
  have HO3 := Lib.hid ho3
  have HA3 := Lib.hid ha3
  have HN3 := Lib.hid hn3
  have HB3 := Lib.hid hb3
  clear ho3 ha3 hn3 hb3 n0 n1 n2 hz3 hW0
  obtain ⟨b0, b1, b2, b3, e0, e1, e2, e3, ez⟩ := blk4 B3.out
  obtain ⟨d0, d1, d2, d3, f0, f1, f2, f3, dz⟩ := blk4 C3.out
  go_wp2_with fail
  refine bodyPost_ret (v := .agg #[.int .i64 k, .int .i64 n, .string t, .slice (some ⟨W0.heap.size, 0, none⟩) it.length it.length]) ?_ rfl ?_
  · simp [results, Tryz.results21, go_sem, b0, b1, b2, b3]
  · exact toVa_end H1.out H2.out H3.out HBW.out HZ.out HB3.out HO3.out HA3.out HN3.out
end Go.Proofs.YtnnjhcjalmdmcaaGreat
