/- Walks: the closures that pack numbers, texts and words. · Walks: the closures that pack Items of one shape, and records. · Walks: the closure that packs records. -/
import Derived.Test.YtphiljhdonnpmaaGreatDoorGPkP
import Derived.Test.YtphiljhdonnpmaaGreatDoorGBytW
import Derived.Test.YtphiljhdonnpmaaGreatDoorGShaO
import Derived.Test.YtphiljhdonnpmaaGreatDoorGPosW
import Derived.Deep.RegionWith
import Derived.BigQuiet
import Derived.Deep.QuietTactic
import Derived.StillTailTactics
import Derived.Laws.EntriesVeiled
namespace Go.Proofs.YtphiljhdonnpmaaGreatDoor
open Go.RowKit

theorem OwnB.on {w w' : World} {base : Nat} {v : Value} {l : List UInt8} (h : OwnB w base v l) (hb : Below w.heap.size w w') : OwnB w' base v l :=
  own_block h fun g hg => hb.block g (blkOf_own h g hg).2


theorem ba_size (l : List UInt8) : (⟨l.toArray⟩ : ByteArray).size = l.length := by show (List.toArray _).size = _; simp

/-- In the world w0, and whatever lies behind it, the function value c packs what fits s. -/
def PacksAt (w0 : World) (s : Sh) (c : Value) : Prop := ∃ (F : FuncId) (caps : Array Value), c = .func (.func F) #[] caps ∧ (∀ (args : Array Value) (w : World), (callFunc F args).run Tryz.prog w = .ok (.enter F args) w) ∧
  ∀ (x : Va) (w : World) (v u : Value) (l : List UInt8), fitB s x = true → IsVa w0 x u → Below w0.heap.size w0 w → OwnB w w0.heap.size v l → l.length + (packB s x).length ≤ 1099511627776 →
    Calls Tryz.prog F (#[v, u] ++ caps) w (AppPost w0 w (l ++ packB s x))

set_option maxHeartbeats 400000 in
theorem packNum_any (w0 w : World) (v u : Value) (l : List UInt8) (x : Va) (h : IsVa w0 x u) (hb : Below w0.heap.size w0 w) (ho : OwnB w w0.heap.size v l) (hl : l.length + (putNum x.nn).length ≤ 1099511627776) :
    Calls Tryz.prog 153 #[v, u] w (AppPost w0 w (l ++ putNum x.nn)) := by
  cases x with | mk k n t it =>
  obtain ⟨vp, rfl, hk, hn, ht, a, cap, rfl, _⟩ := h.parts
  simp only [Va.nn] at hl ⊢
  obtain ⟨p, m, c, rfl⟩ := ho.slice
  have HN := Lib.hid (i64_of' hn)
  have HO := Lib.hid ho
  have HB := Lib.hid hb
  have HA := Lib.hid (fun o => below_alloc w o)
  have HL := Lib.hid hl
  clear h hk hn ht hb ho hl
  go_enter Tryz.func153, Tryz.ntmps153
  go_wp2_with fail
  refine (putNum_any n _ HN.out).mono ?_
  rintro e w1 ⟨rfl, hb1⟩
  have X1 := Lib.hid ((HA.out _).trans (hb1.mono (by simp)))
  have B1 := Lib.hid (HB.out.trans (X1.out.mono HB.out.size))
  have O1 := Lib.hid (HO.out.on X1.out)
  clear hb1
  go_wp2_with (at_builtin; go_must (refine wpList_strK w1 rfl (.tmp 5) (.tmp 8) rfl w0.heap.size _ l ⟨(putNum n).toArray⟩ rfl O1.out rfl (by have := HL.out; rw [ba_size]; omega) B1.out.size ?_))
  intro v' w2 hv' hb2 hk2
  obtain ⟨p', m', c', rfl⟩ := hv'.slice
  have P2 := Lib.hid hv'
  have B2 := Lib.hid (hb2 _ _ B1.out (Nat.le_refl _))
  have Z2 : Hid (w.heap.size ≤ w2.heap.size) := Nat.le_trans X1.out.size (hb2 0 w1 (Below.refl _ _) (Nat.zero_le _)).size
  have K2 := Lib.hid ((Kept.below X1.out).trans hk2)
  clear hv' hb2 hk2
  go_wp2_with fail
  go_ret
  exact ⟨p', m', c', rfl, by simpa using P2.out, B2.out, Z2.out, K2.out⟩

set_option maxHeartbeats 400000 in
theorem packText_any (w0 w : World) (v u : Value) (l : List UInt8) (x : Va) (h : IsVa w0 x u) (hx : x.tx.size ≤ 20) (hb : Below w0.heap.size w0 w) (ho : OwnB w w0.heap.size v l) (hl : l.length + (putText x.tx).length ≤ 1099511627776) :
    Calls Tryz.prog 157 #[v, u] w (AppPost w0 w (l ++ putText x.tx)) := by
  cases x with | mk k n t it =>
  obtain ⟨vp, rfl, hk, hn, ht, a, cap, rfl, _⟩ := h.parts
  simp only [Va.tx] at hl hx ⊢
  obtain ⟨p, m, c, rfl⟩ := ho.slice
  have HT : Hid (t.size ≤ maxLen) := by show _ ≤ _; unfold maxLen; omega
  have HO := Lib.hid ho
  have HB := Lib.hid hb
  have HA := Lib.hid (fun o => below_alloc w o)
  have HL := Lib.hid hl
  clear h hk hn ht hb ho hl hx
  go_enter Tryz.func157, Tryz.ntmps157
  go_wp2_with fail
  refine (putText_any t _ HT.out).mono ?_
  rintro e w1 ⟨rfl, hb1⟩
  have X1 := Lib.hid ((HA.out _).trans (hb1.mono (by simp)))
  have B1 := Lib.hid (HB.out.trans (X1.out.mono HB.out.size))
  have O1 := Lib.hid (HO.out.on X1.out)
  clear hb1
  go_wp2_with (at_builtin; go_must (refine wpList_strK w1 rfl (.tmp 5) (.tmp 8) rfl w0.heap.size _ l ⟨(putText t).toArray⟩ rfl O1.out rfl (by have := HL.out; rw [ba_size]; omega) B1.out.size ?_))
  intro v' w2 hv' hb2 hk2
  obtain ⟨p', m', c', rfl⟩ := hv'.slice
  have P2 := Lib.hid hv'
  have B2 := Lib.hid (hb2 _ _ B1.out (Nat.le_refl _))
  have Z2 : Hid (w.heap.size ≤ w2.heap.size) := Nat.le_trans X1.out.size (hb2 0 w1 (Below.refl _ _) (Nat.zero_le _)).size
  have K2 := Lib.hid ((Kept.below X1.out).trans hk2)
  clear hv' hb2 hk2
  go_wp2_with fail
  go_ret
  exact ⟨p', m', c', rfl, by simpa using P2.out, B2.out, Z2.out, K2.out⟩

set_option maxHeartbeats 400000 in
theorem packPick_any (sy : List ByteArray) (b : Nat) (q : Option Addr) (r d : Nat) (w0 w : World) (v u : Value) (l : List UInt8) (x : Va) (hsy : sy.length ≤ 6) (hc : w0.cell? ⟨b, 0, none⟩ = some (.slice q r d)) (hs : IsStrs w0 (.slice q r d) sy) (h : IsVa w0 x u) (hb : Below w0.heap.size w0 w) (ho : OwnB w w0.heap.size v l) (hl : l.length + (putNum (posOf sy x.tx)).length ≤ 1099511627776) :
    Calls Tryz.prog 161 #[v, u, .pointer (some ⟨b, 0, none⟩)] w (AppPost w0 w (l ++ putNum (posOf sy x.tx))) := by
  cases x with | mk k n t it =>
  obtain ⟨vp, rfl, hk, hn, ht, a, cap, rfl, _⟩ := h.parts
  simp only [Va.tx] at hl ⊢
  obtain ⟨p, m, c, rfl⟩ := ho.slice
  have HN := Lib.hid (i64_small (n := posOf sy t) (posOf_lo sy t) (by have := posOf_hi t sy; omega))
  have HO := Lib.hid ho
  have HB := Lib.hid hb
  have HA := Lib.hid (fun o => below_alloc w o)
  have HL := Lib.hid hl
  have HS := Lib.hid hs
  have hcw := Keeps.of_below hb _ _ _ hc
  have hbw := World.block_lt_of_cell? w ⟨b, 0, none⟩ hcw
  clear h hk hn hb ho hl hs hsy hc
  go_enter Tryz.func161, Tryz.ntmps161
  go_wp2_with fail
  refine (index_any _ sy t _ ((HS.out.keep (Keeps.of_below HB.out)).keep (keeps_alloc _ _))).mono ?_
  rintro e w' ⟨rfl, rfl⟩
  go_wp2_with fail
  refine (putNum_any _ _ HN.out).mono ?_
  rintro e w1 ⟨rfl, hb1⟩
  have X1 := Lib.hid ((HA.out _).trans (hb1.mono (by simp)))
  have B1 := Lib.hid (HB.out.trans (X1.out.mono HB.out.size))
  have O1 := Lib.hid (HO.out.on X1.out)
  clear hb1
  go_wp2_with (at_builtin; go_must (refine wpList_strK w1 rfl (.tmp 6) (.tmp 11) rfl w0.heap.size _ l ⟨(putNum (posOf sy t)).toArray⟩ rfl O1.out rfl (by have := HL.out; rw [ba_size]; omega) B1.out.size ?_))
  intro v' w2 hv' hb2 hk2
  obtain ⟨p', m', c', rfl⟩ := hv'.slice
  have P2 := Lib.hid hv'
  have B2 := Lib.hid (hb2 _ _ B1.out (Nat.le_refl _))
  have Z2 : Hid (w.heap.size ≤ w2.heap.size) := Nat.le_trans X1.out.size (hb2 0 w1 (Below.refl _ _) (Nat.zero_le _)).size
  have K2 := Lib.hid ((Kept.below X1.out).trans hk2)
  clear hv' hb2 hk2
  go_wp2_with fail
  go_ret
  exact ⟨p', m', c', rfl, by simpa using P2.out, B2.out, Z2.out, K2.out⟩
end Go.Proofs.YtphiljhdonnpmaaGreatDoor
namespace Go.Proofs.YtphiljhdonnpmaaGreatDoor
open Go.RowKit

theorem flat_len {α : Type} (f : α → List UInt8) (l : List α) (k : Nat) : ((l.take k).map f).flatten.length ≤ (l.map f).flatten.length := by
  have h : (l.map f).flatten.length = ((l.take k).map f).flatten.length + ((l.drop k).map f).flatten.length := by
    rw [← List.length_append, ← List.flatten_append, ← List.map_append, List.take_append_drop]
  omega
theorem packZip_all (l : List Sh) (m : List Va) : ∀ k, l.length = m.length → (packZip (l.take k) (m.take k)).length ≤ (packZip l m).length := by
  induction l generalizing m with
  | nil => intro k h; simp [packZip]
  | cons x l ih =>
    intro k h
    cases m with
    | nil => cases h
    | cons v m =>
      cases k with
      | zero => simp [packZip]
      | succ k =>
        have := ih m k (by simpa using h)
        simp only [List.take_succ_cons, packZip, List.length_append]
        omega

set_option maxRecDepth 100000 in
set_option maxHeartbeats 1000000 in
theorem packCount_any (s : Sh) (b : Nat) (cp cu : Value) (w0 w : World) (v u : Value) (l : List UInt8) (x : Va) (hp : PacksAt w0 s cp) (hc0 : w0.cell? ⟨b, 0, none⟩ = some cp) (hc1 : w0.cell? ⟨b, 1, none⟩ = some cu)
    (hf : x.it.all (fitB s) = true) (h6 : x.it.length ≤ 6) (h : IsVa w0 x u) (hb : Below w0.heap.size w0 w) (ho : OwnB w w0.heap.size v l) (hl : l.length + (putNum x.it.length ++ (x.it.map (packB s)).flatten).length ≤ 1099511627776) :
    Calls Tryz.prog 164 #[v, u, .pointer (some ⟨b, 0, none⟩)] w (AppPost w0 w (l ++ (putNum x.it.length ++ (x.it.map (packB s)).flatten))) := by
  cases x with | mk k n t it =>
  obtain ⟨vp, rfl, hk, hn, ht, hv⟩ := h.parts
  obtain ⟨a, cap, rfl, h1, h2, g6⟩ := hv
  simp only [Va.it] at hl hf h6 ⊢
  obtain ⟨F, caps, rfl, hF, hP⟩ := hp
  obtain ⟨p, m, c, rfl⟩ := ho.slice
  have HN := Lib.hid (inI64_nat (show it.length ≤ 1099511627776 by omega))
  have HO := Lib.hid ho
  have HB := Lib.hid hb
  have HA := Lib.hid (fun o => below_alloc w o)
  have HL := Lib.hid hl
  have HG := Lib.hid g6
  have HP := Lib.hid hP
  have HFt := Lib.hid hf
  have C0 := Lib.hid hc0
  have C1 := Lib.hid hc1
  clear h hb ho hl g6 hP hf hc0 hc1
  go_enter Tryz.func164, Tryz.ntmps164
  go_wp2_with fail
  refine (putNum_any _ _ HN.out).mono ?_
  rintro e w1 ⟨rfl, hb1⟩
  have X1 := Lib.hid ((HA.out _).trans (hb1.mono (by simp)))
  have A1 := Lib.hid (blk_below (Go.Deep.blk_alloc_new w (.cells #[.int .i64 k, .int .i64 n, .string t, .slice a it.length cap] 38)) hb1 (by simp))
  have B1 := Lib.hid (HB.out.trans (X1.out.mono HB.out.size))
  have O1 := Lib.hid (HO.out.on X1.out)
  clear hb1
  go_wp2_with (at_builtin; go_must (refine wpList_strK w1 rfl (.tmp 8) (.tmp 12) rfl w0.heap.size _ l ⟨(putNum it.length).toArray⟩ rfl O1.out rfl (by have := HL.out; simp only [List.length_append] at this; rw [ba_size]; omega) B1.out.size ?_))
  intro v' w2 hv' hb2 hk2
  obtain ⟨p', m', c', rfl⟩ := hv'.slice
  have P2 := Lib.hid hv'
  have B2 := Lib.hid (hb2 _ _ B1.out (Nat.le_refl _))
  have Z2 : Hid (w.heap.size ≤ w2.heap.size) := Nat.le_trans X1.out.size (hb2 0 w1 (Below.refl _ _) (Nat.zero_le _)).size
  have K2 := Lib.hid ((Kept.below X1.out).trans hk2)
  have A2 := Lib.hid (hk2 _ _ A1.out (by intro cur e; cases e))
  clear hv' hb2 hk2
  obtain ⟨a0, a1, a2, a3, _, _, _, _, az⟩ := blk4 A2.out
  go_wp2_with fail
  clear a0 a1 a2 a3 az
  go_loopw [0, 17] (fun o i wr => ∃ (j : Nat) (p : Option Addr) (m c : Nat) (L : List UInt8), j ≤ it.length ∧ i = .int .i64 j ∧ o = .slice p m c ∧ Hid (L = (l ++ putNum it.length) ++ ((it.take j).map (packB s)).flatten) ∧ Hid (OwnB wr w0.heap.size (.slice p m c) L) ∧ Hid (Below w0.heap.size w0 wr) ∧ Hid (w.heap.size ≤ wr.heap.size) ∧ Hid (Kept w wr)) (fun _ i _ => it.length - (intOf i).toNat)
  case atStart => exact ⟨0, _, _, _, _, Nat.zero_le _, rfl, rfl, by show _ = _; simp, P2.out, B2.out, Z2.out, K2.out⟩
  case round =>
    obtain ⟨j, p, m, c, L, hj, rfl, rfl, HE, HPr, HBr, HZ, HKe⟩ := hrel
    by_cases hlt : j < it.length
    · obtain ⟨b', off, rfl, d0, d1, d2, d3, e0, e1, e2, e3, e4⟩ := IsVas.at HG.out hlt
      have HKp := Lib.hid (Keeps.of_below HBr.out)
      have j0 := HKp.out _ _ _ e0
      have j1 := HKp.out _ _ _ e1
      have j2 := HKp.out _ _ _ e2
      have j3 := HKp.out _ _ _ e3
      have K4 := Lib.hid e4
      obtain ⟨r3, z3, rfl, rfl, rfl, rfl⟩ := e4.cells
      have hc0 := HKp.out _ _ _ C0.out
      have hc1 := HKp.out _ _ _ C1.out
      have hbz := World.block_lt_of_cell? wr ⟨b, 0, none⟩ hc0
      have HJ := Lib.hid (flat_take (packB s) it j hlt)
      have HFj := Lib.hid (List.all_eq_true.1 HFt.out it[j] (List.getElem_mem hlt))
      have HLj : Hid (L.length + (packB s it[j]).length ≤ 1099511627776) := by
        show _ ≤ _
        have h1 := HL.out
        have h2 := flat_len (packB s) it (j + 1)
        rw [HJ.out] at h2
        rw [HE.out]
        simp only [List.length_append] at h1 h2 ⊢
        omega
      clear e0 e1 e2 e3 e4
      go_wp2_with fail
      refine (HP.out it[j] _ _ _ L HFj.out K4.out (HBr.out.alloc HBr.out.size _) (HPr.out.alloc _) HLj.out).mono ?_
      rintro e w3 ⟨p', m', c', rfl, ho3, hb3, hz3, hk3⟩
      have P3 := Lib.hid ho3
      have B3 := Lib.hid hb3
      have Z3 : Hid (w.heap.size ≤ w3.heap.size) := Nat.le_trans HZ.out (Nat.le_trans (by simp) hz3)
      have K3 := Lib.hid (HKe.out.trans ((Kept.below (below_alloc wr _)).trans hk3))
      have E3 : Hid (L ++ packB s it[j] = (l ++ putNum it.length) ++ ((it.take (j + 1)).map (packB s)).flatten) := by show _ = _; rw [HE.out, HJ.out, List.append_assoc]
      clear ho3 hb3 hz3 hk3
      go_wp2_with fail
      go_roundw
      case rel => exact ⟨j + 1, p', m', c', _, hlt, by go_num, rfl, E3.out, P3.out, B3.out, Z3.out, K3.out⟩
      case measure => simp [intOf]; omega
    · have hge : (it.length : Int) ≤ (j : Int) := by omega
      have hje : j = it.length := by omega
      have E3 : Hid (L = l ++ (putNum it.length ++ (it.map (packB s)).flatten)) := by show _ = _; rw [HE.out, hje, List.take_length, List.append_assoc]
      clear hje
      go_wp2_with fail
      go_ret
      exact ⟨p, m, c, rfl, by rw [← E3.out]; exact HPr.out, HBr.out, HZ.out, HKe.out⟩
end Go.Proofs.YtphiljhdonnpmaaGreatDoor
namespace Go.Proofs.YtphiljhdonnpmaaGreatDoor
open Go.RowKit

set_option maxRecDepth 100000 in
set_option maxHeartbeats 1000000 in
theorem packRec_any (su : List Sh) (b : Nat) (aa : Option Addr) (cc : Nat) (w0 w : World) (v u : Value) (l : List UInt8) (x : Va) (hc : w0.cell? ⟨b, 0, none⟩ = some (.slice aa su.length cc)) (hcc : su.length ≤ cc ∧ cc ≤ 9223372036854775807)
    (hrow : ∀ i (h : i < su.length), ∃ (g off : Nat), aa = some ⟨g, off, none⟩ ∧ ∃ (f1 : FuncId) (c1 : Array Value) (f2 : FuncId) (c2 : Array Value), w0.cell? ⟨g, off + i * 2, none⟩ = some (.func (.func f1) #[] c1) ∧ w0.cell? ⟨g, off + i * 2 + 1, none⟩ = some (.func (.func f2) #[] c2) ∧ PacksAt w0 su[i] (.func (.func f1) #[] c1))
    (hz : fitZip su x.it = true) (h : IsVa w0 x u) (hb : Below w0.heap.size w0 w) (ho : OwnB w w0.heap.size v l) (hl : l.length + (packZip su x.it).length ≤ 1099511627776) :
    Calls Tryz.prog 168 #[v, u, .pointer (some ⟨b, 0, none⟩)] w (AppPost w0 w (l ++ packZip su x.it)) := by
  cases x with | mk k n t it =>
  obtain ⟨vp, rfl, hk, hn, ht, hv⟩ := h.parts
  obtain ⟨a, cap, rfl, h1, h2, g6⟩ := hv
  simp only [Va.it] at hl hz ⊢
  obtain ⟨p, m, c, rfl⟩ := ho.slice
  have HO := Lib.hid ho
  have HB := Lib.hid hb
  have HL := Lib.hid hl
  have HG := Lib.hid g6
  have HR := Lib.hid hrow
  have HLn := Lib.hid (fitZip_len su it hz)
  have HF := Lib.hid (fun (j : Nat) (h : j < su.length) (h' : j < it.length) => fitZip_at su it j h h' hz)
  have HC := Lib.hid hc
  have HCC := Lib.hid hcc
  have hcw := Keeps.of_below hb _ _ _ hc
  have hbw : b < w.heap.size := World.block_lt_of_cell? w ⟨b, 0, none⟩ hcw
  obtain ⟨W, hW⟩ : ∃ W, W = w.alloc (.cells #[.int .i64 k, .int .i64 n, .string t, .slice a it.length cap] 38) := ⟨_, rfl⟩
  have X1 : Hid (Below w.heap.size w W) := by show Below _ _ _; rw [hW]; exact below_alloc _ _
  have A1 : Hid (W.heap[w.heap.size]? = some (.cells #[.int .i64 k, .int .i64 n, .string t, .slice a it.length cap] 38 (0, 0))) := by show _ = _; rw [hW]; exact Go.Deep.blk_alloc_new _ _
  have B1 := Lib.hid (HB.out.trans (X1.out.mono HB.out.size))
  have O1 := Lib.hid (HO.out.on X1.out)
  have HW := Lib.hid hW
  clear h hb ho hl g6 hrow hz hc hcc hW
  go_enter Tryz.func168, Tryz.ntmps168
  go_wp2_with fail
  clear hcw hbw
  go_loopw [0, 10] (fun o i wr => ∃ (j : Nat) (p : Option Addr) (m c : Nat) (L : List UInt8), j ≤ su.length ∧ i = .int .i64 j ∧ o = .slice p m c ∧ Hid (L = l ++ packZip (su.take j) (it.take j)) ∧ Hid (OwnB wr w0.heap.size (.slice p m c) L) ∧ Hid (Below w0.heap.size w0 wr) ∧ Hid (w.heap.size ≤ wr.heap.size) ∧ Hid (Kept w wr) ∧ Hid (wr.heap[w.heap.size]? = some (.cells #[.int .i64 k, .int .i64 n, .string t, .slice a it.length cap] 38 (0, 0)))) (fun _ i _ => su.length - (intOf i).toNat)
  case atStart =>
    rw [← HW.out]
    exact ⟨0, _, _, _, l, Nat.zero_le _, rfl, rfl, by show _ = _; simp [packZip], O1.out, B1.out, X1.out.size, Kept.below X1.out, A1.out⟩
  case round =>
    obtain ⟨j, p, m, c, L, hj, rfl, rfl, HE, HPr, HBr, HZ, HKe, HAr⟩ := hrel
    by_cases hlt : j < su.length
    · have hlt2 : j < it.length := by have := HLn.out; omega
      obtain ⟨b', off', rfl, d0, d1, d2, d3, e0, e1, e2, e3, e4⟩ := IsVas.at HG.out hlt2
      obtain ⟨g, off, rfl, f1, c1, f2, c2, r0, r1, ⟨F, caps, hFc, hF, hP⟩⟩ := HR.out j hlt
      cases hFc
      have HKp := Lib.hid (Keeps.of_below HBr.out)
      have j0 := HKp.out _ _ _ e0
      have j1 := HKp.out _ _ _ e1
      have j2 := HKp.out _ _ _ e2
      have j3 := HKp.out _ _ _ e3
      have K4 := Lib.hid e4
      obtain ⟨r3, z3, rfl, rfl, rfl, rfl⟩ := e4.cells
      have k0 := HKp.out _ _ _ r0
      have k1 := HKp.out _ _ _ r1
      have HP := Lib.hid hP
      have HFj := Lib.hid (HF.out j hlt hlt2)
      have hJ := packZip_take su it j hlt hlt2
      have HLj : Hid (L.length + (packB su[j] it[j]).length ≤ 1099511627776) := by
        show _ ≤ _
        have h1 := HL.out
        have h2 := packZip_all su it (j + 1) HLn.out
        rw [hJ] at h2
        rw [HE.out]
        simp only [List.length_append] at h1 h2 ⊢
        omega
      have HJ := Lib.hid hJ
      obtain ⟨W1, hW1⟩ : ∃ W1, W1 = wr.alloc (.cells #[.func (.func f1) #[] c1, .func (.func f2) #[] c2] 79) := ⟨_, rfl⟩
      have hba : Below wr.heap.size wr W1 := by rw [hW1]; exact below_alloc _ _
      have hnw : W1.heap[wr.heap.size]? = some (.cells #[.func (.func f1) #[] c1, .func (.func f2) #[] c2] 79 (0, 0)) := by rw [hW1]; exact Go.Deep.blk_alloc_new _ _
      have HW1 := Lib.hid hW1
      have BA := Lib.hid hba
      obtain ⟨a0, a1, a2, a3, _, _, _, _, az⟩ := blk4 (blk_below HAr.out hba (Array.getElem?_eq_some_iff.1 HAr.out).1)
      have v0 := Keeps.of_below hba _ _ _ j0
      have v1 := Keeps.of_below hba _ _ _ j1
      have v2 := Keeps.of_below hba _ _ _ j2
      have v3 := Keeps.of_below hba _ _ _ j3
      have n0 : W1.cell? ⟨wr.heap.size, 0, none⟩ = some (.func (.func f1) #[] c1) := by simp [World.cell?, hnw]
      have nz : wr.heap.size < W1.heap.size := (Array.getElem?_eq_some_iff.1 hnw).1
      clear e0 e1 e2 e3 e4 r0 r1 hP hJ hW1 hba hnw
      go_wp2_with fail
      rw [← HW1.out]
      go_still_tail 8, (by kernel_rfl)
      change wpList _ _ _ _ _ W1.drew
      go_wp2_with fail
      refine (HP.out it[j] _ _ _ L HFj.out K4.out ((HBr.out.trans (BA.out.mono HBr.out.size)).drew) (HPr.out.on BA.out.drew) HLj.out).mono ?_
      rintro e w3 ⟨p', m', c', rfl, ho3, hb3, hz3, hk3⟩
      have P3 := Lib.hid ho3
      have B3 := Lib.hid hb3
      have Z3 : Hid (w.heap.size ≤ w3.heap.size) := Nat.le_trans HZ.out (Nat.le_trans BA.out.size hz3)
      have K3 := Lib.hid (HKe.out.trans ((Kept.below BA.out.drew).trans hk3))
      have A3 := Lib.hid (hk3 _ _ (blk_below HAr.out BA.out.drew (Array.getElem?_eq_some_iff.1 HAr.out).1) (by intro cur e; cases e))
      have E3 : Hid (L ++ packB su[j] it[j] = l ++ packZip (su.take (j + 1)) (it.take (j + 1))) := by show _ = _; rw [HE.out, HJ.out, List.append_assoc]
      clear ho3 hb3 hz3 hk3 a0 a1 a2 a3 az v0 v1 v2 v3 n0 nz j0 j1 j2 j3 k0 k1
      go_wp2_with fail
      go_roundw
      case rel => exact ⟨j + 1, p', m', c', _, hlt, by go_num, rfl, E3.out, P3.out, B3.out, Z3.out, K3.out, A3.out⟩
      case measure => simp [intOf]; omega
    · have hje : j = su.length := by omega
      have E3 : Hid (L = l ++ packZip su it) := by show _ = _; rw [HE.out, hje, List.take_length, HLn.out, List.take_length]
      have hge : (su.length : Int) ≤ (j : Int) := by omega
      clear hje
      go_wp2_with fail
      go_ret
      exact ⟨p, m, c, rfl, by rw [← E3.out]; exact HPr.out, HBr.out, HZ.out, HKe.out⟩
end Go.Proofs.YtphiljhdonnpmaaGreatDoor
