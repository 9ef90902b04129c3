/- Walks: the closures that unpack numbers, texts and words. · Walks: (*impl.byteReader).row. -/
import Derived.Test.YtbpidhlpakobiaaGreatDoorHUnRW
import Derived.Test.YtbpidhlpakobiaaGreatDoorHOwnA
import Derived.Laws.EntriesVeiled
import Derived.Test.YtbpidhlpakobiaaGreatDoorHPkOf
namespace Go.Proofs.YtbpidhlpakobiaaGreatDoor
open Go.RowKit

/-- What a closure that unpacks leaves. -/
def UPost (bs : ByteArray) (rb : Nat) (w : World) (r : UnR) (e : Ending) (w' : World) : Prop :=
  ∃ (k n : Int) (t : ByteArray) (q : Option Addr) (l m : Nat) (F : List Nat), e = .returned (.tuple #[.agg #[.int .i64 k, .int .i64 n, .string t, .slice q l m], errV r.2.2]) ∧
    (r.2.2 = 0 → OwnVa w' w.heap.size r.1 (.agg #[.int .i64 k, .int .i64 n, .string t, .slice q l m]) F ∧ F.Nodup ∧ RdAt w' rb bs r.2.1) ∧ Only [rb] w w'
theorem errV_ok : errV 0 = .nilIface := rfl
/-- A Val with no Items. -/
theorem own_bare {w : World} {B : Nat} {k n : Int} {t : ByteArray} (hk : InI64' k) (hn : InI64' n) (ht : t.size ≤ 9223372036854775807) : OwnVa w B (.mk k n t []) (.agg #[.int .i64 k, .int .i64 n, .string t, .slice none 0 0]) [] := by
  simp only [OwnVa]
  exact ⟨_, [], [], rfl, hk, hn, ht, World.ownsRow_nil _ _ _ _, by simp [OwnVas], rfl⟩
theorem cell_only {w w' : World} {rb b o : Nat} {c : Value} (h : Only [rb] w w') (hc : w.cell? ⟨b, o, none⟩ = some c) (hne : b ≠ rb) : w'.cell? ⟨b, o, none⟩ = some c := by
  have hb : b < w.heap.size := World.block_lt_of_cell? w ⟨b, o, none⟩ hc
  have e := h.block b hb (by simpa using hne)
  unfold World.cell? at hc ⊢
  simp only at hc ⊢
  rw [e]; exact hc

/-- The four cells of a result. -/
def putV (w : World) (b : Nat) (k n : Int) (t : ByteArray) (v : Value) : World :=
  (((w.setCell ⟨b, 0, none⟩ (.int .i64 k)).setCell ⟨b, 1, none⟩ (.int .i64 n)).setCell ⟨b, 2, none⟩ (.string t)).setCell ⟨b, 3, none⟩ v
theorem putV_other (w : World) (b : Nat) (k n : Int) (t : ByteArray) (v : Value) {g : Nat} (h : g ≠ b) : (putV w b k n t v).heap[g]? = w.heap[g]? := by
  unfold putV
  rw [Below.heap_setCell _ _ _ _ h, Below.heap_setCell _ _ _ _ h, Below.heap_setCell _ _ _ _ h, Below.heap_setCell _ _ _ _ h]
theorem putV_size (w : World) (b : Nat) (k n : Int) (t : ByteArray) (v : Value) : (putV w b k n t v).heap.size = w.heap.size := by
  unfold putV; rw [size_set, size_set, size_set, size_set]
theorem putV_only {F : List Nat} {a w : World} (h : Only F a w) {b : Nat} (hb : a.heap.size ≤ b) (k n : Int) (t : ByteArray) (v : Value) : Only F a (putV w b k n t v) :=
  (((h.put hb _ _).put hb _ _).put hb _ _).put hb _ _
theorem upost_ok {bs : ByteArray} {rb : Nat} {w w1 : World} {x : Va} {q : Int} {k n : Int} {t : ByteArray} {p : Option Addr} {l m : Nat} {F : List Nat} (ho : Only [rb] w w1) (hrz : rb < w.heap.size) (hr : RdAt w1 rb bs q) (hown : OwnVa w1 w.heap.size x (.agg #[.int .i64 k, .int .i64 n, .string t, .slice p l m]) F) (hF : ∀ g ∈ F, g ≠ w.heap.size) (hnd : F.Nodup) :
    UPost bs rb w (x, q, 0) (.returned (.tuple #[.agg #[.int .i64 k, .int .i64 n, .string t, .slice p l m], .nilIface])) (putV w1 w.heap.size k n t (.slice p l m)) :=
  ⟨k, n, t, p, l, m, F, rfl, fun _ => ⟨OwnVa.move (Nat.le_refl _) _ _ _ (fun g hg => putV_other _ _ _ _ _ _ (hF g hg)) hown, hnd, by show _ = _; rw [putV_other _ _ _ _ _ _ (show rb ≠ w.heap.size by omega)]; exact hr⟩, putV_only ho (Nat.le_refl _) _ _ _ _⟩
theorem upost_bad {bs : ByteArray} {rb : Nat} {w w1 : World} {c : Int} (hc : c ≠ 0) (ho : Only [rb] w w1) :
    UPost bs rb w (zeroVa, 0, c) (.returned (.tuple #[.agg #[.int .i64 0, .int .i64 0, .string ⟨#[]⟩, .slice none 0 0], .iface 97 (.agg #[.int .i64 c])])) (putV w1 w.heap.size 0 0 ⟨#[]⟩ (.slice none 0 0)) :=
  ⟨0, 0, ⟨#[]⟩, none, 0, 0, [], by rw [errV_bad hc], fun h => absurd h hc, putV_only ho (Nat.le_refl _) _ _ _ _⟩

set_option maxRecDepth 100000 in
set_option maxHeartbeats 1000000 in
theorem unNum_any (bs : ByteArray) (p k most : Int) (rb bm bk : Nat) (w : World) (hs : bs.size ≤ 8000) (hki : InI64' k) (h : RdAt w rb bs p) (hm : w.cell? ⟨bm, 0, none⟩ = some (.int .i64 most)) (hk : w.cell? ⟨bk, 0, none⟩ = some (.int .i64 k)) (hne : bk ≠ rb) (hmo : most ≤ 1000000) :
    Calls Tryz.prog 151 #[.pointer (some ⟨rb, 0, none⟩), .pointer (some ⟨bm, 0, none⟩), .pointer (some ⟨bk, 0, none⟩)] w
      (UPost bs rb w (if (readN bs p most).2.2 ≠ 0 then (zeroVa, 0, (readN bs p most).2.2) else (.mk k (readN bs p most).1 ⟨#[]⟩ [], (readN bs p most).2.1, 0))) := by
  obtain ⟨⟨n, q, c⟩, hR⟩ : ∃ R : Int × Int × Int, readN bs p most = R := ⟨_, rfl⟩
  have hpl := readN_place (bs := bs) (p := p) (most := most)
  rw [hR] at hpl ⊢
  simp only at hpl
  obtain ⟨r, hr⟩ : ∃ r : UnR, (if (n, q, c).2.2 ≠ 0 then (zeroVa, 0, (n, q, c).2.2) else (Va.mk k (n, q, c).1 ⟨#[]⟩ [], (n, q, c).2.1, 0)) = r := ⟨_, rfl⟩
  rw [hr]
  have HRr : Hid ((if c ≠ 0 then (zeroVa, (0 : Int), c) else (Va.mk k n ⟨#[]⟩ [], q, (0 : Int))) = r) := hr
  have HR := Lib.hid hR
  have HP := Lib.hid hpl
  have HH := Lib.hid h
  have HK := Lib.hid hk
  have hmb := World.block_lt_of_cell? w ⟨bm, 0, none⟩ hm
  obtain ⟨W, hW⟩ : ∃ W, W = w.alloc (.cells #[.int .i64 0, .int .i64 0, .string ⟨#[]⟩, .slice none 0 0] 29) := ⟨_, rfl⟩
  have hbw : Below w.heap.size w W := by rw [hW]; exact below_alloc _ _
  have BW := Lib.hid hbw
  have N1 : Hid (W.heap[w.heap.size]? = some (.cells #[.int .i64 0, .int .i64 0, .string ⟨#[]⟩, .slice none 0 0] 29 (0, 0))) := by show _ = _; rw [hW]; exact Go.Deep.blk_alloc_new _ _
  have R1 : Hid (RdAt W rb bs p) := blk_below h hbw (Array.getElem?_eq_some_iff.1 h).1
  have hrz : rb < w.heap.size := (Array.getElem?_eq_some_iff.1 h).1
  have HW := Lib.hid hW
  clear hR hpl h hk hbw hW hr
  go_enter Tryz.func151, Tryz.ntmps151
  go_wp2_with fail
  rw [← HW.out]
  refine (rdNum_any bs p most rb W hs R1.out _ HR.out).mono ?_
  rintro e w1 ⟨rfl, hrd, ho⟩
  have O1 := Lib.hid ((Only.of_below (F := [rb]) BW.out).trans ho)
  have hk1 := cell_only O1.out HK.out hne
  have N2 := (ho.block w.heap.size (Array.getElem?_eq_some_iff.1 N1.out).1 (by simp; omega)).trans N1.out
  obtain ⟨a0, a1, a2, a3, _, _, _, _, az⟩ := blk4 N2
  by_cases hc : c = 0
  · subst hc
    simp only [errV_ok]
    have HD := Lib.hid (hrd rfl)
    obtain ⟨⟨p0, p1⟩, _⟩ := HP.out rfl
    have NI : Hid (InI64' n) := by show _ ∧ _; unfold InI64' at *; omega
    clear hrd ho
    go_wp2_with fail
    refine bodyPost_ret (v := .tuple #[.agg #[.int .i64 k, .int .i64 n, .string ⟨#[]⟩, .slice none 0 0], .nilIface]) (by simp [results, Tryz.results151, go_sem, a0, a1, a2, a3]) rfl ?_
    rw [← HRr.out, if_neg (fun h => h rfl)]
    exact upost_ok O1.out hrz HD.out (own_bare hki NI.out (by decide)) (by simp) List.nodup_nil
  · simp only [errV_bad hc]
    have HC := Lib.hid hc
    clear hrd ho hc
    go_wp2_with fail
    refine bodyPost_ret (v := .tuple #[.agg #[.int .i64 0, .int .i64 0, .string ⟨#[]⟩, .slice none 0 0], .iface 97 (.agg #[.int .i64 c])]) (by simp [results, Tryz.results151, go_sem, a0, a1, a2, a3]) rfl ?_
    rw [← HRr.out, if_pos HC.out]
    exact upost_bad HC.out O1.out

set_option maxRecDepth 100000 in
set_option maxHeartbeats 1000000 in
theorem unText_any (bs : ByteArray) (p : Int) (rb : Nat) (w : World) (hs : bs.size ≤ 8000) (h : RdAt w rb bs p) :
    Calls Tryz.prog 155 #[.pointer (some ⟨rb, 0, none⟩)] w
      (UPost bs rb w (if (readP bs p).2.2 ≠ 0 then (zeroVa, 0, (readP bs p).2.2) else (.mk 3 0 (readP bs p).1 [], (readP bs p).2.1, 0))) := by
  obtain ⟨⟨t, q, c⟩, hR⟩ : ∃ R : ByteArray × Int × Int, readP bs p = R := ⟨_, rfl⟩
  have hz : c = 0 → t.size ≤ 9223372036854775807 := by
    intro hc
    have h1 : (readP bs p).1 = t := by rw [hR]
    have h2 : (readP bs p).2.2 = 0 := by rw [hR]; exact hc
    rw [← h1]
    unfold readP at h2 ⊢
    split at h2
    · rename_i h3; exact absurd h2 h3
    · rename_i h3
      rw [if_neg h3]
      split
      · exact textRes_size bs p hs
      · show (0 : Nat) ≤ _; omega
  rw [hR]
  obtain ⟨r, hr⟩ : ∃ r : UnR, (if (t, q, c).2.2 ≠ 0 then (zeroVa, 0, (t, q, c).2.2) else (Va.mk 3 0 (t, q, c).1 [], (t, q, c).2.1, 0)) = r := ⟨_, rfl⟩
  rw [hr]
  have HRr : Hid ((if c ≠ 0 then (zeroVa, (0 : Int), c) else (Va.mk 3 0 t [], q, (0 : Int))) = r) := hr
  have HR := Lib.hid hR
  have HZ := Lib.hid hz
  have HH := Lib.hid h
  obtain ⟨W, hW⟩ : ∃ W, W = w.alloc (.cells #[.int .i64 0, .int .i64 0, .string ⟨#[]⟩, .slice none 0 0] 29) := ⟨_, rfl⟩
  have hbw : Below w.heap.size w W := by rw [hW]; exact below_alloc _ _
  have BW := Lib.hid hbw
  have N1 : Hid (W.heap[w.heap.size]? = some (.cells #[.int .i64 0, .int .i64 0, .string ⟨#[]⟩, .slice none 0 0] 29 (0, 0))) := by show _ = _; rw [hW]; exact Go.Deep.blk_alloc_new _ _
  have R1 : Hid (RdAt W rb bs p) := blk_below h hbw (Array.getElem?_eq_some_iff.1 h).1
  have hrz : rb < w.heap.size := (Array.getElem?_eq_some_iff.1 h).1
  have HW := Lib.hid hW
  clear hR hz h hbw hW hr
  go_enter Tryz.func155, Tryz.ntmps155
  go_wp2_with fail
  rw [← HW.out]
  refine (rdPlain_any bs p rb W hs R1.out _ HR.out).mono ?_
  rintro e w1 ⟨rfl, hrd, ho⟩
  have O1 := Lib.hid ((Only.of_below (F := [rb]) BW.out).trans ho)
  have N2 := (ho.block w.heap.size (Array.getElem?_eq_some_iff.1 N1.out).1 (by simp; omega)).trans N1.out
  obtain ⟨a0, a1, a2, a3, _, _, _, _, az⟩ := blk4 N2
  by_cases hc : c = 0
  · have HZ2 := Lib.hid (HZ.out hc)
    subst hc
    simp only [errV_ok]
    have HD := Lib.hid (hrd rfl)
    clear hrd ho
    go_wp2_with fail
    refine bodyPost_ret (v := .tuple #[.agg #[.int .i64 3, .int .i64 0, .string t, .slice none 0 0], .nilIface]) (by simp [results, Tryz.results155, go_sem, a0, a1, a2, a3]) rfl ?_
    rw [← HRr.out, if_neg (fun h => h rfl)]
    exact upost_ok O1.out hrz HD.out (own_bare (by unfold InI64'; omega) (by unfold InI64'; omega) HZ2.out) (by simp) List.nodup_nil
  · simp only [errV_bad hc]
    have HC := Lib.hid hc
    clear hrd ho hc
    go_wp2_with fail
    refine bodyPost_ret (v := .tuple #[.agg #[.int .i64 0, .int .i64 0, .string ⟨#[]⟩, .slice none 0 0], .iface 97 (.agg #[.int .i64 c])]) (by simp [results, Tryz.results155, go_sem, a0, a1, a2, a3]) rfl ?_
    rw [← HRr.out, if_pos HC.out]
    exact upost_bad HC.out O1.out

set_option maxRecDepth 100000 in
set_option maxHeartbeats 1000000 in
theorem unPick_any (bs : ByteArray) (p : Int) (rb b : Nat) (sy : List ByteArray) (aa : Option Addr) (d : Nat) (z w : World) (hs : bs.size ≤ 8000) (h0 : 0 < sy.length) (h6 : sy.length ≤ 6) (hs8 : ∀ s ∈ sy, s.size ≤ 8) (h : RdAt w rb bs p) (hc : w.cell? ⟨b, 0, none⟩ = some (.slice aa sy.length d)) (hne : b ≠ rb) (hz : Keeps z w) (hzr : z.heap.size ≤ rb) (hsy : IsStrs z (.slice aa sy.length d) sy) :
    Calls Tryz.prog 159 #[.pointer (some ⟨rb, 0, none⟩), .pointer (some ⟨b, 0, none⟩)] w
      (UPost bs rb w (if (readN bs p (sy.length - 1)).2.2 ≠ 0 then (zeroVa, 0, (readN bs p (sy.length - 1)).2.2) else (.mk 4 0 (sy.getD (readN bs p (sy.length - 1)).1.toNat ⟨#[]⟩) [], (readN bs p (sy.length - 1)).2.1, 0))) := by
  obtain ⟨⟨n, q, c⟩, hR⟩ : ∃ R : Int × Int × Int, readN bs p (sy.length - 1) = R := ⟨_, rfl⟩
  have hpl := readN_place (bs := bs) (p := p) (most := sy.length - 1)
  rw [hR] at hpl ⊢
  simp only at hpl
  obtain ⟨r, hr⟩ : ∃ r : UnR, (if (n, q, c).2.2 ≠ 0 then (zeroVa, 0, (n, q, c).2.2) else (Va.mk 4 0 (sy.getD (n, q, c).1.toNat ⟨#[]⟩) [], (n, q, c).2.1, 0)) = r := ⟨_, rfl⟩
  rw [hr]
  have HRr : Hid ((if c ≠ 0 then (zeroVa, (0 : Int), c) else (Va.mk 4 0 (sy.getD n.toNat ⟨#[]⟩) [], q, (0 : Int))) = r) := hr
  obtain ⟨h1, h2, a, cap, he, h3, h4, h5⟩ := hsy
  simp only [Value.slice.injEq] at he
  obtain ⟨rfl, _, rfl⟩ := he
  have HR := Lib.hid hR
  have HP := Lib.hid hpl
  have HH := Lib.hid h
  have HK := Lib.hid hc
  have HZ := Lib.hid hz
  have H5 := Lib.hid h5
  have H2 := Lib.hid hs8
  obtain ⟨W, hW⟩ : ∃ W, W = w.alloc (.cells #[.int .i64 0, .int .i64 0, .string ⟨#[]⟩, .slice none 0 0] 29) := ⟨_, rfl⟩
  have hbw : Below w.heap.size w W := by rw [hW]; exact below_alloc _ _
  have BW := Lib.hid hbw
  have N1 : Hid (W.heap[w.heap.size]? = some (.cells #[.int .i64 0, .int .i64 0, .string ⟨#[]⟩, .slice none 0 0] 29 (0, 0))) := by show _ = _; rw [hW]; exact Go.Deep.blk_alloc_new _ _
  have R1 : Hid (RdAt W rb bs p) := blk_below h hbw (Array.getElem?_eq_some_iff.1 h).1
  have hrz : rb < w.heap.size := (Array.getElem?_eq_some_iff.1 h).1
  have HW := Lib.hid hW
  have hbz := World.block_lt_of_cell? w ⟨b, 0, none⟩ hc
  clear hR hpl h hbw hW hr hz h5 h2 hs8
  go_enter Tryz.func159, Tryz.ntmps159
  go_wp2_with fail
  rw [← HW.out]
  refine (rdNum_any bs p (sy.length - 1) rb W hs R1.out _ HR.out).mono ?_
  rintro e w1 ⟨rfl, hrd, ho⟩
  have O1 := Lib.hid ((Only.of_below (F := [rb]) BW.out).trans ho)
  have hk1 := cell_only O1.out HK.out hne
  have N2 := (ho.block w.heap.size (Array.getElem?_eq_some_iff.1 N1.out).1 (by simp; omega)).trans N1.out
  obtain ⟨a0, a1, a2, a3, f0, f1, f2, f3, az⟩ := blk4 N2
  by_cases hc : c = 0
  · subst hc
    simp only [errV_ok]
    have HD := Lib.hid (hrd rfl)
    obtain ⟨⟨p0, p1⟩, _⟩ := HP.out rfl
    obtain ⟨j, rfl⟩ := Int.eq_ofNat_of_zero_le p0
    have hj : j < sy.length := by omega
    obtain ⟨b', off, rfl, hcell⟩ := IsStrs.at H5.out hj
    have hcell1 : w1.cell? ⟨b', off + j, none⟩ = some (.string sy[j]) := by
      have hb' : b' < z.heap.size := World.block_lt_of_cell? z ⟨b', off + j, none⟩ hcell
      exact cell_only O1.out (HZ.out _ _ _ hcell) (by omega)
    have HS := Lib.hid (H2.out sy[j] (List.getElem_mem hj))
    have HG : Hid (sy.getD j ⟨#[]⟩ = sy[j]) := getD_at hj
    clear hrd ho hcell
    go_wp2_with fail
    refine (clone_any sy[j] _ (by have := HS.out; omega)).mono ?_
    rintro e w2 ⟨rfl, hb2⟩
    have O2 := Lib.hid (O1.out.trans (Only.of_below (F := [rb]) hb2))
    have R2 : Hid (RdAt w2 rb bs q) := blk_below HD.out hb2 (Array.getElem?_eq_some_iff.1 HD.out).1
    obtain ⟨y0, y1, y2, y3, _, _, _, _, _⟩ := blk4 (blk_below N2 hb2 az)
    clear hb2 a0 a1 a2 a3 f0 f1 f2 f3 hcell1
    go_wp2_with fail
    refine bodyPost_ret (v := .tuple #[.agg #[.int .i64 4, .int .i64 0, .string sy[j], .slice none 0 0], .nilIface]) (by simp [results, Tryz.results159, go_sem, y0, y1, y2, y3]) rfl ?_
    rw [← HRr.out, if_neg (fun h => h rfl), show ((j : Int)).toNat = j from rfl, HG.out]
    exact upost_ok O2.out hrz R2.out (own_bare (by unfold InI64'; omega) (by unfold InI64'; omega) (by have := HS.out; omega)) (by simp) List.nodup_nil
  · simp only [errV_bad hc]
    have HC := Lib.hid hc
    clear hrd ho hc
    go_wp2_with fail
    refine bodyPost_ret (v := .tuple #[.agg #[.int .i64 0, .int .i64 0, .string ⟨#[]⟩, .slice none 0 0], .iface 97 (.agg #[.int .i64 c])]) (by simp [results, Tryz.results159, go_sem, a0, a1, a2, a3]) rfl ?_
    rw [← HRr.out, if_pos HC.out]
    exact upost_bad HC.out O1.out
end Go.Proofs.YtbpidhlpakobiaaGreatDoor
namespace Go.Proofs.YtbpidhlpakobiaaGreatDoor
open Go.RowKit

theorem info_va : (Tryz.prog.info? 29).map (fun i => (i.zero, i.size, i.bytes)) = some (some (.agg #[.int .i64 0, .int .i64 0, .string ⟨#[]⟩, .slice none 0 0]), 4, 56) := by kernel_rfl

/-- append(row, Val), the Val in a new block: where the row lies. -/
theorem wpList_va {ops : Array Oper} {rest : List Oper} {o : Oper} {a : Act} {Q : Exit → Act → World → Prop} (W : World) (hgd : o.guard = none) (s x : Operand)
    (ho : o.op = .call { callee := .builtin .append, args := #[s, x], argTypes := #[27, 27] })
    (B : Nat) (p : Option Addr) (n cap : Nat) (xs : List Value) (k nn : Int) (t : ByteArray) (p3 : Option Addr) (n3 m3 : Nat) (hs : a.eval s = .slice p n cap) (hown : W.ownsRow B 29 4 (.slice p n cap) n xs) (hx : a.eval x = .slice (some ⟨W.heap.size, 0, none⟩) 1 1)
    (hn : n ≤ 1000000) (hB : B ≤ W.heap.size)
    (h : ∀ p' cap' w', w'.ownsRow B 29 4 (.slice p' (n + 1) cap') (n + 1) (xs ++ [.int .i64 k, .int .i64 nn, .string t, .slice p3 n3 m3]) → Only (blkOf (.slice p n cap)) W w' → (∀ q ∈ blkOf (.slice p' (n + 1) cap'), q ∈ blkOf (.slice p n cap) ∨ W.heap.size ≤ q) → wpList Tryz.prog ops Q rest (a.put o.dst (.slice p' (n + 1) cap')) w') :
    wpList Tryz.prog ops Q (o :: rest) a (W.alloc (.cells #[.int .i64 k, .int .i64 nn, .string t, .slice p3 n3 m3] 29)) := by
  obtain ⟨i0, hi, hz0, hz1, hz2⟩ := info_parts info_va
  have hnew := Go.Deep.blk_alloc_new W (.cells #[.int .i64 k, .int .i64 nn, .string t, .slice p3 n3 m3] 29)
  have hba := below_alloc W (.cells #[.int .i64 k, .int .i64 nn, .string t, .slice p3 n3 m3] 29)
  have hown' : (W.alloc (.cells #[.int .i64 k, .int .i64 nn, .string t, .slice p3 n3 m3] 29)).ownsRow B 29 4 (.slice p n cap) n xs := own_block hown fun g hg => hba.block g (blkOf_own hown g hg).2
  refine wpList_append_own_at _ hgd s x _ ho B 29 i0 _ 4 56 Tryz.underlying27 hi hz0 hz1 hz2 rfl (by decide) _ n xs hs hown' ⟨W.heap.size, 0, none⟩ 1 1 [.int .i64 k, .int .i64 nn, .string t, .slice p3 n3 m3] hx rfl ?_ ?_ (by unfold maxLen; omega) (by omega) (by simp; omega) ?_
  · intro j u hj
    rw [show (⟨W.heap.size, 0, none⟩ : Addr).add j = ⟨W.heap.size, 0 + j, none⟩ from by unfold Addr.add; split <;> simp_all, Nat.zero_add]
    have : (W.alloc (.cells #[.int .i64 k, .int .i64 nn, .string t, .slice p3 n3 m3] 29)).cell? ⟨W.heap.size, j, none⟩ = [Value.int .i64 k, .int .i64 nn, .string t, .slice p3 n3 m3][j]? := by
      unfold World.cell?
      rw [hnew]
      simp
    rw [this, hj]
  · intro u hu
    simp only [List.mem_cons, List.not_mem_nil, or_false] at hu
    rcases hu with rfl | rfl | rfl | rfl <;> rfl
  · intro v' w' hv hg _ hat
    obtain ⟨p', cap', rfl⟩ := own_slice' hv
    refine h p' cap' w' hv ?_ fun q hq => ?_
    · refine ⟨hg.os, hg.tape, hg.output, Nat.le_trans hba.size hg.size, fun q hq hne => ?_⟩
      rw [hg.block q (Nat.lt_of_lt_of_le hq hba.size) fun e => hne ((ownBlock_blk hown q).1 e.symm)]
      exact hba.block q hq
    · have e := (ownBlock_blk hv q).2 hq
      rcases hat with ha | ha
      · rw [ha] at e; exact .inl ((ownBlock_blk hown q).1 e)
      · rw [ha] at e
        right
        have := Option.some.inj e
        simp at this; omega

/-- In w, and where all but the reader stands as in w, the function value c unpacks s. -/
def UnW (bs : ByteArray) (rb : Nat) (w : World) (s : Sh) (c : Value) : Prop := ∃ (F : FuncId) (caps : Array Value), c = .func (.func F) #[] caps ∧ (∀ (args : Array Value) (w : World), (callFunc F args).run Tryz.prog w = .ok (.enter F args) w) ∧
  ∀ (w' : World) (p : Int), Stab (fun g => g = rb) w w' → RdAt w' rb bs p → Calls Tryz.prog F (#[.pointer (some ⟨rb, 0, none⟩)] ++ caps) w' (UPost bs rb w' (unB bs s p))

/-- The row of what was read so far. -/
structure Rows4 (W wr : World) (rb : Nat) (its : List Va) (q : Option Addr) (j m : Nat) (cs : List Value) (F : List Nat) : Prop where
  row : wr.ownsRow W.heap.size 29 4 (.slice q j m) j cs
  own : OwnVas wr W.heap.size its cs F
  nodup : (blkOf (.slice q j m) ++ F).Nodup
  only : Only [rb] W wr
  rbz : rb < W.heap.size
/-- One more, made in a world behind, is put behind the row. -/
theorem Rows4.step {W wr w1 w2 : World} {rb : Nat} {its : List Va} {q q' : Option Addr} {j m m' : Nat} {cs : List Value} {F F1 : List Nat} {x : Va} {k n : Int} {t : ByteArray} {p3 : Option Addr} {n3 m3 : Nat} {B1 : Nat} (h : Rows4 W wr rb its q j m cs F) (hB : wr.heap.size ≤ B1)
    (ho1 : OwnVa w1 B1 x (.agg #[.int .i64 k, .int .i64 n, .string t, .slice p3 n3 m3]) F1) (hn1 : F1.Nodup) (hb1 : Only [rb] wr w1)
    (ho2 : w2.ownsRow W.heap.size 29 4 (.slice q' (j + 1) m') (j + 1) (cs ++ [.int .i64 k, .int .i64 n, .string t, .slice p3 n3 m3])) (hy2 : Only (blkOf (.slice q j m)) w1 w2) (hp2 : ∀ g ∈ blkOf (.slice q' (j + 1) m'), g ∈ blkOf (.slice q j m) ∨ w1.heap.size ≤ g) :
    Rows4 W w2 rb (its ++ [x]) q' (j + 1) m' (cs ++ [.int .i64 k, .int .i64 n, .string t, .slice p3 n3 m3]) (F ++ F1) := by
  obtain ⟨h2, h3, h4, h5, h6⟩ := h
  have lr := blkOf_own h2
  have lF := h3.lt
  have l1 := OwnVa.blocks _ _ _ ho1
  have d4 := (List.nodup_append.1 h4).2.2
  refine ⟨ho2, ?_, ?_, ?_, h6⟩
  · have a3 : OwnVas w2 W.heap.size its cs F := h3.move (Nat.le_refl _) fun g hg => by
      rw [hy2.block g (Nat.lt_of_lt_of_le (lF g hg).2 hb1.size) fun hx => d4 g hx g hg rfl, hb1.block g (lF g hg).2 (by simp; have := lF g hg; omega)]
    have a1 : OwnVa w2 W.heap.size x (.agg #[.int .i64 k, .int .i64 n, .string t, .slice p3 n3 m3]) F1 := OwnVa.move (by have := h5.size; omega) _ _ _ (fun g hg => hy2.block g (l1 g hg).2 fun hx => by have := lr g hx; have := l1 g hg; omega) ho1
    exact OwnVas.snoc a3 a1
  · rw [List.nodup_append, List.nodup_append]
    have hF := (List.nodup_append.1 h4).2.1
    refine ⟨?_, ⟨hF, hn1, fun a ha b hb => by have := lF a ha; have := l1 b hb; omega⟩, fun a ha b hb => ?_⟩
    · cases q' <;> simp [blkOf]
    · rcases hp2 a ha with hx | hx
      · rcases List.mem_append.1 hb with hb | hb
        · exact d4 a hx b hb
        · have := lr a hx; have := l1 b hb; omega
      · rcases List.mem_append.1 hb with hb | hb
        · have := lF b hb; have := hb1.size; omega
        · have := l1 b hb; omega
  · refine ⟨hy2.os.trans (hb1.os.trans h5.os), hy2.tape.trans (hb1.tape.trans h5.tape), hy2.output.trans (hb1.output.trans h5.output), Nat.le_trans h5.size (Nat.le_trans hb1.size hy2.size), fun g hg hne => ?_⟩
    have hgw : g < wr.heap.size := Nat.lt_of_lt_of_le hg h5.size
    rw [hy2.block g (Nat.lt_of_lt_of_le hgw hb1.size) fun hx => by have := lr g hx; omega, hb1.block g hgw hne, h5.block g hg hne]

/-- What row leaves. -/
def RowPost (bs : ByteArray) (rb : Nat) (w : World) (r : List Va × Int × Int) (e : Ending) (w' : World) : Prop :=
  ∃ (q : Option Addr) (l m : Nat) (cs : List Value) (F : List Nat), e = .returned (.tuple #[.slice q l m, errV r.2.2]) ∧ (r.2.2 = 0 → l = r.1.length ∧ Rows4 w w' rb r.1 q l m cs F ∧ RdAt w' rb bs r.2.1) ∧ Only [rb] w w'

set_option maxRecDepth 100000 in
set_option maxHeartbeats 1000000 in
theorem row_any (bs : ByteArray) (rb : Nat) (su : List Sh) (aa : Option Addr) (cc : Nat) (w : World) (p : Int) (h6 : su.length ≤ 6) (hcc : su.length ≤ cc ∧ cc ≤ 9223372036854775807) (hr : RdAt w rb bs p)
    (hrow : ∀ i (h : i < su.length), ∃ (g off : Nat), aa = some ⟨g, off, none⟩ ∧ g ≠ rb ∧ ∃ (f1 : FuncId) (c1 : Array Value) (f2 : FuncId) (c2 : Array Value), w.cell? ⟨g, off + i * 2, none⟩ = some (.func (.func f1) #[] c1) ∧ w.cell? ⟨g, off + i * 2 + 1, none⟩ = some (.func (.func f2) #[] c2) ∧ UnW bs rb w su[i] (.func (.func f2) #[] c2)) :
    Calls Tryz.prog 162 #[.pointer (some ⟨rb, 0, none⟩), .slice aa su.length cc] w (RowPost bs rb w (seqU (su.map (unB bs)) p)) := by
  obtain ⟨R, hR⟩ : ∃ R, seqU (su.map (unB bs)) p = R := ⟨_, rfl⟩
  rw [hR]
  have HR : Hid (R = joinU [] (seqU ((su.map (unB bs)).drop 0) p)) := by show _ = _; rw [List.drop_zero, joinU_nil]; exact hR.symm
  have HRow := Lib.hid hrow
  have HRd := Lib.hid hr
  have hrz : rb < w.heap.size := (Array.getElem?_eq_some_iff.1 hr).1
  clear hR hrow hr
  go_enter Tryz.func162, Tryz.ntmps162
  go_wp2_with fail
  go_loopw [6, 13] (fun o i wr => ∃ (j : Nat) (q : Option Addr) (m : Nat) (cs : List Value) (F : List Nat) (its : List Va) (p' : Int), j ≤ su.length ∧ i = .int .i64 j ∧ o = .slice q j m ∧ Hid (its.length = j) ∧ Hid (R = joinU its (seqU ((su.map (unB bs)).drop j) p')) ∧ Hid (Rows4 w wr rb its q j m cs F) ∧ Hid (RdAt wr rb bs p')) (fun _ i _ => su.length - (intOf i).toNat)
  case atStart => exact ⟨0, none, 0, [], [], [], p, Nat.zero_le _, rfl, rfl, rfl, HR.out, ⟨World.ownsRow_nil _ _ _ _, by simp [OwnVas], by simp [blkOf], Only.refl _ _, hrz⟩, HRd.out⟩
  case round =>
    obtain ⟨j, q, m, cs, F, its, p', hj, rfl, rfl, HIl, HE, HRs, HRp⟩ := hrel
    by_cases hlt : j < su.length
    · obtain ⟨g, off, rfl, hgr, f1, c1, f2, c2, r0, r1, ⟨Fn, caps, hFc, hF, hP⟩⟩ := HRow.out j hlt
      cases hFc
      have hjl : j < (su.map (unB bs)).length := by rw [List.length_map]; exact hlt
      have HJb := Lib.hid (fun (c : Int) => joinU_bad hjl HE.out (c := c))
      have HJo := Lib.hid (joinU_ok hjl HE.out)
      rw [List.getElem_map] at HJb HJo
      have k0 := cell_only HRs.out.only r0 hgr
      have k1 := cell_only HRs.out.only r1 hgr
      obtain ⟨W1, hW1⟩ : ∃ W1, W1 = wr.alloc (.cells #[.func (.func f1) #[] c1, .func (.func f2) #[] c2] 86) := ⟨_, rfl⟩
      have hba : Below wr.heap.size wr W1 := by rw [hW1]; exact below_alloc _ _
      have HW1 := Lib.hid hW1
      have BA := Lib.hid hba
      have P1 : Hid (RdAt W1 rb bs p') := blk_below HRp.out hba (Array.getElem?_eq_some_iff.1 HRp.out).1
      have S1 : Hid (Stab (fun g => g = rb) w W1) := (Stab.of_only HRs.out.only (by simp)).trans (Stab.of_below hba)
      have HP := Lib.hid hP
      obtain ⟨r, hr⟩ : ∃ r, unB bs su[j] p' = r := ⟨_, rfl⟩
      rw [hr] at HJb HJo
      have HCall := Lib.hid (HP.out W1 p' S1.out P1.out)
      rw [hr] at HCall
      clear hW1 hba hP hr
      go_wp2_with fail
      rw [← HW1.out]
      refine HCall.out.mono ?_
      rintro e w3 ⟨k, n, t, p3, n3, m3, F3, rfl, hok, ho3⟩
      have O3 := Lib.hid ((Only.of_below (F := [rb]) BA.out).trans ho3)
      by_cases hc : r.2.2 = 0
      · have HD := Lib.hid (hok hc)
        have HJ := Lib.hid (HJo.out hc)
        rw [hc]
        simp only [errV_ok]
        clear hok hc ho3
        have hge : ∀ g ∈ blkOf (.slice q j m), w.heap.size ≤ g ∧ g < wr.heap.size := fun g hg => blkOf_own HRs.out.row g hg
        have RW4 : Hid ((w3.alloc (.cells #[.int .i64 k, .int .i64 n, .string t, .slice p3 n3 m3] 29)).ownsRow w.heap.size 29 4 (.slice q j m) j cs) := own_block HRs.out.row fun g hg => by
          have h1 := hge g hg
          rw [Below.heap_alloc _ _ _ (Nat.lt_of_lt_of_le h1.2 O3.out.size)]
          exact O3.out.block g h1.2 (by simp; omega)
        have OV4 : Hid (OwnVa (w3.alloc (.cells #[.int .i64 k, .int .i64 n, .string t, .slice p3 n3 m3] 29)) W1.heap.size r.1 (.agg #[.int .i64 k, .int .i64 n, .string t, .slice p3 n3 m3]) F3) := OwnVa.move (Nat.le_refl _) _ _ _ (fun g hg => Below.heap_alloc _ _ _ (OwnVa.blocks _ _ _ HD.out.1 g hg).2) HD.out.1
        have O4 : Hid (Only [rb] wr (w3.alloc (.cells #[.int .i64 k, .int .i64 n, .string t, .slice p3 n3 m3] 29))) := O3.out.trans (Only.of_below (below_alloc _ _))
        have HZ : Hid (w.heap.size ≤ (w3.alloc (.cells #[.int .i64 k, .int .i64 n, .string t, .slice p3 n3 m3] 29)).heap.size) := Nat.le_trans HRs.out.only.size O4.out.size
        have HSZ : Hid ((w3.alloc (.cells #[.int .i64 k, .int .i64 n, .string t, .slice p3 n3 m3] 29)).heap.size = w3.heap.size + 1) := by show _ = _; simp
        have RD4 : Hid (RdAt (w3.alloc (.cells #[.int .i64 k, .int .i64 n, .string t, .slice p3 n3 m3] 29)) rb bs r.2.1) := blk_below HD.out.2.2 (below_alloc _ _) (Array.getElem?_eq_some_iff.1 HD.out.2.2).1
        go_wp2_with (at_builtin; go_must (refine wpList_va (w3.alloc (.cells #[.int .i64 k, .int .i64 n, .string t, .slice p3 n3 m3] 29)) rfl (.tmp 27) (.tmp 29) rfl w.heap.size q j m cs k n t p3 n3 m3 rfl RW4.out (by rw [HSZ.out]; rfl) (by omega) HZ.out ?_))
        intro q' m' w5 hown hon hloc
        have ST := Lib.hid (HRs.out.step BA.out.size OV4.out HD.out.2.1 O4.out hown hon (by rw [HSZ.out]; exact hloc))
        have RD5 : Hid (RdAt w5 rb bs r.2.1) := by
          show _ = _
          rw [hon.block rb (Array.getElem?_eq_some_iff.1 RD4.out).1 fun hx => by have := hge rb hx; omega]
          exact RD4.out
        have HLn : Hid ((its ++ [r.1]).length = j + 1) := by show _ = _; rw [List.length_append, HIl.out]; rfl
        clear hown hon hloc hge
        go_wp2_with fail
        go_roundw
        case rel => exact ⟨j + 1, q', m', _, _, its ++ [r.1], r.2.1, hlt, by go_num, rfl, HLn.out, HJ.out, ST.out, RD5.out⟩
        case measure => simp [intOf]; omega
      · obtain ⟨c, hcc'⟩ : ∃ c, r.2.2 = c := ⟨_, rfl⟩
        have HB := Lib.hid (HJb.out c hcc' (by rw [← hcc']; exact hc))
        rw [hcc'] at hc ⊢
        rw [errV_bad hc]
        have HC := Lib.hid hc
        have O5 := Lib.hid (HRs.out.only.trans (O3.out.trans (Only.of_below (F := [rb]) (below_alloc w3 (.cells #[.int .i64 k, .int .i64 n, .string t, .slice p3 n3 m3] 29)))))
        clear hok hc ho3 hcc'
        go_wp2_with fail
        go_ret2
        exact ⟨none, 0, 0, [], [], by rw [HB.out, errV_bad HC.out]; rfl, fun h => absurd h (by rw [HB.out]; exact HC.out), O5.out⟩
    · have hje : j = su.length := by omega
      have HB := Lib.hid (joinU_end (by rw [List.length_map]; omega) HE.out)
      have hge : (su.length : Int) ≤ (j : Int) := by omega
      clear hje
      go_wp2_with fail
      go_ret2
      exact ⟨q, j, m, cs, F, by rw [HB.out]; rfl, fun _ => by rw [HB.out]; exact ⟨HIl.out.symm, HRs.out, HRp.out⟩, HRs.out.only⟩
end Go.Proofs.YtbpidhlpakobiaaGreatDoor
