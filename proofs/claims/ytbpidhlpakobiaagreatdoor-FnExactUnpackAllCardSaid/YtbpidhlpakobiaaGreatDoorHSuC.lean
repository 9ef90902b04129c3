/- Walks: spec.l04Unpack at a text. · Walks: spec.l04Unpack at a number. · Walks: spec.l04Unpack at a word of some. -/
import Derived.Test.YtbpidhlpakobiaaGreatDoorHSuB
import Derived.Test.YtbpidhlpakobiaaGreatDoorHGetC
namespace Go.Proofs.YtbpidhlpakobiaaGreatDoor
open Go.RowKit

set_option maxRecDepth 100000 in
set_option maxHeartbeats 2000000 in
theorem su_text (p1 p2 p3 : Option Addr) (n1 n2 n3 m1 m2 m3 : Nat) (bs : ByteArray) (p : Int) (w : World) (h8 : bs.size ≤ 8000) (h0 : 0 ≤ p) (h1 : p ≤ bs.size) :
    Calls Tryz.prog 69 #[.agg #[.int .i64 3, .slice p1 n1 m1, .slice p2 n2 m2, .slice p3 n3 m3], .string bs, .int .i64 p] w
      (UnpPost w (if (readP bs p).2.2 ≠ 0 then (zeroVa, 0, (readP bs p).2.2) else (.mk 3 0 (readP bs p).1 [], (readP bs p).2.1, 0))) := by
  obtain ⟨⟨t, q, c⟩, hX⟩ : ∃ X : ByteArray × Int × Int, textRes bs p = X := ⟨_, rfl⟩
  have hA : textAll bs p = (t, q, c) := by unfold textAll; rw [if_neg (by omega), hX]
  have hT : Hid (t.size ≤ 9223372036854775807) := by have := textRes_size bs p h8; rw [hX] at this; exact this
  have HTx : Hid (∀ w, Calls Tryz.prog 113 #[.string bs, .int .i64 p] w fun e w' => e = .returned (.agg #[.string t, .int .i64 q, .int .i64 c]) ∧ Below w.heap.size w w') := by
    intro w
    refine (specText_any bs p w (by unfold maxLen; omega) (by unfold InI64; omega)).mono fun e w' ⟨he, hb⟩ => ⟨?_, hb⟩
    rw [he, hA]; rfl
  obtain ⟨r, hr⟩ : ∃ r : UnR, (if (readP bs p).2.2 ≠ 0 then (zeroVa, 0, (readP bs p).2.2) else (.mk 3 0 (readP bs p).1 [], (readP bs p).2.1, 0)) = r := ⟨_, rfl⟩
  rw [hr]
  obtain ⟨b, hb⟩ : ∃ b, plainOk t.data.toList = b := ⟨_, rfl⟩
  have HRc : Hid (r = if c ≠ 0 then (zeroVa, 0, c) else if b = true then (.mk 3 0 t [], q, 0) else (zeroVa, 0, 3)) := by
    show _ = _
    rw [← hr]
    unfold readP
    rw [hX, hb]
    by_cases hc : c = 0
    · subst hc
      cases b <;> simp
    · simp [hc]
  obtain ⟨W, hW⟩ : ∃ W, W = ((w.alloc (.cells #[.int .i64 3, .slice p1 n1 m1, .slice p2 n2 m2, .slice p3 n3 m3] 26)).alloc (.cells #[.int .i64 0, .int .i64 0, .string ⟨#[]⟩, .slice none 0 0, .int .i64 0, .int .i64 0] 50)) := ⟨_, rfl⟩
  have hX2 := two_new w (.cells #[.int .i64 3, .slice p1 n1 m1, .slice p2 n2 m2, .slice p3 n3 m3] 26) (.cells #[.int .i64 0, .int .i64 0, .string ⟨#[]⟩, .slice none 0 0, .int .i64 0, .int .i64 0] 50)
  have hbw := (below_alloc w (.cells #[.int .i64 3, .slice p1 n1 m1, .slice p2 n2 m2, .slice p3 n3 m3] 26)).alloc (by simp) (.cells #[.int .i64 0, .int .i64 0, .string ⟨#[]⟩, .slice none 0 0, .int .i64 0, .int .i64 0] 50)
  rw [← hW] at hX2 hbw
  have S1 := Lib.hid hX2.1
  have S2 := Lib.hid hX2.2
  have BW := Lib.hid hbw
  have HW := Lib.hid hW
  have HPb := Lib.hid hb
  clear hX hA hr hb hX2 hbw hW h8 h0 h1
  go_enter Tryz.func69, Tryz.ntmps69
  obtain ⟨a0, _, _, _, _, _, _, _, az⟩ := blk4 S1.out
  obtain ⟨_, _, _, _, _, _, _, _, _, _, _, _, bz⟩ := blk6 S2.out
  go_wp2_with fail
  rw [← HW.out]
  refine (HTx.out W).mono ?_
  rintro e w1 ⟨rfl, hb1⟩
  have B1 := Lib.hid (BW.out.trans (hb1.mono BW.out.size))
  have C2 := Lib.hid (blk_below S2.out hb1 bz)
  have C1 := Lib.hid (blk_below S1.out hb1 az)
  clear hb1
  have BA : ∀ o, Below w1.heap.size w1 (w1.alloc o) := below_alloc w1
  obtain ⟨_, _, _, _, _, _, _, _, az⟩ := blk4 C1.out
  obtain ⟨_, _, _, _, _, _, _, _, _, _, _, _, bz⟩ := blk6 C2.out
  have HBA := Lib.hid BA
  clear BA
  by_cases hc : c = 0
  · subst hc
    obtain ⟨a0, _, _, _, _, _, _, _, _⟩ := blk4 C1.out
    cases b
    · have HR : Hid ((zeroVa, (0 : Int), (3 : Int)) = r) := by show _ = _; rw [HRc.out]; simp
      clear HRc
      go_wp2_with fail
      refine (l03Plain_any t _ hT.out).mono ?_
      rintro e w' ⟨rfl, rfl⟩
      rw [HPb.out]
      go_wp2_with fail
      refine (ill_any 3 _).mono ?_
      rintro e w4 ⟨rfl, hb4⟩
      have B4 := Lib.hid (B1.out.trans (((HBA.out _).trans (hb4.mono (by simp))).mono B1.out.size))
      have D2 := blk_below C2.out ((HBA.out _).trans (hb4.mono (by simp))) bz
      obtain ⟨x0, x1, x2, x3, x4, x5, v0, v1, v2, v3, v4, v5, xz⟩ := blk6 D2
      clear hb4 D2
      go_wp2_with fail
      refine bodyPost_ret (v := .agg #[.int .i64 0, .int .i64 0, .string ⟨#[]⟩, .slice none 0 0, .int .i64 0, .int .i64 3]) (by simp [results, Tryz.results69, go_sem, x0, x1, x2, x3, x4, x5]) rfl ?_
      rw [← HR.out]
      exact unp_end B4.out (own_zero _ _) (by simp) List.nodup_nil
    · have HR : Hid ((.mk 3 0 t [], q, (0 : Int)) = r) := by show _ = _; rw [HRc.out]; simp
      clear HRc
      go_wp2_with fail
      refine (l03Plain_any t _ hT.out).mono ?_
      rintro e w' ⟨rfl, rfl⟩
      rw [HPb.out]
      have F6 := blk_below (putU_same C2.out 3 0 t (.slice none 0 0) q 0) (below_alloc _ (.cells #[.string t, .int .i64 q, .int .i64 0] 167)) (Array.getElem?_eq_some_iff.1 (putU_same C2.out 3 0 t (.slice none 0 0) q 0)).1
      unfold putU putV at F6
      have HF6 := Lib.hid F6
      clear F6
      obtain ⟨x0, x1, x2, x3, x4, x5, v0, v1, v2, v3, v4, v5, xz⟩ := blk6 C2.out
      go_wp2_with fail
      clear x0 x1 x2 x3 x4 x5 v0 v1 v2 v3 v4 v5
      obtain ⟨x0, x1, x2, x3, x4, x5, v0, v1, v2, v3, v4, v5, _⟩ := blk6 HF6.out
      refine bodyPost_ret (v := .agg #[.int .i64 3, .int .i64 0, .string t, .slice none 0 0, .int .i64 q, .int .i64 0]) (by simp [results, Tryz.results69, go_sem, x0, x1, x2, x3, x4, x5]) rfl ?_
      rw [← HR.out]
      exact (unp_end B1.out (own_bare (by unfold InI64'; omega) (by unfold InI64'; omega) hT.out) (by simp) List.nodup_nil).grow (below_alloc _ _)
  · have HR : Hid ((zeroVa, (0 : Int), c) = r) := by show _ = _; rw [HRc.out, if_pos hc]
    clear HRc
    go_wp2_with fail
    refine (ill_any c _).mono ?_
    rintro e w4 ⟨rfl, hb4⟩
    have B4 := Lib.hid (B1.out.trans (((HBA.out _).trans (hb4.mono (by simp))).mono B1.out.size))
    have D2 := blk_below C2.out ((HBA.out _).trans (hb4.mono (by simp))) bz
    obtain ⟨x0, x1, x2, x3, x4, x5, v0, v1, v2, v3, v4, v5, xz⟩ := blk6 D2
    clear hb4 D2
    go_wp2_with fail
    refine bodyPost_ret (v := .agg #[.int .i64 0, .int .i64 0, .string ⟨#[]⟩, .slice none 0 0, .int .i64 0, .int .i64 c]) (by simp [results, Tryz.results69, go_sem, x0, x1, x2, x3, x4, x5]) rfl ?_
    rw [← HR.out]
    exact unp_end B4.out (own_zero _ _) (by simp) List.nodup_nil
end Go.Proofs.YtbpidhlpakobiaaGreatDoor
namespace Go.Proofs.YtbpidhlpakobiaaGreatDoor
open Go.RowKit

/-- The three blocks with which spec.l04Unpack begins. -/
structure Three (w W : World) (k : Int) (p1 p2 p3 : Option Addr) (n1 n2 n3 m1 m2 m3 : Nat) : Prop where
  sh : W.heap[w.heap.size]? = some (.cells #[.int .i64 k, .slice p1 n1 m1, .slice p2 n2 m2, .slice p3 n3 m3] 26 (0, 0))
  out : W.heap[w.heap.size + 1]? = some (.cells #[.int .i64 0, .int .i64 0, .string ⟨#[]⟩, .slice none 0 0, .int .i64 0, .int .i64 0] 50 (0, 0))
  va : W.heap[w.heap.size + 1 + 1]? = some (.cells #[.int .i64 k, .int .i64 0, .string ⟨#[]⟩, .slice none 0 0] 29 (0, 0))
  below : Below w.heap.size w W
theorem three_at (w : World) (k : Int) (p1 p2 p3 : Option Addr) (n1 n2 n3 m1 m2 m3 : Nat) :
    Three w (((w.alloc (.cells #[.int .i64 k, .slice p1 n1 m1, .slice p2 n2 m2, .slice p3 n3 m3] 26)).alloc (.cells #[.int .i64 0, .int .i64 0, .string ⟨#[]⟩, .slice none 0 0, .int .i64 0, .int .i64 0] 50)).alloc (.cells #[.int .i64 k, .int .i64 0, .string ⟨#[]⟩, .slice none 0 0] 29)) k p1 p2 p3 n1 n2 n3 m1 m2 m3 := by
  have h := two_new w (.cells #[.int .i64 k, .slice p1 n1 m1, .slice p2 n2 m2, .slice p3 n3 m3] 26) (.cells #[.int .i64 0, .int .i64 0, .string ⟨#[]⟩, .slice none 0 0, .int .i64 0, .int .i64 0] 50)
  refine ⟨?_, ?_, ?_, ((below_alloc w _).alloc (by simp) _).alloc (by simp; omega) _⟩
  · rw [Below.heap_alloc _ _ _ (by simp; omega)]; exact h.1
  · rw [Below.heap_alloc _ _ _ (by simp)]; exact h.2
  · have e : ((w.alloc (.cells #[.int .i64 k, .slice p1 n1 m1, .slice p2 n2 m2, .slice p3 n3 m3] 26)).alloc (.cells #[.int .i64 0, .int .i64 0, .string ⟨#[]⟩, .slice none 0 0, .int .i64 0, .int .i64 0] 50)).heap.size = w.heap.size + 1 + 1 := by simp
    rw [← e]
    exact Go.Deep.blk_alloc_new _ _
theorem Three.later {w W w1 : World} {k : Int} {p1 p2 p3 : Option Addr} {n1 n2 n3 m1 m2 m3 : Nat} (h : Three w W k p1 p2 p3 n1 n2 n3 m1 m2 m3) (hb : Below W.heap.size W w1) : Three w w1 k p1 p2 p3 n1 n2 n3 m1 m2 m3 :=
  ⟨blk_below h.sh hb (Array.getElem?_eq_some_iff.1 h.sh).1, blk_below h.out hb (Array.getElem?_eq_some_iff.1 h.out).1, blk_below h.va hb (Array.getElem?_eq_some_iff.1 h.va).1, h.below.trans (hb.mono h.below.size)⟩

/-- GetNum's contract, as parts. -/
theorem num_parts (bs : ByteArray) (p n q c : Int) (h8 : bs.size ≤ 8000) (h0 : 0 ≤ p) (h1 : p ≤ bs.size) (hX : getRes bs p = (n, q, c)) (w : World) :
    Calls Tryz.prog 114 #[.string bs, .int .i64 p] w fun e w' => e = .returned (.agg #[.int .i64 n, .int .i64 q, .int .i64 c]) ∧ Below w.heap.size w w' := by
  refine (getL.specGet_all bs p w (by unfold maxLen; omega) (by unfold InI64; omega)).mono fun e w' ⟨he, hb⟩ => ⟨?_, hb⟩
  rw [he]
  unfold getL.getAll
  rw [if_neg (by omega), hX]
  rfl
theorem readN_parts {bs : ByteArray} {p n q c most : Int} (hX : getRes bs p = (n, q, c)) : readN bs p most = if c ≠ 0 then (0, 0, c) else if n < 0 ∨ most < n then (0, 0, 3) else (n, q, 0) := by
  unfold readN; rw [hX]

/-- The same list in another Val. -/
theorem OwnVa.swap {w : World} {B : Nat} {k n : Int} {t : ByteArray} {it : List Va} {k1 n1 : Int} {t1 : ByteArray} {q : Option Addr} {l m : Nat} {F : List Nat} (h : OwnVa w B (.mk k n t it) (.agg #[.int .i64 k1, .int .i64 n1, .string t1, .slice q l m]) F) {k' n' : Int} {t' : ByteArray} (hk : InI64' k') (hn : InI64' n') (ht : t'.size ≤ 9223372036854775807) :
    OwnVa w B (.mk k' n' t' it) (.agg #[.int .i64 k', .int .i64 n', .string t', .slice q l m]) F := by
  obtain ⟨vp, cs, Fs, e, _, _, _, h4, h5, rfl⟩ := h.parts
  simp only [Value.agg.injEq] at e
  have e4 : Value.slice q l m = vp := by
    have := congrArg (fun a : Array Value => a[3]?) e
    simpa using this
  subst e4
  simp only [OwnVa]
  exact ⟨_, cs, Fs, rfl, hk, hn, ht, h4, h5, rfl⟩
/-- Before the items are read: the result's block, and the Val as far as it is. -/
structure Mid (w wz : World) (k n : Int) (t : ByteArray) : Prop where
  out : wz.heap[w.heap.size + 1]? = some (.cells #[.int .i64 0, .int .i64 0, .string ⟨#[]⟩, .slice none 0 0, .int .i64 0, .int .i64 0] 50 (0, 0))
  va : wz.heap[w.heap.size + 1 + 1]? = some (.cells #[.int .i64 k, .int .i64 n, .string t, .slice none 0 0] 29 (0, 0))
  below : Below w.heap.size w wz
theorem Mid.later {w wz w1 : World} {k n : Int} {t : ByteArray} (h : Mid w wz k n t) (hb : Below wz.heap.size wz w1) : Mid w w1 k n t :=
  ⟨blk_below h.out hb (Array.getElem?_eq_some_iff.1 h.out).1, blk_below h.va hb (Array.getElem?_eq_some_iff.1 h.va).1, h.below.trans (hb.mono h.below.size)⟩
theorem Mid.alloc {w wz : World} {k n : Int} {t : ByteArray} (h : Mid w wz k n t) (o : Obj) : Mid w (wz.alloc o) k n t := h.later (below_alloc _ _)
theorem Three.num {w W : World} {k : Int} {p1 p2 p3 : Option Addr} {n1 n2 n3 m1 m2 m3 : Nat} (h : Three w W k p1 p2 p3 n1 n2 n3 m1 m2 m3) (n : Int) : Mid w (W.setCell ⟨w.heap.size + 1 + 1, 1, none⟩ (.int .i64 n)) k n ⟨#[]⟩ := by
  refine ⟨?_, ?_, h.below.setCell (p := ⟨w.heap.size + 1 + 1, 1, none⟩) (show w.heap.size ≤ w.heap.size + 1 + 1 by omega) _⟩
  · rw [Below.heap_setCell _ _ _ _ (show w.heap.size + 1 ≠ w.heap.size + 1 + 1 by omega)]; exact h.out
  · rw [Go.heap_setCell_same _ _ 1 _ _ _ h.va]; rfl
theorem Three.txt {w W : World} {k : Int} {p1 p2 p3 : Option Addr} {n1 n2 n3 m1 m2 m3 : Nat} (h : Three w W k p1 p2 p3 n1 n2 n3 m1 m2 m3) (t : ByteArray) : Mid w (W.setCell ⟨w.heap.size + 1 + 1, 2, none⟩ (.string t)) k 0 t := by
  refine ⟨?_, ?_, h.below.setCell (p := ⟨w.heap.size + 1 + 1, 2, none⟩) (show w.heap.size ≤ w.heap.size + 1 + 1 by omega) _⟩
  · rw [Below.heap_setCell _ _ _ _ (show w.heap.size + 1 ≠ w.heap.size + 1 + 1 by omega)]; exact h.out
  · rw [Go.heap_setCell_same _ _ 2 _ _ _ h.va]; rfl
theorem Three.mid {w W : World} {k : Int} {p1 p2 p3 : Option Addr} {n1 n2 n3 m1 m2 m3 : Nat} (h : Three w W k p1 p2 p3 n1 n2 n3 m1 m2 m3) : Mid w W k 0 ⟨#[]⟩ := ⟨h.out, h.va, h.below⟩
/-- The end: the list goes into the Val, the Val into what is told. -/
theorem Mid.fin {w w5 : World} {k n : Int} {t : ByteArray} (h : Mid w w5 k n t) (q5 : Option Addr) (l5 m5 : Nat) (q : Int) (o : Obj) :
    ((putU (w5.setCell ⟨w.heap.size + 1 + 1, 3, none⟩ (.slice q5 l5 m5)) (w.heap.size + 1) k n t (.slice q5 l5 m5) q 0).alloc o).heap[w.heap.size + 1]? = some (.cells #[.int .i64 k, .int .i64 n, .string t, .slice q5 l5 m5, .int .i64 q, .int .i64 0] 50 (0, 0)) := by
  have h1 : (w5.setCell ⟨w.heap.size + 1 + 1, 3, none⟩ (.slice q5 l5 m5)).heap[w.heap.size + 1]? = _ := (Below.heap_setCell _ _ _ _ (show w.heap.size + 1 ≠ w.heap.size + 1 + 1 by omega)).trans h.out
  have h2 := putU_same h1 k n t (.slice q5 l5 m5) q 0
  exact blk_below h2 (below_alloc _ o) (Array.getElem?_eq_some_iff.1 h2).1
theorem Mid.end {w w5 wz : World} {k n : Int} {t : ByteArray} (h : Mid w w5 k n t) {it : List Va} {k5 n5 : Int} {t5 : ByteArray} {q5 : Option Addr} {l5 m5 : Nat} {F : List Nat} (ho : OwnVa w5 wz.heap.size (.mk 0 0 ⟨#[]⟩ it) (.agg #[.int .i64 k5, .int .i64 n5, .string t5, .slice q5 l5 m5]) F) (hn : F.Nodup) (hz : w.heap.size + 1 + 1 < wz.heap.size)
    (hk : InI64' k) (hnn : InI64' n) (ht : t.size ≤ 9223372036854775807) (q : Int) (o : Obj) :
    UnpPost w (.mk k n t it, q, 0) (.returned (.agg #[.int .i64 k, .int .i64 n, .string t, .slice q5 l5 m5, .int .i64 q, .int .i64 0])) ((putU (w5.setCell ⟨w.heap.size + 1 + 1, 3, none⟩ (.slice q5 l5 m5)) (w.heap.size + 1) k n t (.slice q5 l5 m5) q 0).alloc o) := by
  have hF : ∀ g ∈ F, w.heap.size + 1 + 1 < g := fun g hg => by have := (OwnVa.blocks _ _ _ ho g hg).1; omega
  refine UnpPost.grow (unp_end (h.below.setCell (p := ⟨w.heap.size + 1 + 1, 3, none⟩) (show w.heap.size ≤ w.heap.size + 1 + 1 by omega) _) (OwnVa.move (show w.heap.size ≤ wz.heap.size by omega) _ _ _ (fun g hg => Below.heap_setCell _ _ _ _ (by have := hF g hg; show g ≠ w.heap.size + 1 + 1; omega)) (ho.swap hk hnn ht)) (fun g hg => by have := hF g hg; omega) hn) (below_alloc _ o)
theorem items_none (d : Nat) (ih : SuAt d) (a : Option Addr) (m : Nat) (hm : m ≤ 9223372036854775807) (bs : ByteArray) (q : Int) (w : World) (hb : bs.size ≤ 8000) (h0 : 0 ≤ q) (h1 : q ≤ bs.size) :
    Calls Tryz.prog 115 #[.slice a 0 m, .int .i64 0, .string bs, .int .i64 q] w (UnpPost w (.mk 0 0 ⟨#[]⟩ [], q, 0)) :=
  items_any d ih [] (by simp) a m 0 bs q w [] rfl (by omega) (by simp) (by simp) hb h0 h1 ⟨a, m, rfl, by simp, hm, .inl rfl⟩

set_option maxRecDepth 100000 in
set_option maxHeartbeats 4000000 in
theorem su_num1 (d : Nat) (ih : SuAt d) (p1 p2 p3 : Option Addr) (n1 n2 m1 m2 m3 : Nat) (hm3 : m3 ≤ 9223372036854775807) (hn1 : n1 ≤ 6) (bs : ByteArray) (p : Int) (w : World) (h8 : bs.size ≤ 8000) (h0 : 0 ≤ p) (h1 : p ≤ bs.size) :
    Calls Tryz.prog 69 #[.agg #[.int .i64 1, .slice p1 n1 m1, .slice p2 n2 m2, .slice p3 0 m3], .string bs, .int .i64 p] w
      (UnpPost w (if (readN bs p 1).2.2 ≠ 0 then (zeroVa, 0, (readN bs p 1).2.2) else (.mk 1 (readN bs p 1).1 ⟨#[]⟩ [], (readN bs p 1).2.1, 0))) := by
  obtain ⟨⟨n, q, c⟩, hX⟩ : ∃ X : Int × Int × Int, getRes bs p = X := ⟨_, rfl⟩
  have HNm := Lib.hid (num_parts bs p n q c h8 h0 h1 hX)
  rw [readN_parts hX]
  have hq : c = 0 → 0 ≤ q ∧ q ≤ bs.size := fun hc => by have := res_place (s := bs) (p := p) (by rw [hX]; exact hc); rw [hX] at this; exact this
  obtain ⟨r, hr⟩ : ∃ r : UnR, (if (if c ≠ 0 then ((0 : Int), (0 : Int), c) else if n < 0 ∨ 1 < n then (0, 0, 3) else (n, q, 0)).2.2 ≠ 0 then (zeroVa, (0 : Int), (if c ≠ 0 then ((0 : Int), (0 : Int), c) else if n < 0 ∨ 1 < n then (0, 0, 3) else (n, q, 0)).2.2) else (.mk 1 (if c ≠ 0 then ((0 : Int), (0 : Int), c) else if n < 0 ∨ 1 < n then (0, 0, 3) else (n, q, 0)).1 ⟨#[]⟩ [], (if c ≠ 0 then ((0 : Int), (0 : Int), c) else if n < 0 ∨ 1 < n then (0, 0, 3) else (n, q, 0)).2.1, 0)) = r := ⟨_, rfl⟩
  rw [hr]
  have HR := Lib.hid hr
  have IH := Lib.hid ih
  obtain ⟨W, hW⟩ : ∃ W, W = (((w.alloc (.cells #[.int .i64 1, .slice p1 n1 m1, .slice p2 n2 m2, .slice p3 0 m3] 26)).alloc (.cells #[.int .i64 0, .int .i64 0, .string ⟨#[]⟩, .slice none 0 0, .int .i64 0, .int .i64 0] 50)).alloc (.cells #[.int .i64 1, .int .i64 0, .string ⟨#[]⟩, .slice none 0 0] 29)) := ⟨_, rfl⟩
  have hT := three_at w 1 p1 p2 p3 n1 n2 0 m1 m2 m3
  rw [← hW] at hT
  have HT := Lib.hid hT
  have HW := Lib.hid hW
  have HQ := Lib.hid hq
  clear hX hr hT hW h0 h1 hq ih
  have hw1 : IntKind.i64.wrap ((n1 : Int) - 1) = (n1 : Int) - 1 := IntWalk.i64_in _ (by omega)
  obtain ⟨a0, a1, a2, a3, _, _, _, _, az⟩ := blk4 HT.out.sh
  obtain ⟨_, _, _, _, _, _, _, _, _, _, _, _, bz⟩ := blk6 HT.out.out
  obtain ⟨d0, d1, d2, d3, _, _, _, _, dz⟩ := blk4 HT.out.va
  go_enter Tryz.func69, Tryz.ntmps69
  go_wp2_with fail
  rw [← HW.out]
  refine (HNm.out W).mono ?_
  rintro e w1 ⟨rfl, hb1⟩
  have T1 := Lib.hid (HT.out.later hb1)
  have B1 := Lib.hid T1.out.below
  have HBA := Lib.hid (below_alloc w1)
  have HBB := Lib.hid (fun o1 o2 => (below_alloc w1 o1).alloc (by simp) o2)
  clear hb1 a0 a1 a2 a3 az bz d0 d1 d2 d3 dz
  obtain ⟨a0, a1, a2, a3, _, _, _, _, az⟩ := blk4 T1.out.sh
  obtain ⟨_, _, _, _, _, _, _, _, _, _, _, _, bz⟩ := blk6 T1.out.out
  obtain ⟨d0, d1, d2, d3, e0, e1, e2, e3, dz⟩ := blk4 T1.out.va
  by_cases hc : c = 0
  · subst hc
    by_cases hn0 : 0 ≤ n
    · by_cases hn1' : n ≤ 1
      · go_wp2_with fail
        refine (l02Is_any n 0 1 _).mono ?_
        rintro e w' ⟨rfl, rfl⟩
        rw [decide_eq_true hn0, decide_eq_true hn1']
        go_wp2_with fail
        obtain ⟨wz, hwz⟩ : ∃ wz, wz = ((w1.setCell ⟨w.heap.size + 1 + 1, 1, none⟩ (.int .i64 n)).alloc (.cells #[.int .i64 n, .int .i64 q, .int .i64 0] 170)).alloc (.cells #[.int .i64 0, .int .i64 1, .int .i64 1000000, .int .i64 0, .int .i64 ((n1 : Int) - 1), .int .i64 1, .int .i64 6] 2) := ⟨_, rfl⟩
        have hM : Mid w wz 1 n ⟨#[]⟩ := by rw [hwz]; exact ((T1.out.num n).alloc _).alloc _
        rw [← hwz]
        have HM := Lib.hid hM
        clear hM hwz a0 a1 a2 a3 d0 d1 d2 d3 e0 e1 e2 e3 az bz dz
        refine (items_none d IH.out p3 m3 hm3 bs q wz h8 (HQ.out (by first | rfl | trivial)).1 (HQ.out (by first | rfl | trivial)).2).mono ?_
        rintro e w5 ⟨k5, n5, t5, q5, l5, m5, F5, rfl, ho5, hn5, hb5⟩
        have M5 := Lib.hid (HM.out.later hb5)
        have HO5 := Lib.hid ho5
        have HZ5 : Hid (w.heap.size + 1 + 1 < wz.heap.size) := (Array.getElem?_eq_some_iff.1 HM.out.va).1
        clear hb5 ho5
        obtain ⟨b0, b1, b2, b3, b4, b5, f0, f1, f2, f3, f4, f5, bz⟩ := blk6 M5.out.out
        obtain ⟨d0, d1, d2, d3, e0, e1, e2, e3, dz⟩ := blk4 M5.out.va
        go_wp2_with fail
        have HF := Lib.hid (M5.out.fin q5 l5 m5 q (.cells #[.int .i64 1, .int .i64 n, .string ⟨#[]⟩, .slice q5 l5 m5, .int .i64 q, .int .i64 0] 50))
        have HE := Lib.hid (M5.out.end HO5.out hn5 HZ5.out (by unfold InI64'; omega) (by unfold InI64'; omega) (by decide) q (.cells #[.int .i64 1, .int .i64 n, .string ⟨#[]⟩, .slice q5 l5 m5, .int .i64 q, .int .i64 0] 50))
        unfold putU putV at HF HE
        clear b0 b1 b2 b3 b4 b5 f0 f1 f2 f3 f4 f5 bz d0 d1 d2 d3 e0 e1 e2 e3 dz
        obtain ⟨b0, b1, b2, b3, b4, b5, f0, f1, f2, f3, f4, f5, bz⟩ := blk6 HF.out
        refine bodyPost_ret (v := .agg #[.int .i64 1, .int .i64 n, .string ⟨#[]⟩, .slice q5 l5 m5, .int .i64 q, .int .i64 0]) (by simp [results, Tryz.results69, go_sem, b0, b1, b2, b3, b4, b5]) rfl ?_
        have e1 : r = (.mk 1 n ⟨#[]⟩ [], q, 0) := by rw [← HR.out]; simp [show ¬ (n < 0 ∨ 1 < n) by omega]
        rw [e1]
        exact HE.out
      · have e1 : r = (zeroVa, 0, 3) := by rw [← HR.out]; simp [show (n < 0 ∨ 1 < n) by omega]
        go_wp2_with fail
        refine (l02Is_any n 0 1 _).mono ?_
        rintro e w' ⟨rfl, rfl⟩
        rw [decide_eq_true hn0, decide_eq_false (p := n ≤ 1) (by omega)]
        go_wp2_with fail
        refine (ill_any 3 _).mono ?_
        rintro e w4 ⟨rfl, hb4⟩
        have B4 := Lib.hid (B1.out.trans (((HBB.out _ _).trans (hb4.mono (by simp; omega))).mono B1.out.size))
        have D2 := blk_below T1.out.out ((HBB.out _ _).trans (hb4.mono (by simp; omega))) bz
        obtain ⟨x0, x1, x2, x3, x4, x5, v0, v1, v2, v3, v4, v5, xz⟩ := blk6 D2
        clear hb4 D2
        go_wp2_with fail
        refine bodyPost_ret (v := .agg #[.int .i64 0, .int .i64 0, .string ⟨#[]⟩, .slice none 0 0, .int .i64 0, .int .i64 3]) (by simp [results, Tryz.results69, go_sem, x0, x1, x2, x3, x4, x5]) rfl ?_
        rw [e1]
        exact unp_end B4.out (own_zero _ _) (by simp) List.nodup_nil
    · have e1 : r = (zeroVa, 0, 3) := by rw [← HR.out]; simp [show (n < 0 ∨ 1 < n) by omega]
      go_wp2_with fail
      refine (l02Is_any n 0 1 _).mono ?_
      rintro e w' ⟨rfl, rfl⟩
      rw [decide_eq_false (p := 0 ≤ n) (by omega)]
      go_wp2_with fail
      refine (ill_any 3 _).mono ?_
      rintro e w4 ⟨rfl, hb4⟩
      have B4 := Lib.hid (B1.out.trans (((HBB.out _ _).trans (hb4.mono (by simp; omega))).mono B1.out.size))
      have D2 := blk_below T1.out.out ((HBB.out _ _).trans (hb4.mono (by simp; omega))) bz
      obtain ⟨x0, x1, x2, x3, x4, x5, v0, v1, v2, v3, v4, v5, xz⟩ := blk6 D2
      clear hb4 D2
      go_wp2_with fail
      refine bodyPost_ret (v := .agg #[.int .i64 0, .int .i64 0, .string ⟨#[]⟩, .slice none 0 0, .int .i64 0, .int .i64 3]) (by simp [results, Tryz.results69, go_sem, x0, x1, x2, x3, x4, x5]) rfl ?_
      rw [e1]
      exact unp_end B4.out (own_zero _ _) (by simp) List.nodup_nil
  · have e1 : r = (zeroVa, 0, c) := by rw [← HR.out]; simp [hc]
    go_wp2_with fail
    refine (ill_any c _).mono ?_
    rintro e w4 ⟨rfl, hb4⟩
    have B4 := Lib.hid (B1.out.trans (((HBA.out _).trans (hb4.mono (by simp))).mono B1.out.size))
    have D2 := blk_below T1.out.out ((HBA.out _).trans (hb4.mono (by simp))) bz
    obtain ⟨x0, x1, x2, x3, x4, x5, v0, v1, v2, v3, v4, v5, xz⟩ := blk6 D2
    clear hb4 D2
    go_wp2_with fail
    refine bodyPost_ret (v := .agg #[.int .i64 0, .int .i64 0, .string ⟨#[]⟩, .slice none 0 0, .int .i64 0, .int .i64 c]) (by simp [results, Tryz.results69, go_sem, x0, x1, x2, x3, x4, x5]) rfl ?_
    rw [e1]
    exact unp_end B4.out (own_zero _ _) (by simp) List.nodup_nil
set_option maxRecDepth 100000 in
set_option maxHeartbeats 4000000 in
theorem su_num2 (d : Nat) (ih : SuAt d) (p1 p2 p3 : Option Addr) (n1 n2 m1 m2 m3 : Nat) (hm3 : m3 ≤ 9223372036854775807) (hn1 : n1 ≤ 6) (bs : ByteArray) (p : Int) (w : World) (h8 : bs.size ≤ 8000) (h0 : 0 ≤ p) (h1 : p ≤ bs.size) :
    Calls Tryz.prog 69 #[.agg #[.int .i64 2, .slice p1 n1 m1, .slice p2 n2 m2, .slice p3 0 m3], .string bs, .int .i64 p] w
      (UnpPost w (if (readN bs p 1000000).2.2 ≠ 0 then (zeroVa, 0, (readN bs p 1000000).2.2) else (.mk 2 (readN bs p 1000000).1 ⟨#[]⟩ [], (readN bs p 1000000).2.1, 0))) := by
  obtain ⟨⟨n, q, c⟩, hX⟩ : ∃ X : Int × Int × Int, getRes bs p = X := ⟨_, rfl⟩
  have HNm := Lib.hid (num_parts bs p n q c h8 h0 h1 hX)
  rw [readN_parts hX]
  have hq : c = 0 → 0 ≤ q ∧ q ≤ bs.size := fun hc => by have := res_place (s := bs) (p := p) (by rw [hX]; exact hc); rw [hX] at this; exact this
  obtain ⟨r, hr⟩ : ∃ r : UnR, (if (if c ≠ 0 then ((0 : Int), (0 : Int), c) else if n < 0 ∨ 1000000 < n then (0, 0, 3) else (n, q, 0)).2.2 ≠ 0 then (zeroVa, (0 : Int), (if c ≠ 0 then ((0 : Int), (0 : Int), c) else if n < 0 ∨ 1000000 < n then (0, 0, 3) else (n, q, 0)).2.2) else (.mk 2 (if c ≠ 0 then ((0 : Int), (0 : Int), c) else if n < 0 ∨ 1000000 < n then (0, 0, 3) else (n, q, 0)).1 ⟨#[]⟩ [], (if c ≠ 0 then ((0 : Int), (0 : Int), c) else if n < 0 ∨ 1000000 < n then (0, 0, 3) else (n, q, 0)).2.1, 0)) = r := ⟨_, rfl⟩
  rw [hr]
  have HR := Lib.hid hr
  have IH := Lib.hid ih
  obtain ⟨W, hW⟩ : ∃ W, W = (((w.alloc (.cells #[.int .i64 2, .slice p1 n1 m1, .slice p2 n2 m2, .slice p3 0 m3] 26)).alloc (.cells #[.int .i64 0, .int .i64 0, .string ⟨#[]⟩, .slice none 0 0, .int .i64 0, .int .i64 0] 50)).alloc (.cells #[.int .i64 2, .int .i64 0, .string ⟨#[]⟩, .slice none 0 0] 29)) := ⟨_, rfl⟩
  have hT := three_at w 2 p1 p2 p3 n1 n2 0 m1 m2 m3
  rw [← hW] at hT
  have HT := Lib.hid hT
  have HW := Lib.hid hW
  have HQ := Lib.hid hq
  clear hX hr hT hW h0 h1 hq ih
  have hw1 : IntKind.i64.wrap ((n1 : Int) - 1) = (n1 : Int) - 1 := IntWalk.i64_in _ (by omega)
  obtain ⟨a0, a1, a2, a3, _, _, _, _, az⟩ := blk4 HT.out.sh
  obtain ⟨_, _, _, _, _, _, _, _, _, _, _, _, bz⟩ := blk6 HT.out.out
  obtain ⟨d0, d1, d2, d3, _, _, _, _, dz⟩ := blk4 HT.out.va
  go_enter Tryz.func69, Tryz.ntmps69
  go_wp2_with fail
  rw [← HW.out]
  refine (HNm.out W).mono ?_
  rintro e w1 ⟨rfl, hb1⟩
  have T1 := Lib.hid (HT.out.later hb1)
  have B1 := Lib.hid T1.out.below
  have HBA := Lib.hid (below_alloc w1)
  have HBB := Lib.hid (fun o1 o2 => (below_alloc w1 o1).alloc (by simp) o2)
  clear hb1 a0 a1 a2 a3 az bz d0 d1 d2 d3 dz
  obtain ⟨a0, a1, a2, a3, _, _, _, _, az⟩ := blk4 T1.out.sh
  obtain ⟨_, _, _, _, _, _, _, _, _, _, _, _, bz⟩ := blk6 T1.out.out
  obtain ⟨d0, d1, d2, d3, e0, e1, e2, e3, dz⟩ := blk4 T1.out.va
  by_cases hc : c = 0
  · subst hc
    by_cases hn0 : 0 ≤ n
    · by_cases hn1' : n ≤ 1000000
      · go_wp2_with fail
        refine (l02Is_any n 0 1000000 _).mono ?_
        rintro e w' ⟨rfl, rfl⟩
        rw [decide_eq_true hn0, decide_eq_true hn1']
        go_wp2_with fail
        obtain ⟨wz, hwz⟩ : ∃ wz, wz = ((w1.setCell ⟨w.heap.size + 1 + 1, 1, none⟩ (.int .i64 n)).alloc (.cells #[.int .i64 n, .int .i64 q, .int .i64 0] 170)).alloc (.cells #[.int .i64 0, .int .i64 1, .int .i64 1000000, .int .i64 0, .int .i64 ((n1 : Int) - 1), .int .i64 1, .int .i64 6] 2) := ⟨_, rfl⟩
        have hM : Mid w wz 2 n ⟨#[]⟩ := by rw [hwz]; exact ((T1.out.num n).alloc _).alloc _
        rw [← hwz]
        have HM := Lib.hid hM
        clear hM hwz a0 a1 a2 a3 d0 d1 d2 d3 e0 e1 e2 e3 az bz dz
        refine (items_none d IH.out p3 m3 hm3 bs q wz h8 (HQ.out (by first | rfl | trivial)).1 (HQ.out (by first | rfl | trivial)).2).mono ?_
        rintro e w5 ⟨k5, n5, t5, q5, l5, m5, F5, rfl, ho5, hn5, hb5⟩
        have M5 := Lib.hid (HM.out.later hb5)
        have HO5 := Lib.hid ho5
        have HZ5 : Hid (w.heap.size + 1 + 1 < wz.heap.size) := (Array.getElem?_eq_some_iff.1 HM.out.va).1
        clear hb5 ho5
        obtain ⟨b0, b1, b2, b3, b4, b5, f0, f1, f2, f3, f4, f5, bz⟩ := blk6 M5.out.out
        obtain ⟨d0, d1, d2, d3, e0, e1, e2, e3, dz⟩ := blk4 M5.out.va
        go_wp2_with fail
        have HF := Lib.hid (M5.out.fin q5 l5 m5 q (.cells #[.int .i64 2, .int .i64 n, .string ⟨#[]⟩, .slice q5 l5 m5, .int .i64 q, .int .i64 0] 50))
        have HE := Lib.hid (M5.out.end HO5.out hn5 HZ5.out (by unfold InI64'; omega) (by unfold InI64'; omega) (by decide) q (.cells #[.int .i64 2, .int .i64 n, .string ⟨#[]⟩, .slice q5 l5 m5, .int .i64 q, .int .i64 0] 50))
        unfold putU putV at HF HE
        clear b0 b1 b2 b3 b4 b5 f0 f1 f2 f3 f4 f5 bz d0 d1 d2 d3 e0 e1 e2 e3 dz
        obtain ⟨b0, b1, b2, b3, b4, b5, f0, f1, f2, f3, f4, f5, bz⟩ := blk6 HF.out
        refine bodyPost_ret (v := .agg #[.int .i64 2, .int .i64 n, .string ⟨#[]⟩, .slice q5 l5 m5, .int .i64 q, .int .i64 0]) (by simp [results, Tryz.results69, go_sem, b0, b1, b2, b3, b4, b5]) rfl ?_
        have e1 : r = (.mk 2 n ⟨#[]⟩ [], q, 0) := by rw [← HR.out]; simp [show ¬ (n < 0 ∨ 1000000 < n) by omega]
        rw [e1]
        exact HE.out
      · have e1 : r = (zeroVa, 0, 3) := by rw [← HR.out]; simp [show (n < 0 ∨ 1000000 < n) by omega]
        go_wp2_with fail
        refine (l02Is_any n 0 1000000 _).mono ?_
        rintro e w' ⟨rfl, rfl⟩
        rw [decide_eq_true hn0, decide_eq_false (p := n ≤ 1000000) (by omega)]
        go_wp2_with fail
        refine (ill_any 3 _).mono ?_
        rintro e w4 ⟨rfl, hb4⟩
        have B4 := Lib.hid (B1.out.trans (((HBB.out _ _).trans (hb4.mono (by simp; omega))).mono B1.out.size))
        have D2 := blk_below T1.out.out ((HBB.out _ _).trans (hb4.mono (by simp; omega))) bz
        obtain ⟨x0, x1, x2, x3, x4, x5, v0, v1, v2, v3, v4, v5, xz⟩ := blk6 D2
        clear hb4 D2
        go_wp2_with fail
        refine bodyPost_ret (v := .agg #[.int .i64 0, .int .i64 0, .string ⟨#[]⟩, .slice none 0 0, .int .i64 0, .int .i64 3]) (by simp [results, Tryz.results69, go_sem, x0, x1, x2, x3, x4, x5]) rfl ?_
        rw [e1]
        exact unp_end B4.out (own_zero _ _) (by simp) List.nodup_nil
    · have e1 : r = (zeroVa, 0, 3) := by rw [← HR.out]; simp [show (n < 0 ∨ 1000000 < n) by omega]
      go_wp2_with fail
      refine (l02Is_any n 0 1000000 _).mono ?_
      rintro e w' ⟨rfl, rfl⟩
      rw [decide_eq_false (p := 0 ≤ n) (by omega)]
      go_wp2_with fail
      refine (ill_any 3 _).mono ?_
      rintro e w4 ⟨rfl, hb4⟩
      have B4 := Lib.hid (B1.out.trans (((HBB.out _ _).trans (hb4.mono (by simp; omega))).mono B1.out.size))
      have D2 := blk_below T1.out.out ((HBB.out _ _).trans (hb4.mono (by simp; omega))) bz
      obtain ⟨x0, x1, x2, x3, x4, x5, v0, v1, v2, v3, v4, v5, xz⟩ := blk6 D2
      clear hb4 D2
      go_wp2_with fail
      refine bodyPost_ret (v := .agg #[.int .i64 0, .int .i64 0, .string ⟨#[]⟩, .slice none 0 0, .int .i64 0, .int .i64 3]) (by simp [results, Tryz.results69, go_sem, x0, x1, x2, x3, x4, x5]) rfl ?_
      rw [e1]
      exact unp_end B4.out (own_zero _ _) (by simp) List.nodup_nil
  · have e1 : r = (zeroVa, 0, c) := by rw [← HR.out]; simp [hc]
    go_wp2_with fail
    refine (ill_any c _).mono ?_
    rintro e w4 ⟨rfl, hb4⟩
    have B4 := Lib.hid (B1.out.trans (((HBA.out _).trans (hb4.mono (by simp))).mono B1.out.size))
    have D2 := blk_below T1.out.out ((HBA.out _).trans (hb4.mono (by simp))) bz
    obtain ⟨x0, x1, x2, x3, x4, x5, v0, v1, v2, v3, v4, v5, xz⟩ := blk6 D2
    clear hb4 D2
    go_wp2_with fail
    refine bodyPost_ret (v := .agg #[.int .i64 0, .int .i64 0, .string ⟨#[]⟩, .slice none 0 0, .int .i64 0, .int .i64 c]) (by simp [results, Tryz.results69, go_sem, x0, x1, x2, x3, x4, x5]) rfl ?_
    rw [e1]
    exact unp_end B4.out (own_zero _ _) (by simp) List.nodup_nil
end Go.Proofs.YtbpidhlpakobiaaGreatDoor
namespace Go.Proofs.YtbpidhlpakobiaaGreatDoor
open Go.RowKit

set_option maxRecDepth 100000 in
set_option maxHeartbeats 4000000 in
theorem su_pick (d : Nat) (ih : SuAt d) (sy : List ByteArray) (hs0 : 0 < sy.length) (hs8 : ∀ s ∈ sy, s.size ≤ 8) (p1 p2 p3 : Option Addr) (n2 m1 m2 m3 : Nat) (hm3 : m3 ≤ 9223372036854775807) (hn1 : sy.length ≤ 6) (bs : ByteArray) (p : Int) (w : World) (h8 : bs.size ≤ 8000) (h0 : 0 ≤ p) (h1 : p ≤ bs.size) (hsy : IsStrs w (.slice p1 sy.length m1) sy) :
    Calls Tryz.prog 69 #[.agg #[.int .i64 4, .slice p1 sy.length m1, .slice p2 n2 m2, .slice p3 0 m3], .string bs, .int .i64 p] w
      (UnpPost w (if (readN bs p (sy.length - 1)).2.2 ≠ 0 then (zeroVa, 0, (readN bs p (sy.length - 1)).2.2) else (.mk 4 0 (sy.getD (readN bs p (sy.length - 1)).1.toNat ⟨#[]⟩) [], (readN bs p (sy.length - 1)).2.1, 0))) := by
  obtain ⟨⟨n, q, c⟩, hX⟩ : ∃ X : Int × Int × Int, getRes bs p = X := ⟨_, rfl⟩
  have HNm := Lib.hid (num_parts bs p n q c h8 h0 h1 hX)
  rw [readN_parts hX]
  have hq : c = 0 → 0 ≤ q ∧ q ≤ bs.size := fun hc => by have := res_place (s := bs) (p := p) (by rw [hX]; exact hc); rw [hX] at this; exact this
  obtain ⟨r, hr⟩ : ∃ r : UnR, (if (if c ≠ 0 then ((0 : Int), (0 : Int), c) else if n < 0 ∨ (sy.length : Int) - 1 < n then (0, 0, 3) else (n, q, 0)).2.2 ≠ 0 then (zeroVa, (0 : Int), (if c ≠ 0 then ((0 : Int), (0 : Int), c) else if n < 0 ∨ (sy.length : Int) - 1 < n then (0, 0, 3) else (n, q, 0)).2.2) else (.mk 4 0 (sy.getD (if c ≠ 0 then ((0 : Int), (0 : Int), c) else if n < 0 ∨ (sy.length : Int) - 1 < n then (0, 0, 3) else (n, q, 0)).1.toNat ⟨#[]⟩) [], (if c ≠ 0 then ((0 : Int), (0 : Int), c) else if n < 0 ∨ (sy.length : Int) - 1 < n then (0, 0, 3) else (n, q, 0)).2.1, 0)) = r := ⟨_, rfl⟩
  rw [hr]
  have HR := Lib.hid hr
  obtain ⟨_, _, a, cap, he, _, _, h5⟩ := hsy
  simp only [Value.slice.injEq] at he
  obtain ⟨rfl, _, rfl⟩ := he
  have H5 := Lib.hid h5
  have HS8 := Lib.hid hs8
  have IH := Lib.hid ih
  obtain ⟨W, hW⟩ : ∃ W, W = (((w.alloc (.cells #[.int .i64 4, .slice p1 sy.length m1, .slice p2 n2 m2, .slice p3 0 m3] 26)).alloc (.cells #[.int .i64 0, .int .i64 0, .string ⟨#[]⟩, .slice none 0 0, .int .i64 0, .int .i64 0] 50)).alloc (.cells #[.int .i64 4, .int .i64 0, .string ⟨#[]⟩, .slice none 0 0] 29)) := ⟨_, rfl⟩
  have hT := three_at w 4 p1 p2 p3 sy.length n2 0 m1 m2 m3
  rw [← hW] at hT
  have HT := Lib.hid hT
  have HW := Lib.hid hW
  have HQ := Lib.hid hq
  clear hX hr hT hW h0 h1 hq ih h5 hs8
  have hw1 : IntKind.i64.wrap ((sy.length : Int) - 1) = (sy.length : Int) - 1 := IntWalk.i64_in _ (by omega)
  obtain ⟨a0, a1, a2, a3, _, _, _, _, az⟩ := blk4 HT.out.sh
  obtain ⟨_, _, _, _, _, _, _, _, _, _, _, _, bz⟩ := blk6 HT.out.out
  obtain ⟨d0, d1, d2, d3, _, _, _, _, dz⟩ := blk4 HT.out.va
  go_enter Tryz.func69, Tryz.ntmps69
  go_wp2_with fail
  rw [← HW.out]
  refine (HNm.out W).mono ?_
  rintro e w1 ⟨rfl, hb1⟩
  have T1 := Lib.hid (HT.out.later hb1)
  have B1 := Lib.hid T1.out.below
  have HBA := Lib.hid (below_alloc w1)
  have HBB := Lib.hid (fun o1 o2 => (below_alloc w1 o1).alloc (by simp) o2)
  clear hb1 a0 a1 a2 a3 az bz d0 d1 d2 d3 dz
  obtain ⟨a0, a1, a2, a3, _, _, _, _, az⟩ := blk4 T1.out.sh
  obtain ⟨_, _, _, _, _, _, _, _, _, _, _, _, bz⟩ := blk6 T1.out.out
  obtain ⟨d0, d1, d2, d3, e0, e1, e2, e3, dz⟩ := blk4 T1.out.va
  by_cases hc : c = 0
  · subst hc
    by_cases hn0 : 0 ≤ n
    · by_cases hn1' : n ≤ (sy.length : Int) - 1
      · obtain ⟨jj, rfl⟩ := Int.eq_ofNat_of_zero_le hn0
        have hj : jj < sy.length := by omega
        obtain ⟨bb, off, rfl, hcell⟩ := IsStrs.at H5.out hj
        have HSt : Hid (sy.getD jj ⟨#[]⟩ = sy[jj]) := by show _ = _; rw [List.getD_eq_getElem?_getD, List.getElem?_eq_getElem hj]; rfl
        have HSz : Hid (sy[jj].size ≤ 9223372036854775807) := by have := HS8.out sy[jj] (List.getElem_mem hj); show _ ≤ _; omega
        have hkk := Keeps.of_below B1.out _ _ _ hcell
        have hb1 := World.block_lt_of_cell? w1 ⟨bb, off + jj, none⟩ hkk
        have hb2 : bb < w1.heap.size + 1 := Nat.lt_succ_of_lt hb1
        clear hcell
        go_wp2_with fail
        refine (l02Is_any jj 0 ((sy.length : Int) - 1) _).mono ?_
        rintro e w' ⟨rfl, rfl⟩
        rw [decide_eq_true hn0, decide_eq_true hn1']
        go_wp2_with fail
        obtain ⟨wz, hwz⟩ : ∃ wz, wz = ((w1.setCell ⟨w.heap.size + 1 + 1, 2, none⟩ (.string sy[jj])).alloc (.cells #[.int .i64 jj, .int .i64 q, .int .i64 0] 170)).alloc (.cells #[.int .i64 0, .int .i64 1, .int .i64 1000000, .int .i64 0, .int .i64 ((sy.length : Int) - 1), .int .i64 1, .int .i64 6] 2) := ⟨_, rfl⟩
        have hM : Mid w wz 4 0 sy[jj] := by rw [hwz]; exact ((T1.out.txt sy[jj]).alloc _).alloc _
        rw [← hwz]
        have HM := Lib.hid hM
        clear hM hwz a0 a1 a2 a3 d0 d1 d2 d3 e0 e1 e2 e3 az bz dz
        refine (items_none d IH.out p3 m3 hm3 bs q wz h8 (HQ.out (by first | rfl | trivial)).1 (HQ.out (by first | rfl | trivial)).2).mono ?_
        rintro e w5 ⟨k5, n5, t5, q5, l5, m5, F5, rfl, ho5, hn5, hb5⟩
        have M5 := Lib.hid (HM.out.later hb5)
        have HO5 := Lib.hid ho5
        have HZ5 : Hid (w.heap.size + 1 + 1 < wz.heap.size) := (Array.getElem?_eq_some_iff.1 HM.out.va).1
        clear hb5 ho5
        obtain ⟨b0, b1, b2, b3, b4, b5, f0, f1, f2, f3, f4, f5, bz⟩ := blk6 M5.out.out
        obtain ⟨d0, d1, d2, d3, e0, e1, e2, e3, dz⟩ := blk4 M5.out.va
        go_wp2_with fail
        have HF := Lib.hid (M5.out.fin q5 l5 m5 q (.cells #[.int .i64 4, .int .i64 0, .string sy[jj], .slice q5 l5 m5, .int .i64 q, .int .i64 0] 50))
        have HE := Lib.hid (M5.out.end HO5.out hn5 HZ5.out (by unfold InI64'; omega) (by unfold InI64'; omega) HSz.out q (.cells #[.int .i64 4, .int .i64 0, .string sy[jj], .slice q5 l5 m5, .int .i64 q, .int .i64 0] 50))
        unfold putU putV at HF HE
        clear b0 b1 b2 b3 b4 b5 f0 f1 f2 f3 f4 f5 bz d0 d1 d2 d3 e0 e1 e2 e3 dz
        obtain ⟨b0, b1, b2, b3, b4, b5, f0, f1, f2, f3, f4, f5, bz⟩ := blk6 HF.out
        refine bodyPost_ret (v := .agg #[.int .i64 4, .int .i64 0, .string sy[jj], .slice q5 l5 m5, .int .i64 q, .int .i64 0]) (by simp [results, Tryz.results69, go_sem, b0, b1, b2, b3, b4, b5]) rfl ?_
        have e1 : r = (.mk 4 0 sy[jj] [], q, 0) := by rw [← HR.out, if_neg (show ¬ ((0 : Int) ≠ 0) by simp), if_neg (show ¬ ((jj : Int) < 0 ∨ (sy.length : Int) - 1 < (jj : Int)) by omega)]; simp only [Int.toNat_natCast]; rw [HSt.out]; rfl
        rw [e1]
        exact HE.out
      · have e1 : r = (zeroVa, 0, 3) := by rw [← HR.out]; simp [show (n < 0 ∨ (sy.length : Int) - 1 < n) by omega]
        go_wp2_with fail
        refine (l02Is_any n 0 ((sy.length : Int) - 1) _).mono ?_
        rintro e w' ⟨rfl, rfl⟩
        rw [decide_eq_true hn0, decide_eq_false (p := n ≤ (sy.length : Int) - 1) (by omega)]
        go_wp2_with fail
        refine (ill_any 3 _).mono ?_
        rintro e w4 ⟨rfl, hb4⟩
        have B4 := Lib.hid (B1.out.trans (((HBB.out _ _).trans (hb4.mono (by simp; omega))).mono B1.out.size))
        have D2 := blk_below T1.out.out ((HBB.out _ _).trans (hb4.mono (by simp; omega))) bz
        obtain ⟨x0, x1, x2, x3, x4, x5, v0, v1, v2, v3, v4, v5, xz⟩ := blk6 D2
        clear hb4 D2
        go_wp2_with fail
        refine bodyPost_ret (v := .agg #[.int .i64 0, .int .i64 0, .string ⟨#[]⟩, .slice none 0 0, .int .i64 0, .int .i64 3]) (by simp [results, Tryz.results69, go_sem, x0, x1, x2, x3, x4, x5]) rfl ?_
        rw [e1]
        exact unp_end B4.out (own_zero _ _) (by simp) List.nodup_nil
    · have e1 : r = (zeroVa, 0, 3) := by rw [← HR.out]; simp [show (n < 0 ∨ (sy.length : Int) - 1 < n) by omega]
      go_wp2_with fail
      refine (l02Is_any n 0 ((sy.length : Int) - 1) _).mono ?_
      rintro e w' ⟨rfl, rfl⟩
      rw [decide_eq_false (p := 0 ≤ n) (by omega)]
      go_wp2_with fail
      refine (ill_any 3 _).mono ?_
      rintro e w4 ⟨rfl, hb4⟩
      have B4 := Lib.hid (B1.out.trans (((HBB.out _ _).trans (hb4.mono (by simp; omega))).mono B1.out.size))
      have D2 := blk_below T1.out.out ((HBB.out _ _).trans (hb4.mono (by simp; omega))) bz
      obtain ⟨x0, x1, x2, x3, x4, x5, v0, v1, v2, v3, v4, v5, xz⟩ := blk6 D2
      clear hb4 D2
      go_wp2_with fail
      refine bodyPost_ret (v := .agg #[.int .i64 0, .int .i64 0, .string ⟨#[]⟩, .slice none 0 0, .int .i64 0, .int .i64 3]) (by simp [results, Tryz.results69, go_sem, x0, x1, x2, x3, x4, x5]) rfl ?_
      rw [e1]
      exact unp_end B4.out (own_zero _ _) (by simp) List.nodup_nil
  · have e1 : r = (zeroVa, 0, c) := by rw [← HR.out]; simp [hc]
    go_wp2_with fail
    refine (ill_any c _).mono ?_
    rintro e w4 ⟨rfl, hb4⟩
    have B4 := Lib.hid (B1.out.trans (((HBA.out _).trans (hb4.mono (by simp))).mono B1.out.size))
    have D2 := blk_below T1.out.out ((HBA.out _).trans (hb4.mono (by simp))) bz
    obtain ⟨x0, x1, x2, x3, x4, x5, v0, v1, v2, v3, v4, v5, xz⟩ := blk6 D2
    clear hb4 D2
    go_wp2_with fail
    refine bodyPost_ret (v := .agg #[.int .i64 0, .int .i64 0, .string ⟨#[]⟩, .slice none 0 0, .int .i64 0, .int .i64 c]) (by simp [results, Tryz.results69, go_sem, x0, x1, x2, x3, x4, x5]) rfl ?_
    rw [e1]
    exact unp_end B4.out (own_zero _ _) (by simp) List.nodup_nil
end Go.Proofs.YtbpidhlpakobiaaGreatDoor
