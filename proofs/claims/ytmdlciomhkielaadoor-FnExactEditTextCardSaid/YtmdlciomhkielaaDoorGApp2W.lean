/- Walks: impl.appendShape at each kind. -/
import Derived.Test.YtmdlciomhkielaaDoorGAppW
import Derived.Test.YtmdlciomhkielaaDoorGTaW
namespace Go.Proofs.YtmdlciomhkielaaDoor
open Go.RowKit

/-- The table of the kinds' words stands in its block. -/
def KwAt (w : World) : Prop := ∀ k : Nat, k < 8 → w.cell? ⟨1, k, none⟩ = some (.string ⟨(kwB k).toArray⟩)

theorem txt_bare {k : Int} {sy na : List ByteArray} {su : List Sh} (h : k < 4) : (Sh.mk k sy na su).txt = kwB k := by
  simp only [Sh.txt]; rw [if_pos h]; simp

theorem len_ok {l : List UInt8} {s : ByteArray} (h : l.length ≤ 1099511627776) (hs : s.size ≤ 10) : l.length + s.size < 70368744177664 := by omega
set_option maxRecDepth 100000 in
set_option maxHeartbeats 2000000 in
theorem app_flag (w0 w : World) (v : Value) (l : List UInt8) (p1 p2 p3 : Option Addr) (n1 n2 n3 m1 m2 m3 : Nat)
    (hb : Below w0.heap.size w0 w) (ho : OwnB w w0.heap.size v l) (hl : l.length ≤ 1099511627776) (hkw : KwAt w0) :
    Calls Tryd.prog 97 #[v, .agg #[.int .i64 1, .slice p1 n1 m1, .slice p2 n2 m2, .slice p3 n3 m3]] w (AppPost w0 w (l ++ kwB 1)) := by
  obtain ⟨p, n, m, rfl⟩ := ho.slice
  have HO := Lib.hid (own_block ho fun g hg => (below_alloc w (.cells #[.int .i64 1, .slice p1 n1 m1, .slice p2 n2 m2, .slice p3 n3 m3] 25)).block g (blkOf_own ho g hg).2)
  have HB := Lib.hid (hb.alloc hb.size (.cells #[.int .i64 1, .slice p1 n1 m1, .slice p2 n2 m2, .slice p3 n3 m3] 25))
  have HX := Lib.hid (Go.Deep.blk_alloc_new w (.cells #[.int .i64 1, .slice p1 n1 m1, .slice p2 n2 m2, .slice p3 n3 m3] 25))
  have HA := Lib.hid (below_alloc w (.cells #[.int .i64 1, .slice p1 n1 m1, .slice p2 n2 m2, .slice p3 n3 m3] 25))
  have h1 := Keeps.of_below hb _ _ _ (hkw 1 (by decide))
  have h0 : 1 < w.heap.size := World.block_lt_of_cell? w ⟨1, 1, none⟩ h1
  obtain ⟨kw, hkw'⟩ : ∃ kw, kw = kwB 1 := ⟨_, rfl⟩
  have HS : Hid (kw.length ≤ 5) := by rw [hkw']; exact kwB_len _
  change w.cell? ⟨1, 1, none⟩ = some (.string ⟨(kwB 1).toArray⟩) at h1
  rw [← hkw'] at h1 ⊢
  have u1 := ta_no_pick 144 (by decide)
  have u2 := ta_no_maybe 144 (by decide)
  have u3 := ta_no_list 144 (by decide)
  have u4 := ta_no_rec 144 (by decide)
  clear hb ho hkw hkw'
  go_enter Tryd.func97, Tryd.ntmps97
  go_wp2_with (at_builtin; go_must (refine wpList_strK _ rfl (.tmp 10) (.tmp 14) rfl w0.heap.size (.slice p n m) l ⟨kw.toArray⟩ rfl HO.out rfl (len_ok hl (by have := HS.out; show kw.toArray.size ≤ _; simp; omega)) HB.out.size ?_))
  intro v' w1 hv' hb1 hk1
  obtain ⟨p', n', m', rfl⟩ := hv'.slice
  have HP1 : Hid (OwnB w1 w0.heap.size (.slice p' n' m') (l ++ kw)) := by show OwnB _ _ _ _; simpa using hv'
  have HB1 := Lib.hid (hb1 _ _ HB.out (Nat.le_refl _))
  have HX1 := Lib.hid (hk1 _ _ HX.out (fun cur h => by cases h))
  have HZ1 := Lib.hid (Nat.le_trans HA.out.size (hb1 0 _ (Below.refl _ _) (Nat.zero_le _)).size)
  have HK1 := Lib.hid ((Kept.below HA.out).trans hk1)
  clear hv' hb1 hk1 h1 h0
  obtain ⟨a0, a1, a2, a3, _, _, _, _, az⟩ := blk4 HX1.out
  go_wp2_with fail
  refine (kindOf_flag _ _ _ _ _ _ _ _ _ _).mono ?_
  rintro e w2 ⟨rfl, hb2⟩
  have HP2 := Lib.hid (own_block HP1.out fun g hg => hb2.block g (blkOf_own HP1.out g hg).2)
  have HB2 := Lib.hid (HB1.out.trans (hb2.mono HB1.out.size))
  have HZ2 := Lib.hid (Nat.le_trans HZ1.out hb2.size)
  have HK2 := Lib.hid (HK1.out.trans (Kept.below hb2))
  clear hb2 a0 a1 a2 a3 az
  go_wp2_with fail
  go_ret
  exact ⟨p', n', m', rfl, HP2.out, HB2.out, HZ2.out, HK2.out⟩

set_option maxRecDepth 100000 in
set_option maxHeartbeats 2000000 in
theorem app_num (w0 w : World) (v : Value) (l : List UInt8) (p1 p2 p3 : Option Addr) (n1 n2 n3 m1 m2 m3 : Nat)
    (hb : Below w0.heap.size w0 w) (ho : OwnB w w0.heap.size v l) (hl : l.length ≤ 1099511627776) (hkw : KwAt w0) :
    Calls Tryd.prog 97 #[v, .agg #[.int .i64 2, .slice p1 n1 m1, .slice p2 n2 m2, .slice p3 n3 m3]] w (AppPost w0 w (l ++ kwB 2)) := by
  obtain ⟨p, n, m, rfl⟩ := ho.slice
  have HO := Lib.hid (own_block ho fun g hg => (below_alloc w (.cells #[.int .i64 2, .slice p1 n1 m1, .slice p2 n2 m2, .slice p3 n3 m3] 25)).block g (blkOf_own ho g hg).2)
  have HB := Lib.hid (hb.alloc hb.size (.cells #[.int .i64 2, .slice p1 n1 m1, .slice p2 n2 m2, .slice p3 n3 m3] 25))
  have HX := Lib.hid (Go.Deep.blk_alloc_new w (.cells #[.int .i64 2, .slice p1 n1 m1, .slice p2 n2 m2, .slice p3 n3 m3] 25))
  have HA := Lib.hid (below_alloc w (.cells #[.int .i64 2, .slice p1 n1 m1, .slice p2 n2 m2, .slice p3 n3 m3] 25))
  have h1 := Keeps.of_below hb _ _ _ (hkw 2 (by decide))
  have h0 : 1 < w.heap.size := World.block_lt_of_cell? w ⟨1, 2, none⟩ h1
  obtain ⟨kw, hkw'⟩ : ∃ kw, kw = kwB 2 := ⟨_, rfl⟩
  have HS : Hid (kw.length ≤ 5) := by rw [hkw']; exact kwB_len _
  change w.cell? ⟨1, 2, none⟩ = some (.string ⟨(kwB 2).toArray⟩) at h1
  rw [← hkw'] at h1 ⊢
  have u1 := ta_no_pick 145 (by decide)
  have u2 := ta_no_maybe 145 (by decide)
  have u3 := ta_no_list 145 (by decide)
  have u4 := ta_no_rec 145 (by decide)
  clear hb ho hkw hkw'
  go_enter Tryd.func97, Tryd.ntmps97
  go_wp2_with (at_builtin; go_must (refine wpList_strK _ rfl (.tmp 10) (.tmp 14) rfl w0.heap.size (.slice p n m) l ⟨kw.toArray⟩ rfl HO.out rfl (len_ok hl (by have := HS.out; show kw.toArray.size ≤ _; simp; omega)) HB.out.size ?_))
  intro v' w1 hv' hb1 hk1
  obtain ⟨p', n', m', rfl⟩ := hv'.slice
  have HP1 : Hid (OwnB w1 w0.heap.size (.slice p' n' m') (l ++ kw)) := by show OwnB _ _ _ _; simpa using hv'
  have HB1 := Lib.hid (hb1 _ _ HB.out (Nat.le_refl _))
  have HX1 := Lib.hid (hk1 _ _ HX.out (fun cur h => by cases h))
  have HZ1 := Lib.hid (Nat.le_trans HA.out.size (hb1 0 _ (Below.refl _ _) (Nat.zero_le _)).size)
  have HK1 := Lib.hid ((Kept.below HA.out).trans hk1)
  clear hv' hb1 hk1 h1 h0
  obtain ⟨a0, a1, a2, a3, _, _, _, _, az⟩ := blk4 HX1.out
  go_wp2_with fail
  refine (kindOf_num _ _ _ _ _ _ _ _ _ _).mono ?_
  rintro e w2 ⟨rfl, hb2⟩
  have HP2 := Lib.hid (own_block HP1.out fun g hg => hb2.block g (blkOf_own HP1.out g hg).2)
  have HB2 := Lib.hid (HB1.out.trans (hb2.mono HB1.out.size))
  have HZ2 := Lib.hid (Nat.le_trans HZ1.out hb2.size)
  have HK2 := Lib.hid (HK1.out.trans (Kept.below hb2))
  clear hb2 a0 a1 a2 a3 az
  go_wp2_with fail
  go_ret
  exact ⟨p', n', m', rfl, HP2.out, HB2.out, HZ2.out, HK2.out⟩

set_option maxRecDepth 100000 in
set_option maxHeartbeats 2000000 in
theorem app_text (w0 w : World) (v : Value) (l : List UInt8) (p1 p2 p3 : Option Addr) (n1 n2 n3 m1 m2 m3 : Nat)
    (hb : Below w0.heap.size w0 w) (ho : OwnB w w0.heap.size v l) (hl : l.length ≤ 1099511627776) (hkw : KwAt w0) :
    Calls Tryd.prog 97 #[v, .agg #[.int .i64 3, .slice p1 n1 m1, .slice p2 n2 m2, .slice p3 n3 m3]] w (AppPost w0 w (l ++ kwB 3)) := by
  obtain ⟨p, n, m, rfl⟩ := ho.slice
  have HO := Lib.hid (own_block ho fun g hg => (below_alloc w (.cells #[.int .i64 3, .slice p1 n1 m1, .slice p2 n2 m2, .slice p3 n3 m3] 25)).block g (blkOf_own ho g hg).2)
  have HB := Lib.hid (hb.alloc hb.size (.cells #[.int .i64 3, .slice p1 n1 m1, .slice p2 n2 m2, .slice p3 n3 m3] 25))
  have HX := Lib.hid (Go.Deep.blk_alloc_new w (.cells #[.int .i64 3, .slice p1 n1 m1, .slice p2 n2 m2, .slice p3 n3 m3] 25))
  have HA := Lib.hid (below_alloc w (.cells #[.int .i64 3, .slice p1 n1 m1, .slice p2 n2 m2, .slice p3 n3 m3] 25))
  have h1 := Keeps.of_below hb _ _ _ (hkw 3 (by decide))
  have h0 : 1 < w.heap.size := World.block_lt_of_cell? w ⟨1, 3, none⟩ h1
  obtain ⟨kw, hkw'⟩ : ∃ kw, kw = kwB 3 := ⟨_, rfl⟩
  have HS : Hid (kw.length ≤ 5) := by rw [hkw']; exact kwB_len _
  change w.cell? ⟨1, 3, none⟩ = some (.string ⟨(kwB 3).toArray⟩) at h1
  rw [← hkw'] at h1 ⊢
  have u1 := ta_no_pick 146 (by decide)
  have u2 := ta_no_maybe 146 (by decide)
  have u3 := ta_no_list 146 (by decide)
  have u4 := ta_no_rec 146 (by decide)
  clear hb ho hkw hkw'
  go_enter Tryd.func97, Tryd.ntmps97
  go_wp2_with (at_builtin; go_must (refine wpList_strK _ rfl (.tmp 10) (.tmp 14) rfl w0.heap.size (.slice p n m) l ⟨kw.toArray⟩ rfl HO.out rfl (len_ok hl (by have := HS.out; show kw.toArray.size ≤ _; simp; omega)) HB.out.size ?_))
  intro v' w1 hv' hb1 hk1
  obtain ⟨p', n', m', rfl⟩ := hv'.slice
  have HP1 : Hid (OwnB w1 w0.heap.size (.slice p' n' m') (l ++ kw)) := by show OwnB _ _ _ _; simpa using hv'
  have HB1 := Lib.hid (hb1 _ _ HB.out (Nat.le_refl _))
  have HX1 := Lib.hid (hk1 _ _ HX.out (fun cur h => by cases h))
  have HZ1 := Lib.hid (Nat.le_trans HA.out.size (hb1 0 _ (Below.refl _ _) (Nat.zero_le _)).size)
  have HK1 := Lib.hid ((Kept.below HA.out).trans hk1)
  clear hv' hb1 hk1 h1 h0
  obtain ⟨a0, a1, a2, a3, _, _, _, _, az⟩ := blk4 HX1.out
  go_wp2_with fail
  refine (kindOf_text _ _ _ _ _ _ _ _ _ _).mono ?_
  rintro e w2 ⟨rfl, hb2⟩
  have HP2 := Lib.hid (own_block HP1.out fun g hg => hb2.block g (blkOf_own HP1.out g hg).2)
  have HB2 := Lib.hid (HB1.out.trans (hb2.mono HB1.out.size))
  have HZ2 := Lib.hid (Nat.le_trans HZ1.out hb2.size)
  have HK2 := Lib.hid (HK1.out.trans (Kept.below hb2))
  clear hb2 a0 a1 a2 a3 az
  go_wp2_with fail
  go_ret
  exact ⟨p', n', m', rfl, HP2.out, HB2.out, HZ2.out, HK2.out⟩

end Go.Proofs.YtmdlciomhkielaaDoor
