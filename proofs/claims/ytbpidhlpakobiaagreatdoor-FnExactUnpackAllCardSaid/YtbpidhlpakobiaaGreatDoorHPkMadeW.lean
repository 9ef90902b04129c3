/- Walks: (impl.packers).made. -/
import Derived.Test.YtbpidhlpakobiaaGreatDoorHPkOf
import Derived.Test.YtbpidhlpakobiaaGreatDoorHFitC
import Derived.Deep.RegionWith
import Derived.Stop.Asserts
namespace Go.Proofs.YtbpidhlpakobiaaGreatDoor
open Go.RowKit

/-- The blocks of X, and one more. -/
def withB (X : Nat → Prop) (b : Nat) : Nat → Prop := fun g => X g ∨ g = b
theorem MapG.last (G : (Nat → Prop) → World → Sh → Value → Prop) (hM : Moves G) {X : Nat → Prop} {w w' : World} {b mb : Nat} (h : MapG G (withB X b) w mb) (hs : Stab (withB X b) w w') (hm : w'.heap[mb]? = w.heap[mb]?) : MapG G X w' mb :=
  h.move hM hs (fun _ hg => .inl (.inl hg)) hm
/-- What lies in the cell of the result. -/
theorem made_end (G : (Nat → Prop) → World → Sh → Value → Prop) (hM : Makers G) {X : Nat → Prop} {mb : Nat} {w w3 : World} {s : Sh} {f1 f2 : FuncId} {c1 c2 : Array Value} (hmb : mb < w.heap.size) (ho : Only [mb] w w3) (hg : G (withB X (w.heap.size + 1)) w3 s (.agg #[fv f1 c1, fv f2 c2])) (hm : MapG G (withB X (w.heap.size + 1)) w3 mb) :
    PkPost G X mb w s (.returned (.agg #[fv f1 c1, fv f2 c2])) ((w3.setCell ⟨w.heap.size + 1, 0, none⟩ (fv f1 c1)).setCell ⟨w.heap.size + 1, 1, none⟩ (fv f2 c2)) := by
  have hst : Stab (withB X (w.heap.size + 1)) w3 ((w3.setCell ⟨w.heap.size + 1, 0, none⟩ (fv f1 c1)).setCell ⟨w.heap.size + 1, 1, none⟩ (fv f2 c2)) :=
    ((Stab.refl _ _).set (.inr rfl) _ _).set (.inr rfl) _ _
  refine ⟨f1, c1, f2, c2, rfl, hM.moves _ X w3 _ s _ hg hst fun g hg => .inl (.inl hg), MapG.last G hM.moves hm hst ?_, (ho.put (Nat.le_succ _) _ _).put (Nat.le_succ _) _ _⟩
  rw [Below.heap_setCell _ _ _ _ (show mb ≠ w.heap.size + 1 by omega), Below.heap_setCell _ _ _ _ (show mb ≠ w.heap.size + 1 by omega)]

theorem tk_flag (v : Value) (w : World) : (Instr.typeAssert (.iface 118 v) 116 118 true).run Tryz.prog w = .ok (.tuple #[v, .bool true]) w := by
  simp [Instr.typeAssert, run_underlying Tryz.underlying118]
theorem tk_no_flag (T : Nat) (hT : T ≠ 118) (v : Value) (w : World) : (Instr.typeAssert (.iface T v) 116 118 true).run Tryz.prog w = .ok (.tuple #[.agg #[.int .i64 0, .slice none 0 0, .slice none 0 0, .slice none 0 0], .bool false]) w := by
  have hz : (zeroValue 118).run Tryz.prog w = .ok (.agg #[.int .i64 0, .slice none 0 0, .slice none 0 0, .slice none 0 0]) w := by kernel_rfl
  simp [Instr.typeAssert, run_underlying Tryz.underlying118, hT, hz]
theorem tk_num (v : Value) (w : World) : (Instr.typeAssert (.iface 120 v) 116 120 true).run Tryz.prog w = .ok (.tuple #[v, .bool true]) w := by
  simp [Instr.typeAssert, run_underlying Tryz.underlying120]
theorem tk_no_num (T : Nat) (hT : T ≠ 120) (v : Value) (w : World) : (Instr.typeAssert (.iface T v) 116 120 true).run Tryz.prog w = .ok (.tuple #[.agg #[.int .i64 0, .slice none 0 0, .slice none 0 0, .slice none 0 0], .bool false]) w := by
  have hz : (zeroValue 120).run Tryz.prog w = .ok (.agg #[.int .i64 0, .slice none 0 0, .slice none 0 0, .slice none 0 0]) w := by kernel_rfl
  simp [Instr.typeAssert, run_underlying Tryz.underlying120, hT, hz]
theorem tk_text (v : Value) (w : World) : (Instr.typeAssert (.iface 122 v) 116 122 true).run Tryz.prog w = .ok (.tuple #[v, .bool true]) w := by
  simp [Instr.typeAssert, run_underlying Tryz.underlying122]
theorem tk_no_text (T : Nat) (hT : T ≠ 122) (v : Value) (w : World) : (Instr.typeAssert (.iface T v) 116 122 true).run Tryz.prog w = .ok (.tuple #[.agg #[.int .i64 0, .slice none 0 0, .slice none 0 0, .slice none 0 0], .bool false]) w := by
  have hz : (zeroValue 122).run Tryz.prog w = .ok (.agg #[.int .i64 0, .slice none 0 0, .slice none 0 0, .slice none 0 0]) w := by kernel_rfl
  simp [Instr.typeAssert, run_underlying Tryz.underlying122, hT, hz]
theorem tk_pick (v : Value) (w : World) : (Instr.typeAssert (.iface 123 v) 116 123 true).run Tryz.prog w = .ok (.tuple #[v, .bool true]) w := by
  simp [Instr.typeAssert, run_underlying Tryz.underlying123]
theorem tk_no_pick (T : Nat) (hT : T ≠ 123) (v : Value) (w : World) : (Instr.typeAssert (.iface T v) 116 123 true).run Tryz.prog w = .ok (.tuple #[.agg #[.int .i64 0, .slice none 0 0, .slice none 0 0, .slice none 0 0], .bool false]) w := by
  have hz : (zeroValue 123).run Tryz.prog w = .ok (.agg #[.int .i64 0, .slice none 0 0, .slice none 0 0, .slice none 0 0]) w := by kernel_rfl
  simp [Instr.typeAssert, run_underlying Tryz.underlying123, hT, hz]
theorem tk_maybe (v : Value) (w : World) : (Instr.typeAssert (.iface 124 v) 116 124 true).run Tryz.prog w = .ok (.tuple #[v, .bool true]) w := by
  simp [Instr.typeAssert, run_underlying Tryz.underlying124]
theorem tk_no_maybe (T : Nat) (hT : T ≠ 124) (v : Value) (w : World) : (Instr.typeAssert (.iface T v) 116 124 true).run Tryz.prog w = .ok (.tuple #[.agg #[.int .i64 0, .slice none 0 0, .slice none 0 0, .slice none 0 0], .bool false]) w := by
  have hz : (zeroValue 124).run Tryz.prog w = .ok (.agg #[.int .i64 0, .slice none 0 0, .slice none 0 0, .slice none 0 0]) w := by kernel_rfl
  simp [Instr.typeAssert, run_underlying Tryz.underlying124, hT, hz]
theorem tk_list (v : Value) (w : World) : (Instr.typeAssert (.iface 126 v) 116 126 true).run Tryz.prog w = .ok (.tuple #[v, .bool true]) w := by
  simp [Instr.typeAssert, run_underlying Tryz.underlying126]
theorem tk_no_list (T : Nat) (hT : T ≠ 126) (v : Value) (w : World) : (Instr.typeAssert (.iface T v) 116 126 true).run Tryz.prog w = .ok (.tuple #[.agg #[.int .i64 0, .slice none 0 0, .slice none 0 0, .slice none 0 0], .bool false]) w := by
  have hz : (zeroValue 126).run Tryz.prog w = .ok (.agg #[.int .i64 0, .slice none 0 0, .slice none 0 0, .slice none 0 0]) w := by kernel_rfl
  simp [Instr.typeAssert, run_underlying Tryz.underlying126, hT, hz]
theorem tk_rec (v : Value) (w : World) : (Instr.typeAssert (.iface 128 v) 116 128 true).run Tryz.prog w = .ok (.tuple #[v, .bool true]) w := by
  simp [Instr.typeAssert, run_underlying Tryz.underlying128]
theorem tk_no_rec (T : Nat) (hT : T ≠ 128) (v : Value) (w : World) : (Instr.typeAssert (.iface T v) 116 128 true).run Tryz.prog w = .ok (.tuple #[.agg #[.int .i64 0, .slice none 0 0, .slice none 0 0, .slice none 0 0], .bool false]) w := by
  have hz : (zeroValue 128).run Tryz.prog w = .ok (.agg #[.int .i64 0, .slice none 0 0, .slice none 0 0, .slice none 0 0]) w := by kernel_rfl
  simp [Instr.typeAssert, run_underlying Tryz.underlying128, hT, hz]

set_option maxRecDepth 100000 in
set_option maxHeartbeats 1000000 in
theorem made_flag (G : (Nat → Prop) → World → Sh → Value → Prop) (hM : Makers G) (X : Nat → Prop) (z w : World) (mb : Nat) (p1 p2 p3 : Option Addr) (n1 n2 n3 m1 m2 m3 : Nat) (hkw : KwAt z) (he : Env X z w mb) (hg : MapG G X w mb) :
    Calls Tryz.prog 108 #[.map (some mb), .agg #[.int .i64 1, .slice p1 n1 m1, .slice p2 n2 m2, .slice p3 n3 m3]] w (PkPost G X mb w (.mk 1 [] [] [])) := by
  have HB0 := two_new w (.cells #[.int .i64 1, .slice p1 n1 m1, .slice p2 n2 m2, .slice p3 n3 m3] 26) (.cells #[.nilFunc, .nilFunc] 86)
  have hbw := (below_alloc w (.cells #[.int .i64 1, .slice p1 n1 m1, .slice p2 n2 m2, .slice p3 n3 m3] 26)).alloc (by simp) (.cells #[.nilFunc, .nilFunc] 86)
  obtain ⟨W, hW⟩ : ∃ W, W = (w.alloc (.cells #[.int .i64 1, .slice p1 n1 m1, .slice p2 n2 m2, .slice p3 n3 m3] 26)).alloc (.cells #[.nilFunc, .nilFunc] 86) := ⟨_, rfl⟩
  rw [← hW] at HB0 hbw
  have S1 := Lib.hid HB0.1
  have S2 := Lib.hid HB0.2
  have BW := Lib.hid hbw
  have HW := Lib.hid hW
  have HE := Lib.hid he
  have HG := Lib.hid hg
  have HKW := Lib.hid hkw
  have hmb : mb < w.heap.size := he.hi mb he.mb
  obtain ⟨b0, b1, b2, b3, _, _, _, _, bz⟩ := blk4 S1.out
  have rz := (blk2 S2.out).2.2.2.2
  clear HB0 hbw hW he hg hkw
  go_enter Tryz.func108, Tryz.ntmps108
  go_wp2_with fail
  rw [← HW.out]
  refine (kindOf_flag _ _ _ _ _ _ _ _ _ W).mono ?_
  rintro e w1 ⟨rfl, hb1⟩
  have ty := tk_flag (.agg #[.int .i64 1, .slice p1 n1 m1, .slice p2 n2 m2, .slice p3 n3 m3]) w1
  obtain ⟨w2, hw2⟩ : ∃ w2, w2 = w1.alloc (.cells #[.int .i64 1, .slice p1 n1 m1, .slice p2 n2 m2, .slice p3 n3 m3] 118) := ⟨_, rfl⟩
  have hb2 : Below W.heap.size W w2 := by rw [hw2]; exact hb1.trans ((below_alloc w1 _).mono hb1.size)
  have z2 : w1.heap.size < w2.heap.size := by rw [hw2]; simp
  have K2 : Hid (w2.heap[w1.heap.size]? = some (.cells #[.int .i64 1, .slice p1 n1 m1, .slice p2 n2 m2, .slice p3 n3 m3] 118 (0, 0))) := by rw [hw2]; exact Go.Deep.blk_alloc_new _ _
  have T1 := Lib.hid (blk_below S1.out hb2 bz)
  have T2 := Lib.hid (blk_below S2.out hb2 rz)
  have B2 := Lib.hid (BW.out.trans (hb2.mono BW.out.size))
  have C1 := Lib.hid (blk_below S1.out hb1 bz)
  have HW2 := Lib.hid hw2
  have hsz2 : w.heap.size + 1 < w2.heap.size := Nat.lt_of_lt_of_le rz hb2.size
  have HI : Hid (∀ g, withB X (w.heap.size + 1) g → g < w2.heap.size) := by
    intro g hg
    rcases hg with hg | rfl
    · have := HE.out.hi g hg; have := B2.out.size; omega
    · exact hsz2
  have E2 : Hid (Env (withB X (w.heap.size + 1)) z w2 mb) := ⟨(HE.out.step B2.out).below, fun g hg => by rcases hg with hg | rfl; exact HE.out.lo g hg; have := HE.out.below.size; omega, HI.out, .inl HE.out.mb⟩
  have M2 := Lib.hid (HG.out.move hM.moves (Y := withB X (w.heap.size + 1)) (Stab.of_below B2.out) (fun g hg => by rcases hg with hg | rfl; exact .inl hg; exact .inr (Nat.le_succ _)) (B2.out.block mb hmb))
  clear b0 b1 b2 b3 bz hw2 hb2 hb1
  obtain ⟨a0, a1, a2, a3, _, _, _, _, az⟩ := blk4 C1.out
  obtain ⟨b0, b1, b2, b3, _, _, _, _, bz⟩ := blk4 T1.out
  obtain ⟨k0, k1, k2, k3, _, _, _, _, kz⟩ := blk4 K2.out
  obtain ⟨r0, r1, r2, r3, rz'⟩ := blk2 T2.out
  go_wp2_with fail
  rw [← HW2.out]
  refine (hM.flag (withB X (w.heap.size + 1)) w2 HI.out).mono ?_
  rintro e w3 ⟨f1, c1, f2, c2, rfl, hG3, hb3⟩
  have O3 := Lib.hid ((Only.of_below (F := [mb]) B2.out).trans (Only.of_below hb3))
  have G3 := Lib.hid hG3
  have M3 := Lib.hid (M2.out.below hM.moves hb3)
  obtain ⟨x0, x1, x2, x3, xz⟩ := blk2 (blk_below T2.out hb3 rz')
  clear hG3 hb3 a0 a1 a2 a3 az b0 b1 b2 b3 bz k0 k1 k2 k3 kz r0 r1 r2 r3
  go_wp2_with fail
  refine bodyPost_ret (v := .agg #[fv f1 c1, fv f2 c2]) (by simp [results, Tryz.results108, go_sem, x0, x1]) rfl ?_
  exact made_end G hM hmb O3.out G3.out M3.out

set_option maxRecDepth 100000 in
set_option maxHeartbeats 1000000 in
theorem made_num (G : (Nat → Prop) → World → Sh → Value → Prop) (hM : Makers G) (X : Nat → Prop) (z w : World) (mb : Nat) (p1 p2 p3 : Option Addr) (n1 n2 n3 m1 m2 m3 : Nat) (hkw : KwAt z) (he : Env X z w mb) (hg : MapG G X w mb) :
    Calls Tryz.prog 108 #[.map (some mb), .agg #[.int .i64 2, .slice p1 n1 m1, .slice p2 n2 m2, .slice p3 n3 m3]] w (PkPost G X mb w (.mk 2 [] [] [])) := by
  have HB0 := two_new w (.cells #[.int .i64 2, .slice p1 n1 m1, .slice p2 n2 m2, .slice p3 n3 m3] 26) (.cells #[.nilFunc, .nilFunc] 86)
  have hbw := (below_alloc w (.cells #[.int .i64 2, .slice p1 n1 m1, .slice p2 n2 m2, .slice p3 n3 m3] 26)).alloc (by simp) (.cells #[.nilFunc, .nilFunc] 86)
  obtain ⟨W, hW⟩ : ∃ W, W = (w.alloc (.cells #[.int .i64 2, .slice p1 n1 m1, .slice p2 n2 m2, .slice p3 n3 m3] 26)).alloc (.cells #[.nilFunc, .nilFunc] 86) := ⟨_, rfl⟩
  rw [← hW] at HB0 hbw
  have S1 := Lib.hid HB0.1
  have S2 := Lib.hid HB0.2
  have BW := Lib.hid hbw
  have HW := Lib.hid hW
  have HE := Lib.hid he
  have HG := Lib.hid hg
  have HKW := Lib.hid hkw
  have hmb : mb < w.heap.size := he.hi mb he.mb
  obtain ⟨b0, b1, b2, b3, _, _, _, _, bz⟩ := blk4 S1.out
  have rz := (blk2 S2.out).2.2.2.2
  clear HB0 hbw hW he hg hkw
  go_enter Tryz.func108, Tryz.ntmps108
  go_wp2_with fail
  rw [← HW.out]
  refine (kindOf_num _ _ _ _ _ _ _ _ _ W).mono ?_
  rintro e w1 ⟨rfl, hb1⟩
  have tn_flag := tk_no_flag 120 (by decide) (.agg #[.int .i64 2, .slice p1 n1 m1, .slice p2 n2 m2, .slice p3 n3 m3]) w1
  have ty := tk_num (.agg #[.int .i64 2, .slice p1 n1 m1, .slice p2 n2 m2, .slice p3 n3 m3]) w1
  obtain ⟨w2, hw2⟩ : ∃ w2, w2 = w1.alloc (.cells #[.int .i64 2, .slice p1 n1 m1, .slice p2 n2 m2, .slice p3 n3 m3] 120) := ⟨_, rfl⟩
  have hb2 : Below W.heap.size W w2 := by rw [hw2]; exact hb1.trans ((below_alloc w1 _).mono hb1.size)
  have z2 : w1.heap.size < w2.heap.size := by rw [hw2]; simp
  have K2 : Hid (w2.heap[w1.heap.size]? = some (.cells #[.int .i64 2, .slice p1 n1 m1, .slice p2 n2 m2, .slice p3 n3 m3] 120 (0, 0))) := by rw [hw2]; exact Go.Deep.blk_alloc_new _ _
  have T1 := Lib.hid (blk_below S1.out hb2 bz)
  have T2 := Lib.hid (blk_below S2.out hb2 rz)
  have B2 := Lib.hid (BW.out.trans (hb2.mono BW.out.size))
  have C1 := Lib.hid (blk_below S1.out hb1 bz)
  have HW2 := Lib.hid hw2
  have hsz2 : w.heap.size + 1 < w2.heap.size := Nat.lt_of_lt_of_le rz hb2.size
  have HI : Hid (∀ g, withB X (w.heap.size + 1) g → g < w2.heap.size) := by
    intro g hg
    rcases hg with hg | rfl
    · have := HE.out.hi g hg; have := B2.out.size; omega
    · exact hsz2
  have E2 : Hid (Env (withB X (w.heap.size + 1)) z w2 mb) := ⟨(HE.out.step B2.out).below, fun g hg => by rcases hg with hg | rfl; exact HE.out.lo g hg; have := HE.out.below.size; omega, HI.out, .inl HE.out.mb⟩
  have M2 := Lib.hid (HG.out.move hM.moves (Y := withB X (w.heap.size + 1)) (Stab.of_below B2.out) (fun g hg => by rcases hg with hg | rfl; exact .inl hg; exact .inr (Nat.le_succ _)) (B2.out.block mb hmb))
  clear b0 b1 b2 b3 bz hw2 hb2 hb1
  obtain ⟨a0, a1, a2, a3, _, _, _, _, az⟩ := blk4 C1.out
  obtain ⟨b0, b1, b2, b3, _, _, _, _, bz⟩ := blk4 T1.out
  obtain ⟨k0, k1, k2, k3, _, _, _, _, kz⟩ := blk4 K2.out
  obtain ⟨r0, r1, r2, r3, rz'⟩ := blk2 T2.out
  go_wp2_with fail
  rw [← HW2.out]
  refine (hM.num (withB X (w.heap.size + 1)) w2 HI.out).mono ?_
  rintro e w3 ⟨f1, c1, f2, c2, rfl, hG3, hb3⟩
  have O3 := Lib.hid ((Only.of_below (F := [mb]) B2.out).trans (Only.of_below hb3))
  have G3 := Lib.hid hG3
  have M3 := Lib.hid (M2.out.below hM.moves hb3)
  obtain ⟨x0, x1, x2, x3, xz⟩ := blk2 (blk_below T2.out hb3 rz')
  clear hG3 hb3 a0 a1 a2 a3 az b0 b1 b2 b3 bz k0 k1 k2 k3 kz r0 r1 r2 r3
  go_wp2_with fail
  refine bodyPost_ret (v := .agg #[fv f1 c1, fv f2 c2]) (by simp [results, Tryz.results108, go_sem, x0, x1]) rfl ?_
  exact made_end G hM hmb O3.out G3.out M3.out

set_option maxRecDepth 100000 in
set_option maxHeartbeats 1000000 in
theorem made_text (G : (Nat → Prop) → World → Sh → Value → Prop) (hM : Makers G) (X : Nat → Prop) (z w : World) (mb : Nat) (p1 p2 p3 : Option Addr) (n1 n2 n3 m1 m2 m3 : Nat) (hkw : KwAt z) (he : Env X z w mb) (hg : MapG G X w mb) :
    Calls Tryz.prog 108 #[.map (some mb), .agg #[.int .i64 3, .slice p1 n1 m1, .slice p2 n2 m2, .slice p3 n3 m3]] w (PkPost G X mb w (.mk 3 [] [] [])) := by
  have HB0 := two_new w (.cells #[.int .i64 3, .slice p1 n1 m1, .slice p2 n2 m2, .slice p3 n3 m3] 26) (.cells #[.nilFunc, .nilFunc] 86)
  have hbw := (below_alloc w (.cells #[.int .i64 3, .slice p1 n1 m1, .slice p2 n2 m2, .slice p3 n3 m3] 26)).alloc (by simp) (.cells #[.nilFunc, .nilFunc] 86)
  obtain ⟨W, hW⟩ : ∃ W, W = (w.alloc (.cells #[.int .i64 3, .slice p1 n1 m1, .slice p2 n2 m2, .slice p3 n3 m3] 26)).alloc (.cells #[.nilFunc, .nilFunc] 86) := ⟨_, rfl⟩
  rw [← hW] at HB0 hbw
  have S1 := Lib.hid HB0.1
  have S2 := Lib.hid HB0.2
  have BW := Lib.hid hbw
  have HW := Lib.hid hW
  have HE := Lib.hid he
  have HG := Lib.hid hg
  have HKW := Lib.hid hkw
  have hmb : mb < w.heap.size := he.hi mb he.mb
  obtain ⟨b0, b1, b2, b3, _, _, _, _, bz⟩ := blk4 S1.out
  have rz := (blk2 S2.out).2.2.2.2
  clear HB0 hbw hW he hg hkw
  go_enter Tryz.func108, Tryz.ntmps108
  go_wp2_with fail
  rw [← HW.out]
  refine (kindOf_text _ _ _ _ _ _ _ _ _ W).mono ?_
  rintro e w1 ⟨rfl, hb1⟩
  have tn_flag := tk_no_flag 122 (by decide) (.agg #[.int .i64 3, .slice p1 n1 m1, .slice p2 n2 m2, .slice p3 n3 m3]) w1
  have tn_num := tk_no_num 122 (by decide) (.agg #[.int .i64 3, .slice p1 n1 m1, .slice p2 n2 m2, .slice p3 n3 m3]) w1
  have ty := tk_text (.agg #[.int .i64 3, .slice p1 n1 m1, .slice p2 n2 m2, .slice p3 n3 m3]) w1
  obtain ⟨w2, hw2⟩ : ∃ w2, w2 = w1.alloc (.cells #[.int .i64 3, .slice p1 n1 m1, .slice p2 n2 m2, .slice p3 n3 m3] 122) := ⟨_, rfl⟩
  have hb2 : Below W.heap.size W w2 := by rw [hw2]; exact hb1.trans ((below_alloc w1 _).mono hb1.size)
  have z2 : w1.heap.size < w2.heap.size := by rw [hw2]; simp
  have K2 : Hid (w2.heap[w1.heap.size]? = some (.cells #[.int .i64 3, .slice p1 n1 m1, .slice p2 n2 m2, .slice p3 n3 m3] 122 (0, 0))) := by rw [hw2]; exact Go.Deep.blk_alloc_new _ _
  have T1 := Lib.hid (blk_below S1.out hb2 bz)
  have T2 := Lib.hid (blk_below S2.out hb2 rz)
  have B2 := Lib.hid (BW.out.trans (hb2.mono BW.out.size))
  have C1 := Lib.hid (blk_below S1.out hb1 bz)
  have HW2 := Lib.hid hw2
  have hsz2 : w.heap.size + 1 < w2.heap.size := Nat.lt_of_lt_of_le rz hb2.size
  have HI : Hid (∀ g, withB X (w.heap.size + 1) g → g < w2.heap.size) := by
    intro g hg
    rcases hg with hg | rfl
    · have := HE.out.hi g hg; have := B2.out.size; omega
    · exact hsz2
  have E2 : Hid (Env (withB X (w.heap.size + 1)) z w2 mb) := ⟨(HE.out.step B2.out).below, fun g hg => by rcases hg with hg | rfl; exact HE.out.lo g hg; have := HE.out.below.size; omega, HI.out, .inl HE.out.mb⟩
  have M2 := Lib.hid (HG.out.move hM.moves (Y := withB X (w.heap.size + 1)) (Stab.of_below B2.out) (fun g hg => by rcases hg with hg | rfl; exact .inl hg; exact .inr (Nat.le_succ _)) (B2.out.block mb hmb))
  clear b0 b1 b2 b3 bz hw2 hb2 hb1
  obtain ⟨a0, a1, a2, a3, _, _, _, _, az⟩ := blk4 C1.out
  obtain ⟨b0, b1, b2, b3, _, _, _, _, bz⟩ := blk4 T1.out
  obtain ⟨k0, k1, k2, k3, _, _, _, _, kz⟩ := blk4 K2.out
  obtain ⟨r0, r1, r2, r3, rz'⟩ := blk2 T2.out
  go_wp2_with fail
  rw [← HW2.out]
  refine (hM.text (withB X (w.heap.size + 1)) w2 HI.out).mono ?_
  rintro e w3 ⟨f1, c1, f2, c2, rfl, hG3, hb3⟩
  have O3 := Lib.hid ((Only.of_below (F := [mb]) B2.out).trans (Only.of_below hb3))
  have G3 := Lib.hid hG3
  have M3 := Lib.hid (M2.out.below hM.moves hb3)
  obtain ⟨x0, x1, x2, x3, xz⟩ := blk2 (blk_below T2.out hb3 rz')
  clear hG3 hb3 a0 a1 a2 a3 az b0 b1 b2 b3 bz k0 k1 k2 k3 kz r0 r1 r2 r3
  go_wp2_with fail
  refine bodyPost_ret (v := .agg #[fv f1 c1, fv f2 c2]) (by simp [results, Tryz.results108, go_sem, x0, x1]) rfl ?_
  exact made_end G hM hmb O3.out G3.out M3.out

set_option maxRecDepth 100000 in
set_option maxHeartbeats 1000000 in
theorem made_pick (G : (Nat → Prop) → World → Sh → Value → Prop) (hM : Makers G) (X : Nat → Prop) (z w : World) (mb : Nat) (sy : List ByteArray) (p1 p2 p3 : Option Addr) (n1 n2 n3 m1 m2 m3 : Nat) (hs : IsStrs z (.slice p1 n1 m1) sy) (h0 : 0 < sy.length) (h6 : sy.length ≤ 6) (hw : wordsAll sy = true) (hkw : KwAt z) (he : Env X z w mb) (hg : MapG G X w mb) :
    Calls Tryz.prog 108 #[.map (some mb), .agg #[.int .i64 4, .slice p1 n1 m1, .slice p2 n2 m2, .slice p3 n3 m3]] w (PkPost G X mb w (.mk 4 sy [] [])) := by
  have HS := Lib.hid hs
  have HWd := Lib.hid hw
  clear hs hw
  have HB0 := two_new w (.cells #[.int .i64 4, .slice p1 n1 m1, .slice p2 n2 m2, .slice p3 n3 m3] 26) (.cells #[.nilFunc, .nilFunc] 86)
  have hbw := (below_alloc w (.cells #[.int .i64 4, .slice p1 n1 m1, .slice p2 n2 m2, .slice p3 n3 m3] 26)).alloc (by simp) (.cells #[.nilFunc, .nilFunc] 86)
  obtain ⟨W, hW⟩ : ∃ W, W = (w.alloc (.cells #[.int .i64 4, .slice p1 n1 m1, .slice p2 n2 m2, .slice p3 n3 m3] 26)).alloc (.cells #[.nilFunc, .nilFunc] 86) := ⟨_, rfl⟩
  rw [← hW] at HB0 hbw
  have S1 := Lib.hid HB0.1
  have S2 := Lib.hid HB0.2
  have BW := Lib.hid hbw
  have HW := Lib.hid hW
  have HE := Lib.hid he
  have HG := Lib.hid hg
  have HKW := Lib.hid hkw
  have hmb : mb < w.heap.size := he.hi mb he.mb
  obtain ⟨b0, b1, b2, b3, _, _, _, _, bz⟩ := blk4 S1.out
  have rz := (blk2 S2.out).2.2.2.2
  clear HB0 hbw hW he hg hkw
  go_enter Tryz.func108, Tryz.ntmps108
  go_wp2_with fail
  rw [← HW.out]
  refine (kindOf_pick _ _ _ _ _ _ _ _ _ W).mono ?_
  rintro e w1 ⟨rfl, hb1⟩
  have tn_flag := tk_no_flag 123 (by decide) (.agg #[.int .i64 4, .slice p1 n1 m1, .slice p2 n2 m2, .slice p3 n3 m3]) w1
  have tn_num := tk_no_num 123 (by decide) (.agg #[.int .i64 4, .slice p1 n1 m1, .slice p2 n2 m2, .slice p3 n3 m3]) w1
  have tn_text := tk_no_text 123 (by decide) (.agg #[.int .i64 4, .slice p1 n1 m1, .slice p2 n2 m2, .slice p3 n3 m3]) w1
  have ty := tk_pick (.agg #[.int .i64 4, .slice p1 n1 m1, .slice p2 n2 m2, .slice p3 n3 m3]) w1
  obtain ⟨w2, hw2⟩ : ∃ w2, w2 = w1.alloc (.cells #[.int .i64 4, .slice p1 n1 m1, .slice p2 n2 m2, .slice p3 n3 m3] 123) := ⟨_, rfl⟩
  have hb2 : Below W.heap.size W w2 := by rw [hw2]; exact hb1.trans ((below_alloc w1 _).mono hb1.size)
  have z2 : w1.heap.size < w2.heap.size := by rw [hw2]; simp
  have K2 : Hid (w2.heap[w1.heap.size]? = some (.cells #[.int .i64 4, .slice p1 n1 m1, .slice p2 n2 m2, .slice p3 n3 m3] 123 (0, 0))) := by rw [hw2]; exact Go.Deep.blk_alloc_new _ _
  have T1 := Lib.hid (blk_below S1.out hb2 bz)
  have T2 := Lib.hid (blk_below S2.out hb2 rz)
  have B2 := Lib.hid (BW.out.trans (hb2.mono BW.out.size))
  have C1 := Lib.hid (blk_below S1.out hb1 bz)
  have HW2 := Lib.hid hw2
  have hsz2 : w.heap.size + 1 < w2.heap.size := Nat.lt_of_lt_of_le rz hb2.size
  have HI : Hid (∀ g, withB X (w.heap.size + 1) g → g < w2.heap.size) := by
    intro g hg
    rcases hg with hg | rfl
    · have := HE.out.hi g hg; have := B2.out.size; omega
    · exact hsz2
  have E2 : Hid (Env (withB X (w.heap.size + 1)) z w2 mb) := ⟨(HE.out.step B2.out).below, fun g hg => by rcases hg with hg | rfl; exact HE.out.lo g hg; have := HE.out.below.size; omega, HI.out, .inl HE.out.mb⟩
  have M2 := Lib.hid (HG.out.move hM.moves (Y := withB X (w.heap.size + 1)) (Stab.of_below B2.out) (fun g hg => by rcases hg with hg | rfl; exact .inl hg; exact .inr (Nat.le_succ _)) (B2.out.block mb hmb))
  clear b0 b1 b2 b3 bz hw2 hb2 hb1
  obtain ⟨a0, a1, a2, a3, _, _, _, _, az⟩ := blk4 C1.out
  obtain ⟨b0, b1, b2, b3, _, _, _, _, bz⟩ := blk4 T1.out
  obtain ⟨k0, k1, k2, k3, _, _, _, _, kz⟩ := blk4 K2.out
  obtain ⟨r0, r1, r2, r3, rz'⟩ := blk2 T2.out
  go_wp2_with fail
  rw [← HW2.out]
  refine (hM.pick (withB X (w.heap.size + 1)) z w2 sy _ _ _ E2.out.below E2.out.lo HI.out HS.out h0 h6 HWd.out).mono ?_
  rintro e w3 ⟨f1, c1, f2, c2, rfl, hG3, hb3⟩
  have O3 := Lib.hid ((Only.of_below (F := [mb]) B2.out).trans (Only.of_below hb3))
  have G3 := Lib.hid hG3
  have M3 := Lib.hid (M2.out.below hM.moves hb3)
  obtain ⟨x0, x1, x2, x3, xz⟩ := blk2 (blk_below T2.out hb3 rz')
  clear hG3 hb3 a0 a1 a2 a3 az b0 b1 b2 b3 bz k0 k1 k2 k3 kz r0 r1 r2 r3
  go_wp2_with fail
  refine bodyPost_ret (v := .agg #[fv f1 c1, fv f2 c2]) (by simp [results, Tryz.results108, go_sem, x0, x1]) rfl ?_
  exact made_end G hM hmb O3.out G3.out M3.out

set_option maxRecDepth 100000 in
set_option maxHeartbeats 2000000 in
theorem made_maybe (G : (Nat → Prop) → World → Sh → Value → Prop) (hM : Makers G) (d : Nat) (ih : OfAt G d) (X : Nat → Prop) (z w : World) (mb : Nat) (y : Sh) (p1 p2 p3 : Option Addr) (n1 n2 n3 m1 m2 m3 : Nat) (hp : partOk d y = true) (hs : IsShs z (.slice p3 n3 m3) [y]) (hkw : KwAt z) (he : Env X z w mb) (hg : MapG G X w mb) :
    Calls Tryz.prog 108 #[.map (some mb), .agg #[.int .i64 5, .slice p1 n1 m1, .slice p2 n2 m2, .slice p3 n3 m3]] w (PkPost G X mb w (.mk 5 [] [] [y])) := by
  obtain ⟨rfl, hm1, hm2, b, off, q1, i1, j1, q2, i2, j2, q3, i3, j3, rfl, g0, g1, g2, g3, g4⟩ := hs.one
  have IH := Lib.hid ih
  have HP := Lib.hid hp
  have HC := Lib.hid (And.intro g0 (And.intro g1 (And.intro g2 g3)))
  have HX := Lib.hid g4
  clear ih hp g0 g1 g2 g3 g4 hs
  have HB0 := two_new w (.cells #[.int .i64 5, .slice p1 n1 m1, .slice p2 n2 m2, .slice (some ⟨b, off, none⟩) 1 m3] 26) (.cells #[.nilFunc, .nilFunc] 86)
  have hbw := (below_alloc w (.cells #[.int .i64 5, .slice p1 n1 m1, .slice p2 n2 m2, .slice (some ⟨b, off, none⟩) 1 m3] 26)).alloc (by simp) (.cells #[.nilFunc, .nilFunc] 86)
  obtain ⟨W, hW⟩ : ∃ W, W = (w.alloc (.cells #[.int .i64 5, .slice p1 n1 m1, .slice p2 n2 m2, .slice (some ⟨b, off, none⟩) 1 m3] 26)).alloc (.cells #[.nilFunc, .nilFunc] 86) := ⟨_, rfl⟩
  rw [← hW] at HB0 hbw
  have S1 := Lib.hid HB0.1
  have S2 := Lib.hid HB0.2
  have BW := Lib.hid hbw
  have HW := Lib.hid hW
  have HE := Lib.hid he
  have HG := Lib.hid hg
  have HKW := Lib.hid hkw
  have hmb : mb < w.heap.size := he.hi mb he.mb
  obtain ⟨b0, b1, b2, b3, _, _, _, _, bz⟩ := blk4 S1.out
  have rz := (blk2 S2.out).2.2.2.2
  clear HB0 hbw hW he hg hkw
  go_enter Tryz.func108, Tryz.ntmps108
  go_wp2_with fail
  rw [← HW.out]
  refine (kindOf_maybe _ _ _ _ _ _ _ _ _ W).mono ?_
  rintro e w1 ⟨rfl, hb1⟩
  have tn_flag := tk_no_flag 124 (by decide) (.agg #[.int .i64 5, .slice p1 n1 m1, .slice p2 n2 m2, .slice (some ⟨b, off, none⟩) 1 m3]) w1
  have tn_num := tk_no_num 124 (by decide) (.agg #[.int .i64 5, .slice p1 n1 m1, .slice p2 n2 m2, .slice (some ⟨b, off, none⟩) 1 m3]) w1
  have tn_text := tk_no_text 124 (by decide) (.agg #[.int .i64 5, .slice p1 n1 m1, .slice p2 n2 m2, .slice (some ⟨b, off, none⟩) 1 m3]) w1
  have tn_pick := tk_no_pick 124 (by decide) (.agg #[.int .i64 5, .slice p1 n1 m1, .slice p2 n2 m2, .slice (some ⟨b, off, none⟩) 1 m3]) w1
  have ty := tk_maybe (.agg #[.int .i64 5, .slice p1 n1 m1, .slice p2 n2 m2, .slice (some ⟨b, off, none⟩) 1 m3]) w1
  obtain ⟨w2, hw2⟩ : ∃ w2, w2 = w1.alloc (.cells #[.int .i64 5, .slice p1 n1 m1, .slice p2 n2 m2, .slice (some ⟨b, off, none⟩) 1 m3] 124) := ⟨_, rfl⟩
  have hb2 : Below W.heap.size W w2 := by rw [hw2]; exact hb1.trans ((below_alloc w1 _).mono hb1.size)
  have z2 : w1.heap.size < w2.heap.size := by rw [hw2]; simp
  have K2 : Hid (w2.heap[w1.heap.size]? = some (.cells #[.int .i64 5, .slice p1 n1 m1, .slice p2 n2 m2, .slice (some ⟨b, off, none⟩) 1 m3] 124 (0, 0))) := by rw [hw2]; exact Go.Deep.blk_alloc_new _ _
  have T1 := Lib.hid (blk_below S1.out hb2 bz)
  have T2 := Lib.hid (blk_below S2.out hb2 rz)
  have B2 := Lib.hid (BW.out.trans (hb2.mono BW.out.size))
  have C1 := Lib.hid (blk_below S1.out hb1 bz)
  have HW2 := Lib.hid hw2
  have hsz2 : w.heap.size + 1 < w2.heap.size := Nat.lt_of_lt_of_le rz hb2.size
  have HI : Hid (∀ g, withB X (w.heap.size + 1) g → g < w2.heap.size) := by
    intro g hg
    rcases hg with hg | rfl
    · have := HE.out.hi g hg; have := B2.out.size; omega
    · exact hsz2
  have E2 : Hid (Env (withB X (w.heap.size + 1)) z w2 mb) := ⟨(HE.out.step B2.out).below, fun g hg => by rcases hg with hg | rfl; exact HE.out.lo g hg; have := HE.out.below.size; omega, HI.out, .inl HE.out.mb⟩
  have M2 := Lib.hid (HG.out.move hM.moves (Y := withB X (w.heap.size + 1)) (Stab.of_below B2.out) (fun g hg => by rcases hg with hg | rfl; exact .inl hg; exact .inr (Nat.le_succ _)) (B2.out.block mb hmb))
  clear b0 b1 b2 b3 bz hw2 hb2 hb1
  obtain ⟨a0, a1, a2, a3, _, _, _, _, az⟩ := blk4 C1.out
  obtain ⟨b0, b1, b2, b3, _, _, _, _, bz⟩ := blk4 T1.out
  obtain ⟨k0, k1, k2, k3, _, _, _, _, kz⟩ := blk4 K2.out
  obtain ⟨r0, r1, r2, r3, rz'⟩ := blk2 T2.out
  have HKp := Lib.hid (Keeps.of_below E2.out.below)
  have d0 := HKp.out _ _ _ HC.out.1
  have d1 := HKp.out _ _ _ HC.out.2.1
  have d2 := HKp.out _ _ _ HC.out.2.2.1
  have d3 := HKp.out _ _ _ HC.out.2.2.2
  go_wp2_with fail
  rw [← HW2.out]
  go_region_with (first
    | (go_at_call 65; refine (IH.out (withB X (w.heap.size + 1)) z w2.drew mb y _ HP.out HX.out HKW.out (E2.out.step (Below.refl _ _).drew) (M2.out.below hM.moves (Below.refl _ _).drew)).mono ?_; rintro e w3 ⟨f1, c1, f2, c2, rfl, hG3, hM3, ho3⟩; have O3 := Lib.hid ((Only.of_below (F := [mb]) B2.out.drew).trans ho3); have G3 := Lib.hid hG3; have M3 := Lib.hid hM3; have I3 := Lib.hid (fun g hg => Nat.lt_of_lt_of_le (HI.out g hg) ho3.size); have T3 := Lib.hid ((ho3.block _ rz' (by simp; omega)).trans T2.out); have U3 := Lib.hid ((ho3.block _ bz (by simp; omega)).trans T1.out); obtain ⟨y0, _, _, _, _, _, _, _, _⟩ := blk4 U3.out; clear hG3 hM3 ho3)
    | (go_at_call 136; refine (hM.count (withB X (w.heap.size + 1)) _ 5 1 y _ (by decide) I3.out G3.out).mono ?_; rintro e w4 ⟨f3, c3, f4, c4, rfl, hG4, hb4⟩; have O4 := Lib.hid (O3.out.trans (Only.of_below hb4)); have G4 := Lib.hid hG4; have M4 := Lib.hid (M3.out.below hM.moves hb4); obtain ⟨x0, x1, x2, x3, xz⟩ := blk2 (blk_below T3.out hb4 (blk2 T3.out).2.2.2.2); clear hG4 hb4))
  all_goals
    go_wp2_with fail
    refine bodyPost_ret (v := .agg #[fv f3 c3, fv f4 c4]) (by simp [results, Tryz.results108, go_sem, x0, x1]) rfl ?_
    exact made_end G hM hmb O4.out G4.out M4.out

set_option maxRecDepth 100000 in
set_option maxHeartbeats 2000000 in
theorem made_list (G : (Nat → Prop) → World → Sh → Value → Prop) (hM : Makers G) (d : Nat) (ih : OfAt G d) (X : Nat → Prop) (z w : World) (mb : Nat) (y : Sh) (p1 p2 p3 : Option Addr) (n1 n2 n3 m1 m2 m3 : Nat) (hp : partOk d y = true) (hs : IsShs z (.slice p3 n3 m3) [y]) (hkw : KwAt z) (he : Env X z w mb) (hg : MapG G X w mb) :
    Calls Tryz.prog 108 #[.map (some mb), .agg #[.int .i64 6, .slice p1 n1 m1, .slice p2 n2 m2, .slice p3 n3 m3]] w (PkPost G X mb w (.mk 6 [] [] [y])) := by
  obtain ⟨rfl, hm1, hm2, b, off, q1, i1, j1, q2, i2, j2, q3, i3, j3, rfl, g0, g1, g2, g3, g4⟩ := hs.one
  have IH := Lib.hid ih
  have HP := Lib.hid hp
  have HC := Lib.hid (And.intro g0 (And.intro g1 (And.intro g2 g3)))
  have HX := Lib.hid g4
  clear ih hp g0 g1 g2 g3 g4 hs
  have HB0 := two_new w (.cells #[.int .i64 6, .slice p1 n1 m1, .slice p2 n2 m2, .slice (some ⟨b, off, none⟩) 1 m3] 26) (.cells #[.nilFunc, .nilFunc] 86)
  have hbw := (below_alloc w (.cells #[.int .i64 6, .slice p1 n1 m1, .slice p2 n2 m2, .slice (some ⟨b, off, none⟩) 1 m3] 26)).alloc (by simp) (.cells #[.nilFunc, .nilFunc] 86)
  obtain ⟨W, hW⟩ : ∃ W, W = (w.alloc (.cells #[.int .i64 6, .slice p1 n1 m1, .slice p2 n2 m2, .slice (some ⟨b, off, none⟩) 1 m3] 26)).alloc (.cells #[.nilFunc, .nilFunc] 86) := ⟨_, rfl⟩
  rw [← hW] at HB0 hbw
  have S1 := Lib.hid HB0.1
  have S2 := Lib.hid HB0.2
  have BW := Lib.hid hbw
  have HW := Lib.hid hW
  have HE := Lib.hid he
  have HG := Lib.hid hg
  have HKW := Lib.hid hkw
  have hmb : mb < w.heap.size := he.hi mb he.mb
  obtain ⟨b0, b1, b2, b3, _, _, _, _, bz⟩ := blk4 S1.out
  have rz := (blk2 S2.out).2.2.2.2
  clear HB0 hbw hW he hg hkw
  go_enter Tryz.func108, Tryz.ntmps108
  go_wp2_with fail
  rw [← HW.out]
  refine (kindOf_list _ _ _ _ _ _ _ _ _ W).mono ?_
  rintro e w1 ⟨rfl, hb1⟩
  have tn_flag := tk_no_flag 126 (by decide) (.agg #[.int .i64 6, .slice p1 n1 m1, .slice p2 n2 m2, .slice (some ⟨b, off, none⟩) 1 m3]) w1
  have tn_num := tk_no_num 126 (by decide) (.agg #[.int .i64 6, .slice p1 n1 m1, .slice p2 n2 m2, .slice (some ⟨b, off, none⟩) 1 m3]) w1
  have tn_text := tk_no_text 126 (by decide) (.agg #[.int .i64 6, .slice p1 n1 m1, .slice p2 n2 m2, .slice (some ⟨b, off, none⟩) 1 m3]) w1
  have tn_pick := tk_no_pick 126 (by decide) (.agg #[.int .i64 6, .slice p1 n1 m1, .slice p2 n2 m2, .slice (some ⟨b, off, none⟩) 1 m3]) w1
  have tn_maybe := tk_no_maybe 126 (by decide) (.agg #[.int .i64 6, .slice p1 n1 m1, .slice p2 n2 m2, .slice (some ⟨b, off, none⟩) 1 m3]) w1
  have ty := tk_list (.agg #[.int .i64 6, .slice p1 n1 m1, .slice p2 n2 m2, .slice (some ⟨b, off, none⟩) 1 m3]) w1
  obtain ⟨w2, hw2⟩ : ∃ w2, w2 = w1.alloc (.cells #[.int .i64 6, .slice p1 n1 m1, .slice p2 n2 m2, .slice (some ⟨b, off, none⟩) 1 m3] 126) := ⟨_, rfl⟩
  have hb2 : Below W.heap.size W w2 := by rw [hw2]; exact hb1.trans ((below_alloc w1 _).mono hb1.size)
  have z2 : w1.heap.size < w2.heap.size := by rw [hw2]; simp
  have K2 : Hid (w2.heap[w1.heap.size]? = some (.cells #[.int .i64 6, .slice p1 n1 m1, .slice p2 n2 m2, .slice (some ⟨b, off, none⟩) 1 m3] 126 (0, 0))) := by rw [hw2]; exact Go.Deep.blk_alloc_new _ _
  have T1 := Lib.hid (blk_below S1.out hb2 bz)
  have T2 := Lib.hid (blk_below S2.out hb2 rz)
  have B2 := Lib.hid (BW.out.trans (hb2.mono BW.out.size))
  have C1 := Lib.hid (blk_below S1.out hb1 bz)
  have HW2 := Lib.hid hw2
  have hsz2 : w.heap.size + 1 < w2.heap.size := Nat.lt_of_lt_of_le rz hb2.size
  have HI : Hid (∀ g, withB X (w.heap.size + 1) g → g < w2.heap.size) := by
    intro g hg
    rcases hg with hg | rfl
    · have := HE.out.hi g hg; have := B2.out.size; omega
    · exact hsz2
  have E2 : Hid (Env (withB X (w.heap.size + 1)) z w2 mb) := ⟨(HE.out.step B2.out).below, fun g hg => by rcases hg with hg | rfl; exact HE.out.lo g hg; have := HE.out.below.size; omega, HI.out, .inl HE.out.mb⟩
  have M2 := Lib.hid (HG.out.move hM.moves (Y := withB X (w.heap.size + 1)) (Stab.of_below B2.out) (fun g hg => by rcases hg with hg | rfl; exact .inl hg; exact .inr (Nat.le_succ _)) (B2.out.block mb hmb))
  clear b0 b1 b2 b3 bz hw2 hb2 hb1
  obtain ⟨a0, a1, a2, a3, _, _, _, _, az⟩ := blk4 C1.out
  obtain ⟨b0, b1, b2, b3, _, _, _, _, bz⟩ := blk4 T1.out
  obtain ⟨k0, k1, k2, k3, _, _, _, _, kz⟩ := blk4 K2.out
  obtain ⟨r0, r1, r2, r3, rz'⟩ := blk2 T2.out
  have HKp := Lib.hid (Keeps.of_below E2.out.below)
  have d0 := HKp.out _ _ _ HC.out.1
  have d1 := HKp.out _ _ _ HC.out.2.1
  have d2 := HKp.out _ _ _ HC.out.2.2.1
  have d3 := HKp.out _ _ _ HC.out.2.2.2
  go_wp2_with fail
  rw [← HW2.out]
  go_region_with (first
    | (go_at_call 65; refine (IH.out (withB X (w.heap.size + 1)) z w2.drew mb y _ HP.out HX.out HKW.out (E2.out.step (Below.refl _ _).drew) (M2.out.below hM.moves (Below.refl _ _).drew)).mono ?_; rintro e w3 ⟨f1, c1, f2, c2, rfl, hG3, hM3, ho3⟩; have O3 := Lib.hid ((Only.of_below (F := [mb]) B2.out.drew).trans ho3); have G3 := Lib.hid hG3; have M3 := Lib.hid hM3; have I3 := Lib.hid (fun g hg => Nat.lt_of_lt_of_le (HI.out g hg) ho3.size); have T3 := Lib.hid ((ho3.block _ rz' (by simp; omega)).trans T2.out); have U3 := Lib.hid ((ho3.block _ bz (by simp; omega)).trans T1.out); obtain ⟨y0, _, _, _, _, _, _, _, _⟩ := blk4 U3.out; clear hG3 hM3 ho3)
    | (go_at_call 136; refine (hM.count (withB X (w.heap.size + 1)) _ 6 6 y _ (by decide) I3.out G3.out).mono ?_; rintro e w4 ⟨f3, c3, f4, c4, rfl, hG4, hb4⟩; have O4 := Lib.hid (O3.out.trans (Only.of_below hb4)); have G4 := Lib.hid hG4; have M4 := Lib.hid (M3.out.below hM.moves hb4); obtain ⟨x0, x1, x2, x3, xz⟩ := blk2 (blk_below T3.out hb4 (blk2 T3.out).2.2.2.2); clear hG4 hb4))
  all_goals
    go_wp2_with fail
    refine bodyPost_ret (v := .agg #[fv f3 c3, fv f4 c4]) (by simp [results, Tryz.results108, go_sem, x0, x1]) rfl ?_
    exact made_end G hM hmb O4.out G4.out M4.out

set_option maxRecDepth 100000 in
set_option maxHeartbeats 1000000 in
theorem made_rec (G : (Nat → Prop) → World → Sh → Value → Prop) (hM : Makers G) (d : Nat) (ih : OfAt G d) (X : Nat → Prop) (z w : World) (mb : Nat) (na : List ByteArray) (su : List Sh) (p1 p2 p3 : Option Addr) (n1 n2 m1 m2 m3 : Nat) (hp : su.all (partOk d) = true) (h6 : su.length ≤ 6) (hs : IsShs z (.slice p3 su.length m3) su) (hkw : KwAt z) (he : Env X z w mb) (hg : MapG G X w mb) :
    Calls Tryz.prog 108 #[.map (some mb), .agg #[.int .i64 7, .slice p1 n1 m1, .slice p2 n2 m2, .slice p3 su.length m3]] w (PkPost G X mb w (.mk 7 [] na su)) := by
  have IH := Lib.hid ih
  have HP := Lib.hid hp
  have HS := Lib.hid hs
  clear ih hp hs
  have HB0 := two_new w (.cells #[.int .i64 7, .slice p1 n1 m1, .slice p2 n2 m2, .slice p3 su.length m3] 26) (.cells #[.nilFunc, .nilFunc] 86)
  have hbw := (below_alloc w (.cells #[.int .i64 7, .slice p1 n1 m1, .slice p2 n2 m2, .slice p3 su.length m3] 26)).alloc (by simp) (.cells #[.nilFunc, .nilFunc] 86)
  obtain ⟨W, hW⟩ : ∃ W, W = (w.alloc (.cells #[.int .i64 7, .slice p1 n1 m1, .slice p2 n2 m2, .slice p3 su.length m3] 26)).alloc (.cells #[.nilFunc, .nilFunc] 86) := ⟨_, rfl⟩
  rw [← hW] at HB0 hbw
  have S1 := Lib.hid HB0.1
  have S2 := Lib.hid HB0.2
  have BW := Lib.hid hbw
  have HW := Lib.hid hW
  have HE := Lib.hid he
  have HG := Lib.hid hg
  have HKW := Lib.hid hkw
  have hmb : mb < w.heap.size := he.hi mb he.mb
  obtain ⟨b0, b1, b2, b3, _, _, _, _, bz⟩ := blk4 S1.out
  have rz := (blk2 S2.out).2.2.2.2
  clear HB0 hbw hW he hg hkw
  go_enter Tryz.func108, Tryz.ntmps108
  go_wp2_with fail
  rw [← HW.out]
  refine (kindOf_rec _ _ _ _ _ _ _ _ _ W).mono ?_
  rintro e w1 ⟨rfl, hb1⟩
  have tn_flag := tk_no_flag 128 (by decide) (.agg #[.int .i64 7, .slice p1 n1 m1, .slice p2 n2 m2, .slice p3 su.length m3]) w1
  have tn_num := tk_no_num 128 (by decide) (.agg #[.int .i64 7, .slice p1 n1 m1, .slice p2 n2 m2, .slice p3 su.length m3]) w1
  have tn_text := tk_no_text 128 (by decide) (.agg #[.int .i64 7, .slice p1 n1 m1, .slice p2 n2 m2, .slice p3 su.length m3]) w1
  have tn_pick := tk_no_pick 128 (by decide) (.agg #[.int .i64 7, .slice p1 n1 m1, .slice p2 n2 m2, .slice p3 su.length m3]) w1
  have tn_maybe := tk_no_maybe 128 (by decide) (.agg #[.int .i64 7, .slice p1 n1 m1, .slice p2 n2 m2, .slice p3 su.length m3]) w1
  have tn_list := tk_no_list 128 (by decide) (.agg #[.int .i64 7, .slice p1 n1 m1, .slice p2 n2 m2, .slice p3 su.length m3]) w1
  have ty := tk_rec (.agg #[.int .i64 7, .slice p1 n1 m1, .slice p2 n2 m2, .slice p3 su.length m3]) w1
  obtain ⟨w2, hw2⟩ : ∃ w2, w2 = w1.alloc (.cells #[.int .i64 7, .slice p1 n1 m1, .slice p2 n2 m2, .slice p3 su.length m3] 128) := ⟨_, rfl⟩
  have hb2 : Below W.heap.size W w2 := by rw [hw2]; exact hb1.trans ((below_alloc w1 _).mono hb1.size)
  have z2 : w1.heap.size < w2.heap.size := by rw [hw2]; simp
  have K2 : Hid (w2.heap[w1.heap.size]? = some (.cells #[.int .i64 7, .slice p1 n1 m1, .slice p2 n2 m2, .slice p3 su.length m3] 128 (0, 0))) := by rw [hw2]; exact Go.Deep.blk_alloc_new _ _
  have T1 := Lib.hid (blk_below S1.out hb2 bz)
  have T2 := Lib.hid (blk_below S2.out hb2 rz)
  have B2 := Lib.hid (BW.out.trans (hb2.mono BW.out.size))
  have C1 := Lib.hid (blk_below S1.out hb1 bz)
  have HW2 := Lib.hid hw2
  have hsz2 : w.heap.size + 1 < w2.heap.size := Nat.lt_of_lt_of_le rz hb2.size
  have HI : Hid (∀ g, withB X (w.heap.size + 1) g → g < w2.heap.size) := by
    intro g hg
    rcases hg with hg | rfl
    · have := HE.out.hi g hg; have := B2.out.size; omega
    · exact hsz2
  have E2 : Hid (Env (withB X (w.heap.size + 1)) z w2 mb) := ⟨(HE.out.step B2.out).below, fun g hg => by rcases hg with hg | rfl; exact HE.out.lo g hg; have := HE.out.below.size; omega, HI.out, .inl HE.out.mb⟩
  have M2 := Lib.hid (HG.out.move hM.moves (Y := withB X (w.heap.size + 1)) (Stab.of_below B2.out) (fun g hg => by rcases hg with hg | rfl; exact .inl hg; exact .inr (Nat.le_succ _)) (B2.out.block mb hmb))
  clear b0 b1 b2 b3 bz hw2 hb2 hb1
  obtain ⟨a0, a1, a2, a3, _, _, _, _, az⟩ := blk4 C1.out
  obtain ⟨b0, b1, b2, b3, _, _, _, _, bz⟩ := blk4 T1.out
  obtain ⟨k0, k1, k2, k3, _, _, _, _, kz⟩ := blk4 K2.out
  obtain ⟨r0, r1, r2, r3, rz'⟩ := blk2 T2.out
  go_wp2_with fail
  rw [← HW2.out]
  refine (all_any G hM d IH.out (withB X (w.heap.size + 1)) z w2 mb su p3 m3 HP.out h6 HS.out HKW.out E2.out M2.out).mono ?_
  rintro e w3 ⟨q, c, xs, rfl, hown, hpk, hm3, ho3⟩
  have O3 := Lib.hid ((Only.of_below (F := [mb]) B2.out).trans ho3)
  have M3 := Lib.hid hm3
  have R3 := Lib.hid hown
  have P3 := Lib.hid hpk
  have I3 := Lib.hid (fun g hg => Nat.lt_of_lt_of_le (HI.out g hg) ho3.size)
  have N3 : Hid (∀ g ∈ blkOf (.slice q su.length c), ¬ withB X (w.heap.size + 1) g) := fun g hg hx => by have h1 := (blkOf_own hown g hg).1; have h2 := HI.out g hx; omega
  have T3 := Lib.hid ((ho3.block _ rz' (by simp; omega)).trans T2.out)
  clear hown hpk hm3 ho3 a0 a1 a2 a3 az b0 b1 b2 b3 bz k0 k1 k2 k3 kz r0 r1 r2 r3
  go_wp2_with fail
  refine (hM.row (withB X (w.heap.size + 1)) w3 w2.heap.size na su _ xs h6 I3.out R3.out N3.out P3.out).mono ?_
  rintro e w4 ⟨f1, c1, f2, c2, rfl, hG4, hb4⟩
  have O4 := Lib.hid (O3.out.trans (Only.of_below hb4))
  have G4 := Lib.hid hG4
  have M4 := Lib.hid (M3.out.below hM.moves hb4)
  obtain ⟨x0, x1, x2, x3, xz⟩ := blk2 (blk_below T3.out hb4 (blk2 T3.out).2.2.2.2)
  clear hG4 hb4
  go_wp2_with fail
  refine bodyPost_ret (v := .agg #[fv f1 c1, fv f2 c2]) (by simp [results, Tryz.results108, go_sem, x0, x1]) rfl ?_
  exact made_end G hM hmb O4.out G4.out M4.out

/-- (impl.packers).of, at any right shape. -/
theorem of_all (G : (Nat → Prop) → World → Sh → Value → Prop) (hM : Makers G) (d : Nat) (hd : d ≤ 5) : OfAt G d := by
  induction d with
  | zero => intro X z w mb s u h; simp [partOk] at h
  | succ d ih =>
    have ih' := ih (by omega)
    refine of_any G hM (d + 1) hd fun X z w mb s u hp hs hkw he hg => ?_
    cases s with | mk k sy na su =>
    obtain ⟨p1, m1, p2, m2, p3, m3, rfl, _, h1, h2, h3⟩ := hs.open
    simp only [partOk, Bool.and_eq_true] at hp
    rcases sound_cases hp.1 with ⟨hk, rfl, rfl, hn⟩ | ⟨rfl, h0, h6, hw, rfl, hn⟩ | ⟨hk, rfl, rfl, hn⟩ | ⟨rfl, rfl, h6, hw, hn⟩
    · obtain rfl := List.eq_nil_of_length_eq_zero hn
      rcases hk with rfl | rfl | rfl
      · exact made_flag G hM X z w mb _ _ _ _ _ _ _ _ _ hkw he hg
      · exact made_num G hM X z w mb _ _ _ _ _ _ _ _ _ hkw he hg
      · exact made_text G hM X z w mb _ _ _ _ _ _ _ _ _ hkw he hg
    · obtain rfl := List.eq_nil_of_length_eq_zero hn
      exact made_pick G hM X z w mb sy _ _ _ _ _ _ _ _ _ h1 h0 h6 hw hkw he hg
    · obtain ⟨x, rfl⟩ := List.length_eq_one_iff.1 hn
      have hx : partOk d x = true := by simpa using hp.2
      rcases hk with rfl | rfl
      · exact made_maybe G hM d ih' X z w mb x _ _ _ _ _ _ _ _ _ hx h3 hkw he hg
      · exact made_list G hM d ih' X z w mb x _ _ _ _ _ _ _ _ _ hx h3 hkw he hg
    · exact made_rec G hM d ih' X z w mb na su _ _ _ _ _ _ _ _ hp.2 (by omega) h3 hkw he hg
end Go.Proofs.YtbpidhlpakobiaaGreatDoor
