/- Walks: laws.eqShapeOut, markShapeOut, heldShapeOut; its variable. -/
import Derived.Test.YthllilkokkijaaaGSoP
namespace Go.Proofs.Ythllilkokkijaaa
open Go.RowKit

set_option maxRecDepth 100000 in
set_option maxHeartbeats 1000000 in
theorem eqSos_same (x : Sh) (c : Int) {p1 p2 p3 : Option Addr} {n1 m1 n2 m2 n3 m3 : Nat} {q1 q2 q3 : Option Addr} {i1 j1 i2 j2 i3 j3 : Nat} {w : World} (h : IsSh w x (.agg #[.int .i64 x.kd, .slice p1 n1 m1, .slice p2 n2 m2, .slice p3 n3 m3])) (g : IsSh w x (.agg #[.int .i64 x.kd, .slice q1 i1 j1, .slice q2 i2 j2, .slice q3 i3 j3])) :
    Calls Try.prog 21 #[.agg #[.int .i64 x.kd, .slice p1 n1 m1, .slice p2 n2 m2, .slice p3 n3 m3, .int .i64 c], .agg #[.int .i64 x.kd, .slice q1 i1 j1, .slice q2 i2 j2, .slice q3 i3 j3, .int .i64 c]] w fun e w' => e = .returned (.bool true) ∧ Below w.heap.size w w' := by
  obtain ⟨W, hW⟩ : ∃ W, W = ((w.alloc (.cells #[.int .i64 x.kd, .slice p1 n1 m1, .slice p2 n2 m2, .slice p3 n3 m3, .int .i64 c] 42)).alloc (.cells #[.int .i64 x.kd, .slice q1 i1 j1, .slice q2 i2 j2, .slice q3 i3 j3, .int .i64 c] 42)) := ⟨_, rfl⟩
  have hX := two_new w (.cells #[.int .i64 x.kd, .slice p1 n1 m1, .slice p2 n2 m2, .slice p3 n3 m3, .int .i64 c] 42) (.cells #[.int .i64 x.kd, .slice q1 i1 j1, .slice q2 i2 j2, .slice q3 i3 j3, .int .i64 c] 42)
  have hbw := (below_alloc w (.cells #[.int .i64 x.kd, .slice p1 n1 m1, .slice p2 n2 m2, .slice p3 n3 m3, .int .i64 c] 42)).alloc (by simp) (.cells #[.int .i64 x.kd, .slice q1 i1 j1, .slice q2 i2 j2, .slice q3 i3 j3, .int .i64 c] 42)
  rw [← hW] at hX hbw
  have S1 := Lib.hid hX.1
  have S2 := Lib.hid hX.2
  have BW := Lib.hid hbw
  have HW := Lib.hid hW
  have H := Lib.hid (IsSh.keep (Keeps.of_below hbw) _ _ h)
  have G := Lib.hid (IsSh.keep (Keeps.of_below hbw) _ _ g)
  clear hX hbw hW h g
  obtain ⟨a0, a1, a2, a3, a4, _, _, _, _, _, az⟩ := blk5s S1.out
  obtain ⟨b0, b1, b2, b3, b4, _, _, _, _, _, bz⟩ := blk5s S2.out
  go_enter Try.func21, Try.ntmps21
  go_wp2_with fail
  rw [← HW.out]
  refine (eqSh_same x _ _ W H.out G.out).mono ?_
  rintro e w1 ⟨rfl, hb1⟩
  have B1 := Lib.hid (BW.out.trans (hb1.mono BW.out.size))
  have C1 := Lib.hid (blk_below S1.out hb1 az)
  have C2 := Lib.hid (blk_below S2.out hb1 bz)
  clear hb1 a0 a1 a2 a3 a4 az b0 b1 b2 b3 b4 bz
  obtain ⟨a0, a1, a2, a3, a4, _, _, _, _, _, az⟩ := blk5s C1.out
  obtain ⟨b0, b1, b2, b3, b4, _, _, _, _, _, bz⟩ := blk5s C2.out
  go_wp2_with fail
  go_ret
  exact ⟨rfl, B1.out⟩

set_option maxRecDepth 100000 in
set_option maxHeartbeats 1000000 in
theorem markSos_one (x : Sh) (c : Int) {p1 p2 p3 : Option Addr} {n1 m1 n2 m2 n3 m3 : Nat} {w : World} {base : Nat} {F : List Nat} (h : OwnSh w base x (.agg #[.int .i64 x.kd, .slice p1 n1 m1, .slice p2 n2 m2, .slice p3 n3 m3]) F) (hF : F.Nodup) (hq : 1 + Sh.mcw x ≤ 1099511627776) :
    Calls Try.prog 22 #[.agg #[.int .i64 x.kd, .slice p1 n1 m1, .slice p2 n2 m2, .slice p3 n3 m3, .int .i64 c], .int .i64 1] w fun e w' => e = .returned (.int .i64 ((1 + Sh.mcw x : Nat) : Int)) ∧ HeldSh w' x (.agg #[.int .i64 x.kd, .slice p1 n1 m1, .slice p2 n2 m2, .slice p3 n3 m3]) ∧ Only F w w' := by
  have hba := below_alloc w (.cells #[.int .i64 x.kd, .slice p1 n1 m1, .slice p2 n2 m2, .slice p3 n3 m3, .int .i64 c] 42)
  have hO : OwnSh (w.alloc (.cells #[.int .i64 x.kd, .slice p1 n1 m1, .slice p2 n2 m2, .slice p3 n3 m3, .int .i64 c] 42)) base x _ F := OwnSh.move (Nat.le_refl _) _ _ _ (fun g hg => hba.block g (OwnSh.blocks _ _ _ h g hg).2) h
  have HM := Lib.hid (markSh_one x _ base _ F hO hF hq)
  have HB := Lib.hid (Only.of_below (F := F) hba)
  clear hba hO h
  go_enter Try.func22, Try.ntmps22
  go_wp2_with fail
  refine HM.out.mono ?_
  rintro e w1 ⟨rfl, hh, hy⟩
  have HH := Lib.hid hh
  have HY := Lib.hid (HB.out.trans hy)
  clear hh hy
  go_wp2_with fail
  go_ret
  exact ⟨rfl, HH.out, HY.out⟩

set_option maxRecDepth 100000 in
set_option maxHeartbeats 1000000 in
theorem heldSos_one (x : Sh) (c : Int) {p1 p2 p3 : Option Addr} {n1 m1 n2 m2 n3 m3 : Nat} {w : World} (h : HeldSh w x (.agg #[.int .i64 x.kd, .slice p1 n1 m1, .slice p2 n2 m2, .slice p3 n3 m3])) (hq : 1 + Sh.mcw x ≤ 1099511627776) :
    Calls Try.prog 23 #[.agg #[.int .i64 x.kd, .slice p1 n1 m1, .slice p2 n2 m2, .slice p3 n3 m3, .int .i64 c], .int .i64 1] w fun e w' => e = .returned (.int .i64 ((1 + Sh.mcw x : Nat) : Int)) ∧ Below w.heap.size w w' := by
  have hba := below_alloc w (.cells #[.int .i64 x.kd, .slice p1 n1 m1, .slice p2 n2 m2, .slice p3 n3 m3, .int .i64 c] 42)
  obtain ⟨K, hK⟩ : ∃ K : Nat, 1 + Sh.mcw x = K := ⟨_, rfl⟩
  have HM := Lib.hid (heldSh_one x _ _ (h.below hba) hq)
  rw [hK] at HM hq ⊢
  have HB := Lib.hid hba
  have hk0 : ¬ (K : Int) < 0 := by omega
  clear hba h hK
  go_enter Try.func23, Try.ntmps23
  go_wp2_with fail
  refine HM.out.mono ?_
  rintro e w1 ⟨rfl, hb1⟩
  have B1 := Lib.hid (HB.out.trans (hb1.mono HB.out.size))
  clear hb1
  go_wp2_with fail
  go_ret
  exact ⟨rfl, B1.out⟩

/-- The variable of a ShapeOut that a region makes, with what a call told. -/
def SoAtS (r : Sh × Int) (u : World) (x : Value) (wc : World) : Prop :=
  ∃ (b : Nat) (p1 : Option Addr) (n1 m1 : Nat) (p2 : Option Addr) (n2 m2 : Nat) (p3 : Option Addr) (m3 : Nat) (F : List Nat), x = .pointer (some ⟨b, 0, none⟩) ∧ u.heap.size ≤ b ∧ wc.heap[b]? = some (.cells #[.int .i64 r.1.kd, .slice p1 n1 m1, .slice p2 n2 m2, .slice p3 r.1.su.length m3, .int .i64 r.2] 42 (0, 0)) ∧
    OwnSh wc u.heap.size r.1 (.agg #[.int .i64 r.1.kd, .slice p1 n1 m1, .slice p2 n2 m2, .slice p3 r.1.su.length m3]) F ∧ F.Nodup ∧ b ∉ F ∧ Below u.heap.size u wc
theorem sos_cut1 {r : Sh × Int} {u w3 : World} {B : Nat} {p1 p2 p3 : Option Addr} {n1 m1 n2 m2 m3 : Nat} {F : List Nat} (ho : OwnSh w3 B r.1 (.agg #[.int .i64 r.1.kd, .slice p1 n1 m1, .slice p2 n2 m2, .slice p3 r.1.su.length m3]) F) (hn : F.Nodup) (hB : u.heap.size ≤ B) (hb : Below u.heap.size u w3) :
    SoAtS r u (.pointer (some ⟨w3.heap.size, 0, none⟩)) (w3.alloc (.cells #[.int .i64 r.1.kd, .slice p1 n1 m1, .slice p2 n2 m2, .slice p3 r.1.su.length m3, .int .i64 r.2] 42)) :=
  ⟨w3.heap.size, p1, n1, m1, p2, n2, m2, p3, m3, F, rfl, hb.size, Go.Deep.blk_alloc_new _ _, OwnSh.move hB _ _ _ (fun g hg => (below_alloc w3 _).block g (OwnSh.blocks _ _ _ ho g hg).2) ho, hn, fun hm => by have := OwnSh.blocks _ _ _ ho _ hm; omega, hb.alloc hb.size _⟩
theorem sos_cut2 {r : Sh × Int} {u w3 : World} {B b : Nat} {p1 p2 p3 : Option Addr} {n1 m1 n2 m2 m3 : Nat} {F : List Nat} {o0 o1 o2 o3 o4 : Value} (ho : OwnSh w3 B r.1 (.agg #[.int .i64 r.1.kd, .slice p1 n1 m1, .slice p2 n2 m2, .slice p3 r.1.su.length m3]) F) (hn : F.Nodup) (hB : u.heap.size ≤ B) (hb : Below u.heap.size u w3) (h1 : u.heap.size ≤ b) (h2 : b < B) (hz : w3.heap[b]? = some (.cells #[o0, o1, o2, o3, o4] 42 (0, 0))) :
    SoAtS r u (.pointer (some ⟨b, 0, none⟩)) ((putS w3 b (.int .i64 r.1.kd) (.slice p1 n1 m1) (.slice p2 n2 m2) (.slice p3 r.1.su.length m3)).setCell ⟨b, 4, none⟩ (.int .i64 r.2)) := by
  have lt := OwnSh.blocks _ _ _ ho
  have a4 := blk_set (blk_set (blk_set (blk_set (blk_set hz 0 (.int .i64 r.1.kd)) 1 (.slice p1 n1 m1)) 2 (.slice p2 n2 m2)) 3 (.slice p3 r.1.su.length m3)) 4 (.int .i64 r.2)
  refine ⟨b, p1, n1, m1, p2, n2, m2, p3, m3, F, rfl, h1, by unfold putS; simpa using a4, OwnSh.move hB _ _ _ (fun g hg => ?_) ho, hn, fun hm => by have := lt _ hm; omega, (putS_below hb h1 _ _ _ _).setCell (p := ⟨b, 4, none⟩) h1 _⟩
  have hne : g ≠ b := by have := lt g hg; omega
  rw [Below.heap_setCell _ _ _ _ hne]
  exact putS_other _ _ _ _ _ _ hne
end Go.Proofs.Ythllilkokkijaaa
