/- Walks: impl.fieldReading. -/
import Derived.Test.YtnnjhcjalmdmcaaGreatGRmP
import Derived.Test.YtnnjhcjalmdmcaaGreatGRm1W
import Derived.Deep.RegionHeld3
namespace Go.Proofs.YtnnjhcjalmdmcaaGreat
open Go.RowKit

/-- impl.readingOf's contract at right shapes of so many levels together. -/
def ROf (G : RG) (n : Nat) : Prop := ∀ (X : Nat → Prop) (z w : World) (d1 d2 : Nat) (wt rt : Sh) (vw vr : Value), d1 + d2 ≤ n → d1 ≤ 5 → d2 ≤ 5 → partOk d1 wt = true → partOk d2 rt = true → IsSh z wt vw → IsSh z rt vr → EnvR X z w →
  Calls Tryz.prog 36 #[vw, vr] w (MadeG G X (fun u => fitB wt u = true) (rdB n wt rt) (wnB n wt rt) w)

theorem fitZip_at : ∀ {l : List Sh} {m : List Va} {j : Nat}, fitZip l m = true → j < l.length → j < m.length ∧ fitB (l.getD j zsh) (m.getD j zva) = true
  | [], _, _, _, h => by cases h
  | _ :: _, [], _, h, _ => by simp [fitZip] at h
  | x :: l, v :: m, 0, h, _ => by
    simp only [fitZip, Bool.and_eq_true] at h
    simpa using h.1
  | x :: l, v :: m, j + 1, h, hj => by
    simp only [fitZip, Bool.and_eq_true] at h
    have := fitZip_at (j := j) h.2 (by simpa using hj)
    simpa using this

set_option maxRecDepth 100000 in
set_option maxHeartbeats 1000000 in
theorem field_neg (G : RG) (hM : RM G) (n : Nat) (X : Nat → Prop) (z w : World) (d2 : Nat) (na : List ByteArray) (su : List Sh) (rt : Sh) (name : ByteArray) (vw vr : Value) (h2 : d2 ≤ 5) (hpr : partOk d2 rt = true) (hw : IsSh z (.mk 7 [] na su) vw) (hr : IsSh z rt vr) (he : EnvR X z w) (hneg : posOf na name < 0) :
    Calls Tryz.prog 97 #[vw, .string name, vr] w (MadeG G X (fun u => fitB (.mk 7 [] na su) u = true) (fieldR (rdB n) (.mk 7 [] na su) name rt) (fieldW (wnB n) (.mk 7 [] na su) name rt) w) := by
  obtain ⟨p1, m1, p2, m2, p3, m3, rfl, _, _, s2, _⟩ := hw.open
  have HR := Lib.hid hr
  obtain ⟨q1, i1, j1, q2, i2, j2, q3, i3, j3, rfl⟩ := hr.agg
  have HN := Lib.hid fun o => three_new w (.cells #[.int .i64 7, .slice p1 0 m1, .slice p2 na.length m2, .slice p3 su.length m3] 26) (.cells #[.int .i64 rt.kd, .slice q1 i1 j1, .slice q2 i2 j2, .slice q3 i3 j3] 26) o
  obtain ⟨W, hW⟩ : ∃ W, W = ((w.alloc (.cells #[.int .i64 7, .slice p1 0 m1, .slice p2 na.length m2, .slice p3 su.length m3] 26)).alloc (.cells #[.int .i64 rt.kd, .slice q1 i1 j1, .slice q2 i2 j2, .slice q3 i3 j3] 26)).alloc (.cells #[.nilFunc, .nilFunc] 67) := ⟨_, rfl⟩
  have hbw : Below w.heap.size w W := by rw [hW]; exact ((below_alloc w _).alloc (by simp) _).alloc (by simp; omega) _
  have hn := HN.out (.cells #[.nilFunc, .nilFunc] 67)
  rw [← hW] at hn
  have N1 := Lib.hid hn.1
  have N2 := Lib.hid hn.2.1
  have N3 := Lib.hid hn.2.2
  have BW := Lib.hid hbw
  have HW := Lib.hid hW
  have HE := Lib.hid he
  have HP := Lib.hid hpr
  have S2 := Lib.hid (s2.keep (Keeps.of_below (he.below.trans (hbw.mono he.below.size))))
  have HG := Lib.hid hneg
  have HZ : Hid (W.heap.size = w.heap.size + 1 + 1 + 1) := by show _ = _; rw [hW]; simp
  clear hn hbw hW he hpr s2 hr hw HN
  obtain ⟨p, hp⟩ : ∃ p, posOf na name = p := ⟨_, rfl⟩
  have HPos := Lib.hid hp
  rw [hp] at hneg
  clear hp
  go_enter Tryz.func97, Tryz.ntmps97
  go_wp2_with fail
  rw [← HW.out]
  refine (index_any _ na name W S2.out).mono ?_
  rintro e w1 ⟨rfl, rfl⟩
  rw [HPos.out]
  obtain ⟨W4, hW4⟩ : ∃ W4, W4 = W.alloc (.cells #[.int .i64 p] 3) := ⟨_, rfl⟩
  have hb4 : Below W.heap.size W W4 := by rw [hW4]; exact below_alloc _ _
  obtain ⟨y0, y1, y2, y3, _, _, _, _, yz⟩ := blk4 N2.out
  have HW4 := Lib.hid hW4
  have B4 := Lib.hid (BW.out.trans (hb4.mono BW.out.size))
  have R4 := Lib.hid (blk_below N3.out hb4 (Array.getElem?_eq_some_iff.1 N3.out).1)
  have HZ4 : Hid (W.heap.size < W4.heap.size) := by show _ < _; rw [hW4]; simp
  clear hW4 hb4
  go_wp2_with fail
  rw [← HW4.out]
  refine (newField_raw rt.kd q1 q2 q3 i1 i2 i3 j1 j2 j3 W4).mono ?_
  rintro e w5 ⟨rfl, hn5, hb5⟩
  have B5 := Lib.hid (B4.out.trans (hb5.mono B4.out.size))
  obtain ⟨r0, r1, _, _, rz⟩ := blk2r (blk_below R4.out hb5 (Array.getElem?_eq_some_iff.1 R4.out).1)
  have E4 : EnvR (withX X (w.heap.size + 1 + 1)) z W4 := HE.out.with B4.out (by omega) (by have := HZ.out; have := HZ4.out; omega)
  have E5 := E4.step hb5
  have hx : ¬ withX X (w.heap.size + 1 + 1) W4.heap.size := E4.ne (Nat.le_refl _)
  have hG5 := hM.newField h2 HP.out HR.out E5 hn5 hx
  have G5 := Lib.hid hG5
  clear hb5 hn5 E4 E5 hx hG5 y0 y1 y2 y3 yz
  go_wp2_with fail
  refine bodyPost_ret (v := .agg #[fnv 108 #[.pointer (some ⟨W4.heap.size, 0, none⟩)], fnv 93 #[]]) (by simp [results, Tryz.results97, go_sem, r0, r1]) rfl ?_
  refine made_endR hM (hM.same G5.out (fun _ _ => trivial) (fun u _ => ?_) ?_) B5.out (by omega) _ _
  · unfold fieldR; rw [if_neg (by rw [show (Sh.mk 7 [] na su).na = na from rfl]; have := HG.out; omega)]
  · unfold fieldW; rw [if_neg (by rw [show (Sh.mk 7 [] na su).na = na from rfl]; have := HG.out; omega)]

/-- The reading of the part, in the block of its variable. -/
def OneAt (G : RG) (Y : Nat → Prop) (W4 : World) (P : Va → Prop) (R : Va → Va × Int) (U : Option Va) (x : Value) (wc : World) : Prop :=
  ∃ (b1 : Nat) (f1 : FuncId) (c1 : Array Value) (f2 : FuncId) (c2 : Array Value), x = .pointer (some ⟨b1, 0, none⟩) ∧ wc.heap[b1]? = some (.cells #[fnv f1 c1, fnv f2 c2] 67 (0, 0)) ∧ W4.heap.size ≤ b1 ∧ G Y wc P R U f1 c1 f2 c2 ∧ Below W4.heap.size W4 wc
theorem field_cut1 {G : RG} (hM : RM G) {Y : Nat → Prop} {W4 w5 : World} {P : Va → Prop} {R : Va → Va × Int} {U : Option Va} {f1 f2 : FuncId} {g1 g2 : Array Value} (hG : G Y w5 P R U f1 g1 f2 g2) (hb : Below W4.heap.size W4 w5) :
    OneAt G Y W4 P R U (.pointer (some ⟨w5.heap.size, 0, none⟩)) (w5.alloc (.cells #[.func (.func f1) #[] g1, .func (.func f2) #[] g2] 67)) :=
  ⟨w5.heap.size, f1, g1, f2, g2, rfl, Go.Deep.blk_alloc_new _ _, hb.size, hM.move hG (Still.of_below (below_alloc _ _)) fun _ hg => .inl hg, hb.alloc hb.size _⟩
theorem field_cut2 {G : RG} (hM : RM G) {Y : Nat → Prop} {W4 w5 : World} {P : Va → Prop} {R : Va → Va × Int} {U : Option Va} {f1 f2 : FuncId} {g1 g2 : Array Value} (hG : G (withX Y W4.heap.size) w5 P R U f1 g1 f2 g2) (hb : Below W4.heap.size W4 w5) (hn : w5.heap[W4.heap.size]? = some (.cells #[.nilFunc, .nilFunc] 67 (0, 0))) :
    OneAt G Y W4 P R U (.pointer (some ⟨W4.heap.size, 0, none⟩)) ((w5.setCell ⟨W4.heap.size, 0, none⟩ (.func (.func f1) #[] g1)).setCell ⟨W4.heap.size, 1, none⟩ (.func (.func f2) #[] g2)) := by
  have h2 := blk_set (blk_set hn 0 (fnv f1 g1)) 1 (fnv f2 g2)
  exact ⟨W4.heap.size, f1, g1, f2, g2, rfl, by simpa using h2, Nat.le_refl _, hM.move hG (((Still.refl _ _).set (.inr rfl) _ _).set (.inr rfl) _ _) fun _ hg => .inl (.inl hg), (hb.setCell (p := ⟨W4.heap.size, 0, none⟩) (Nat.le_refl _) _).setCell (p := ⟨W4.heap.size, 1, none⟩) (Nat.le_refl _) _⟩

set_option maxRecDepth 100000 in
set_option maxHeartbeats 2000000 in
theorem field_pos (G : RG) (hM : RM G) (n : Nat) (ih : ROf G n) (X : Nat → Prop) (z w : World) (d1 d2 : Nat) (na : List ByteArray) (su : List Sh) (rt : Sh) (name : ByteArray) (vw vr : Value) (hd : d1 + d2 ≤ n) (h1 : d1 + 1 ≤ 5) (h2 : d2 ≤ 5) (hpw : partOk (d1 + 1) (.mk 7 [] na su) = true) (hps : su.all (partOk d1) = true) (hl : su.length = na.length) (hpr : partOk d2 rt = true) (hw : IsSh z (.mk 7 [] na su) vw) (hr : IsSh z rt vr) (he : EnvR X z w) (j : Nat) (hpos : posOf na name = j) :
    Calls Tryz.prog 97 #[vw, .string name, vr] w (MadeG G X (fun u => fitB (.mk 7 [] na su) u = true) (fieldR (rdB n) (.mk 7 [] na su) name rt) (fieldW (wnB n) (.mk 7 [] na su) name rt) w) := by
  have HWv := Lib.hid hw
  obtain ⟨p1, m1, p2, m2, p3, m3, rfl, _, _, s2, s3⟩ := hw.open
  have HR := Lib.hid hr
  obtain ⟨q1, i1, j1, q2, i2, j2, q3, i3, j3, rfl⟩ := hr.agg
  have hj : j < su.length := by have := posOf_lt na name; omega
  clear hl
  have HN := Lib.hid fun o => three_new w (.cells #[.int .i64 7, .slice p1 0 m1, .slice p2 na.length m2, .slice p3 su.length m3] 26) (.cells #[.int .i64 rt.kd, .slice q1 i1 j1, .slice q2 i2 j2, .slice q3 i3 j3] 26) o
  obtain ⟨W, hW⟩ : ∃ W, W = ((w.alloc (.cells #[.int .i64 7, .slice p1 0 m1, .slice p2 na.length m2, .slice p3 su.length m3] 26)).alloc (.cells #[.int .i64 rt.kd, .slice q1 i1 j1, .slice q2 i2 j2, .slice q3 i3 j3] 26)).alloc (.cells #[.nilFunc, .nilFunc] 67) := ⟨_, rfl⟩
  have hbw : Below w.heap.size w W := by rw [hW]; exact ((below_alloc w _).alloc (by simp) _).alloc (by simp; omega) _
  have hn := HN.out (.cells #[.nilFunc, .nilFunc] 67)
  rw [← hW] at hn
  have N1 := Lib.hid hn.1
  have N2 := Lib.hid hn.2.1
  have N3 := Lib.hid hn.2.2
  have BW := Lib.hid hbw
  have HW := Lib.hid hW
  have HE := Lib.hid he
  have HP := Lib.hid hpr
  have HPW := Lib.hid hpw
  have S2 := Lib.hid (s2.keep (Keeps.of_below (he.below.trans (hbw.mono he.below.size))))
  have HPos := Lib.hid hpos
  have HZ : Hid (W.heap.size = w.heap.size + 1 + 1 + 1) := by show _ = _; rw [hW]; simp
  have IH := Lib.hid ih
  have HPj := Lib.hid (List.all_eq_true.1 hps su[j] (List.getElem_mem hj))
  obtain ⟨a3, cap3, e3, g3a, g3b, g6⟩ := s3
  simp only [Value.slice.injEq] at e3
  obtain ⟨rfl, _, rfl⟩ := e3
  obtain ⟨b, off, rfl, d0', d1', d2', d3', k0, k1, k2, k3, k4⟩ := IsShs.at g6 hj
  have K4 := Lib.hid k4
  obtain ⟨t1, u1, y1, t2, u2, y2, t3, u3, y3, rfl, rfl, rfl, rfl⟩ := k4.cells
  have HC := Lib.hid (And.intro k0 (And.intro k1 (And.intro k2 k3)))
  clear hn hbw hW he hpr s2 hr hw HN hpw hps g6 k0 k1 k2 k3 k4 ih hpos
  go_enter Tryz.func97, Tryz.ntmps97
  go_wp2_with fail
  rw [← HW.out]
  refine (index_any _ na name W S2.out).mono ?_
  rintro e w1 ⟨rfl, rfl⟩
  rw [HPos.out]
  obtain ⟨W4, hW4⟩ : ∃ W4, W4 = W.alloc (.cells #[.int .i64 j] 3) := ⟨_, rfl⟩
  have hb4 : Below W.heap.size W W4 := by rw [hW4]; exact below_alloc _ _
  have HW4 := Lib.hid hW4
  have B4 := Lib.hid (BW.out.trans (hb4.mono BW.out.size))
  have J4 : Hid (W4.heap[W.heap.size]? = some (.cells #[.int .i64 j] 3 (0, 0))) := by show _ = _; rw [hW4]; exact Go.Deep.blk_alloc_new _ _
  have M1 := Lib.hid (blk_below N1.out hb4 (blk4 N1.out).2.2.2.2.2.2.2.2)
  have M2 := Lib.hid (blk_below N2.out hb4 (blk4 N2.out).2.2.2.2.2.2.2.2)
  have M3 := Lib.hid (blk_below N3.out hb4 (Array.getElem?_eq_some_iff.1 N3.out).1)
  have HZ4 : Hid (W.heap.size < W4.heap.size) := by show _ < _; rw [hW4]; simp
  have E4 : Hid (EnvR (withX X (w.heap.size + 1 + 1)) z W4) := HE.out.with B4.out (by omega) (by have := HZ.out; have := HZ4.out; omega)
  have HKp := Keeps.of_below E4.out.below
  have c0 := HKp _ _ _ HC.out.1
  have c1 := HKp _ _ _ HC.out.2.1
  have c2 := HKp _ _ _ HC.out.2.2.1
  have c3 := HKp _ _ _ HC.out.2.2.2
  have bz : b < W4.heap.size := World.block_lt_of_cell? W4 ⟨b, off + j * 4, none⟩ c0
  obtain ⟨x0, x1, x2, x3, _, _, _, _, xz⟩ := blk4 N1.out
  obtain ⟨y0, y1', y2', y3', _, _, _, _, yz⟩ := blk4 N2.out
  clear hW4 hb4 HKp
  have hge : ¬ ((j : Int) < 0) := by omega
  go_upto_region 4 with fail
  rw [← HW4.out]
  clear x0 x1 x2 x3 xz y0 y1' y2' y3' yz
  obtain ⟨x0, x1, x2, x3, _, _, _, _, xz⟩ := blk4 M1.out
  obtain ⟨y0, y1', y2', y3', _, _, _, _, yz⟩ := blk4 M2.out
  obtain ⟨l0, _, lz⟩ := blk1r J4.out
  go_cut [8] (fun x wc => Hid (OneAt G (withX X (w.heap.size + 1 + 1)) W4 (fun u => fitB su[j] u = true) (rdB n su[j] rt) (wnB n su[j] rt) x wc))
  case first =>
    have E4a : Hid (EnvR (withX (withX X (w.heap.size + 1 + 1)) W4.heap.size) z (W4.alloc (.cells #[.nilFunc, .nilFunc] 67)).drew) := E4.out.with (below_alloc W4 _).drew (Nat.le_refl _) (by show _ < (W4.alloc _).heap.size; simp)
    have NA : Hid ((W4.alloc (.cells #[.nilFunc, .nilFunc] 67)).drew.heap[W4.heap.size]? = some (.cells #[.nilFunc, .nilFunc] 67 (0, 0))) := Go.Deep.blk_alloc_new W4 _
    obtain ⟨S, hS⟩ : ∃ S : World → Prop, S = fun w' => w'.cell? ⟨w.heap.size, 3, none⟩ = some (.slice (some ⟨b, off, none⟩) su.length m3) ∧ w'.cell? ⟨W.heap.size, 0, none⟩ = some (.int .i64 j) ∧ w'.cell? ⟨b, off + j * 4, none⟩ = some (.int .i64 su[j].kd) ∧ w'.cell? ⟨b, off + j * 4 + 1, none⟩ = some (.slice t1 u1 y1) ∧ w'.cell? ⟨b, off + j * 4 + 2, none⟩ = some (.slice t2 u2 y2) ∧ w'.cell? ⟨b, off + j * 4 + 3, none⟩ = some (.slice t3 u3 y3) ∧
      w'.cell? ⟨w.heap.size + 1, 0, none⟩ = some (.int .i64 rt.kd) ∧ w'.cell? ⟨w.heap.size + 1, 1, none⟩ = some (.slice q1 i1 j1) ∧ w'.cell? ⟨w.heap.size + 1, 2, none⟩ = some (.slice q2 i2 j2) ∧ w'.cell? ⟨w.heap.size + 1, 3, none⟩ = some (.slice q3 i3 j3) := ⟨_, rfl⟩
    have HSK : Hid (∀ w', Keeps W4 w' → S w') := fun w' hk => by rw [hS]; exact ⟨hk _ _ _ x3, hk _ _ _ l0, hk _ _ _ c0, hk _ _ _ c1, hk _ _ _ c2, hk _ _ _ c3, hk _ _ _ y0, hk _ _ _ y1', hk _ _ _ y2', hk _ _ _ y3'⟩
    subst hS
    clear x0 x1 x2 x3 xz y0 y1' y2' y3' yz l0 lz c0 c1 c2 c3 bz
    go_region_held3 (fun w' => w'.cell? ⟨w.heap.size, 3, none⟩ = some (.slice (some ⟨b, off, none⟩) su.length m3) ∧ w'.cell? ⟨W.heap.size, 0, none⟩ = some (.int .i64 j) ∧ w'.cell? ⟨b, off + j * 4, none⟩ = some (.int .i64 su[j].kd) ∧ w'.cell? ⟨b, off + j * 4 + 1, none⟩ = some (.slice t1 u1 y1) ∧ w'.cell? ⟨b, off + j * 4 + 2, none⟩ = some (.slice t2 u2 y2) ∧ w'.cell? ⟨b, off + j * 4 + 3, none⟩ = some (.slice t3 u3 y3) ∧
      w'.cell? ⟨w.heap.size + 1, 0, none⟩ = some (.int .i64 rt.kd) ∧ w'.cell? ⟨w.heap.size + 1, 1, none⟩ = some (.slice q1 i1 j1) ∧ w'.cell? ⟨w.heap.size + 1, 2, none⟩ = some (.slice q2 i2 j2) ∧ w'.cell? ⟨w.heap.size + 1, 3, none⟩ = some (.slice q3 i3 j3))
      (first
        | exact HSK.out _ keeps_drew
        | exact HSK.out _ (Keeps.of_below (below_alloc W4 _).drew)
        | exact HSK.out _ (Keeps.of_below B5.out)
        | exact HSK.out _ (Keeps.of_below (B5.out.alloc B5.out.size _))
        | exact HSK.out _ (Keeps.of_below B6.out)
        | exact HSK.out _ (Keeps.of_below ((B6.out.setCell (p := ⟨W4.heap.size, 0, none⟩) (Nat.le_refl _) _).setCell (p := ⟨W4.heap.size, 1, none⟩) (Nat.le_refl _) _)))
      (first
        | (go_at_call 36; refine (IH.out (withX X (w.heap.size + 1 + 1)) z W4.drew d1 d2 su[j] rt _ _ hd (by omega) h2 HPj.out HP.out K4.out HR.out (E4.out.step (Below.refl _ W4).drew)).mono ?_; rintro e w5 ⟨f1, g1, f2, g2, rfl, hG5, hb5⟩; have G5 := Lib.hid hG5; have B5 := Lib.hid (show Below W4.heap.size W4 w5 from (Below.refl _ W4).drew.trans hb5); clear hG5 hb5)
        | (go_at_call 36; refine (IH.out (withX (withX X (w.heap.size + 1 + 1)) W4.heap.size) z (W4.alloc (.cells #[.nilFunc, .nilFunc] 67)).drew d1 d2 su[j] rt _ _ hd (by omega) h2 HPj.out HP.out K4.out HR.out E4a.out).mono ?_; rintro e w5 ⟨f1, g1, f2, g2, rfl, hG5, hb5⟩; have G6 := Lib.hid hG5; have B6 := Lib.hid (show Below W4.heap.size W4 w5 from (below_alloc W4 _).drew.trans (hb5.mono (by show W4.heap.size ≤ (W4.alloc _).heap.size; simp))); have n6 := blk_below NA.out hb5 (Array.getElem?_eq_some_iff.1 NA.out).1; have N6 := Lib.hid n6; obtain ⟨_, _, _, _, _⟩ := blk2r n6; clear hG5 hb5 n6))
    all_goals
      go_wp2_with fail
      go_meet
      first
        | (have h1 := G5; exact field_cut1 hM h1.out B5.out)
        | (have h1 := G6; exact field_cut2 hM h1.out B6.out N6.out)
  case rest =>
    obtain ⟨b1, f1, g1, f2, g2, rfl, hn1, hge1, hG, hbc⟩ := hcut.out
    have B9 := Lib.hid (B4.out.trans (hbc.mono B4.out.size))
    have hx1 := M1.out
    have E9 := E4.out.step hbc
    have a1 := blk_below M1.out hbc xz
    have a3 := blk_below J4.out hbc lz
    have R9 := blk_below M3.out hbc (Array.getElem?_eq_some_iff.1 M3.out).1
    have hG9 := hM.field h1 HPW.out HWv.out E9 hn1 a1 a3 (E4.out.ne hge1) (fun hx => by rcases hx with hx | hx; exact HE.out.ne (Nat.le_refl _) hx; omega) (fun hx => by have := HZ.out; rcases hx with hx | hx; exact HE.out.ne (show w.heap.size ≤ W.heap.size by omega) hx; omega) hj hG
    have G9 := Lib.hid hG9
    obtain ⟨r0, r1, _, _, rz⟩ := blk2r R9
    clear hcut hn1 hge1 hG hbc hx1 E9 a1 a3 R9 hG9 x0 x1 x2 x3 xz y0 y1' y2' y3' yz l0 lz c0 c1 c2 c3 bz
    go_wp2_with fail
    refine bodyPost_ret (v := .agg #[fnv 106 #[.pointer (some ⟨b1, 0, none⟩), .pointer (some ⟨W.heap.size, 0, none⟩)], fnv 107 #[.pointer (some ⟨b1, 0, none⟩), .pointer (some ⟨w.heap.size, 0, none⟩), .pointer (some ⟨W.heap.size, 0, none⟩)]]) (by simp [results, Tryz.results97, go_sem, r0, r1]) rfl ?_
    have hle : (0 : Int) ≤ posOf na name := by rw [HPos.out]; omega
    have htn : (posOf na name).toNat = j := by rw [HPos.out]; rfl
    have hgs : su.getD j zsh = su[j] := getD_eq hj
    refine made_endR hM (hM.same G9.out (fun u hu => ?_) (fun u _ => ?_) ?_) B9.out (by omega) _ _
    · cases u with | mk k nn t it =>
      have hz : fitZip su it = true := by
        unfold fitB at hu
        rw [if_neg (by decide), if_neg (by decide), if_neg (by decide), if_neg (by decide), if_neg (by decide), if_neg (by decide)] at hu
        simp only [Bool.and_eq_true] at hu
        exact hu.2.2
      have := fitZip_at hz hj
      rw [hgs] at this
      exact this
    · unfold fieldR
      rw [show (Sh.mk 7 [] na su).na = na from rfl, show (Sh.mk 7 [] na su).su = su from rfl, if_pos hle, htn, hgs]
    · unfold fieldW
      rw [show (Sh.mk 7 [] na su).na = na from rfl, show (Sh.mk 7 [] na su).su = su from rfl, if_pos hle, htn, hgs]
end Go.Proofs.YtnnjhcjalmdmcaaGreat
