/- Walks: impl.blankRight. -/
import Derived.Test.YtnnjhcjalmdmcaaGreatGBlankW
import Derived.Test.YtnnjhcjalmdmcaaGreatGTaW
import Derived.Test.YtnnjhcjalmdmcaaGreatGCloneW
namespace Go.Proofs.YtnnjhcjalmdmcaaGreat
open Go.RowKit

/-- impl.blankRight's contract at the right shapes of so many levels. -/
def BiAt (d : Nat) : Prop := ∀ (t : Sh) (v : Value) (w : World), partOk d t = true → IsSh w t v → Calls Tryz.prog 87 #[v] w (ToVPost (blankB t) w)

set_option maxRecDepth 100000 in
set_option maxHeartbeats 1000000 in
theorem bi_bare (T : Nat) (hT1 : T ≠ 118) (hT2 : T ≠ 121) (k : Int) (hk : InI64' k) (p1 p2 p3 : Option Addr) (n1 n2 n3 m1 m2 m3 : Nat) (w : World)
    (hc : ∀ w, Calls Tryz.prog 79 #[.agg #[.int .i64 k, .slice p1 n1 m1, .slice p2 n2 m2, .slice p3 n3 m3]] w fun e w' => e = .returned (.iface T (.agg #[.int .i64 k, .slice p1 n1 m1, .slice p2 n2 m2, .slice p3 n3 m3])) ∧ Below w.heap.size w w') :
    Calls Tryz.prog 87 #[.agg #[.int .i64 k, .slice p1 n1 m1, .slice p2 n2 m2, .slice p3 n3 m3]] w (ToVPost (.mk k 0 ⟨#[]⟩ []) w) := by
  have HC := Lib.hid hc
  have u1 := ta_no_pick T hT1
  have u4 := ta_no_rec T hT2
  have HN := Lib.hid (three_new w (.cells #[.int .i64 k, .slice p1 n1 m1, .slice p2 n2 m2, .slice p3 n3 m3] 26) (.cells #[.int .i64 0, .int .i64 0, .string ⟨#[]⟩, .slice none 0 0] 29) (.cells #[.int .i64 k, .int .i64 0, .string ⟨#[]⟩, .slice none 0 0] 29))
  have HB := Lib.hid (fun o1 o2 o3 => ((below_alloc w o1).alloc (by simp) o2).alloc (by simp; omega) o3)
  have HK := Lib.hid hk
  clear hc hT1 hT2 hk
  go_enter Tryz.func87, Tryz.ntmps87
  go_wp2_with fail
  refine (HC.out _).mono ?_
  rintro e w1 ⟨rfl, hb1⟩
  have B1 := Lib.hid ((HB.out _ _ _).trans (hb1.mono (by simp; omega)))
  obtain ⟨r0, r1, r2, r3, e0, e1, e2, e3, rz⟩ := blk4 (blk_below HN.out.2.1 hb1 (by simp))
  obtain ⟨v0, v1, v2, v3, f0, f1, f2, f3, vz⟩ := blk4 (blk_below HN.out.2.2 hb1 (by simp))
  clear hb1
  go_wp2_with fail
  refine bodyPost_ret (v := .agg #[.int .i64 k, .int .i64 0, .string ⟨#[]⟩, .slice none 0 0]) (by simp [results, Tryz.results87, go_sem, *]) rfl (bare_post _ _ _ _ HK.out (by decide) (set4_below B1.out (by omega) _ _ _ _))

set_option maxRecDepth 100000 in
set_option maxHeartbeats 1000000 in
theorem bi_pick (p1 p2 p3 : Option Addr) (n2 n3 m1 m2 m3 : Nat) (sy : List ByteArray) (w : World) (h : IsStrs w (.slice p1 sy.length m1) sy) (h0 : 0 < sy.length) (h8 : ∀ s ∈ sy, s.size ≤ 8) :
    Calls Tryz.prog 87 #[.agg #[.int .i64 4, .slice p1 sy.length m1, .slice p2 n2 m2, .slice p3 n3 m3]] w (ToVPost (.mk 4 0 (sy.headD ⟨#[]⟩) []) w) := by
  obtain ⟨hh1, hh2, a, cap, he, _, hc4, h6⟩ := h
  simp only [Value.slice.injEq] at he
  obtain ⟨rfl, _, rfl⟩ := he
  obtain ⟨b, off, rfl, hc⟩ := IsStrs.at h6 h0
  obtain ⟨s, hs⟩ : ∃ s, s = sy.headD ⟨#[]⟩ := ⟨_, rfl⟩
  have hs0 : sy[0] = s := by rw [hs]; cases sy with | nil => simp at h0 | cons a l => rfl
  rw [hs0, Nat.add_zero] at hc
  rw [← hs]
  have HZ := Lib.hid (show s.size ≤ 8 by rw [← hs0]; exact h8 _ (List.getElem_mem h0))
  have HCC := Lib.hid hc
  have u1 := ta_pick
  have HN := Lib.hid (three_new w (.cells #[.int .i64 4, .slice (some ⟨b, off, none⟩) sy.length m1, .slice p2 n2 m2, .slice p3 n3 m3] 26) (.cells #[.int .i64 0, .int .i64 0, .string ⟨#[]⟩, .slice none 0 0] 29) (.cells #[.int .i64 4, .int .i64 0, .string ⟨#[]⟩, .slice none 0 0] 29))
  have HB := Lib.hid (fun o1 o2 o3 => ((below_alloc w o1).alloc (by simp) o2).alloc (by simp; omega) o3)
  clear hs hs0 h6 hc h8 hh2
  go_enter Tryz.func87, Tryz.ntmps87
  go_wp2_with fail
  refine (kindOf_pick _ _ _ _ _ _ _ _ _ _).mono ?_
  rintro e w1 ⟨rfl, hb1⟩
  have B1 := Lib.hid ((HB.out _ _ _).trans (hb1.mono (by simp; omega)))
  have R1 := Lib.hid (blk_below HN.out.2.1 hb1 (by simp))
  have V1 := Lib.hid (blk_below HN.out.2.2 hb1 (by simp))
  clear hb1
  obtain ⟨W2, hW2⟩ : ∃ W2, W2 = w1.alloc (.cells #[.int .i64 4, .slice (some ⟨b, off, none⟩) sy.length m1, .slice p2 n2 m2, .slice p3 n3 m3] 118) := ⟨_, rfl⟩
  have hk2 := Keeps.of_below (B1.out.alloc B1.out.size (.cells #[.int .i64 4, .slice (some ⟨b, off, none⟩) sy.length m1, .slice p2 n2 m2, .slice p3 n3 m3] 118)) _ _ _ HCC.out
  have R2 := Lib.hid (blk_below R1.out (below_alloc w1 (.cells #[.int .i64 4, .slice (some ⟨b, off, none⟩) sy.length m1, .slice p2 n2 m2, .slice p3 n3 m3] 118)) (blk4 R1.out).2.2.2.2.2.2.2.2)
  have V2 := Lib.hid (blk_below V1.out (below_alloc w1 (.cells #[.int .i64 4, .slice (some ⟨b, off, none⟩) sy.length m1, .slice p2 n2 m2, .slice p3 n3 m3] 118)) (blk4 V1.out).2.2.2.2.2.2.2.2)
  have B2 := Lib.hid (B1.out.alloc B1.out.size (.cells #[.int .i64 4, .slice (some ⟨b, off, none⟩) sy.length m1, .slice p2 n2 m2, .slice p3 n3 m3] 118))
  clear hW2
  go_wp2_with fail
  refine (clone_any s _ (by have := HZ.out; omega)).mono ?_
  rintro e w3 ⟨rfl, hb3⟩
  have B3 := Lib.hid (B2.out.trans (hb3.mono B2.out.size))
  obtain ⟨r0, r1, r2, r3, e0, e1, e2, e3, rz⟩ := blk4 (blk_below R2.out hb3 (blk4 R2.out).2.2.2.2.2.2.2.2)
  obtain ⟨v0, v1, v2, v3, f0, f1, f2, f3, vz⟩ := blk4 (blk_below V2.out hb3 (blk4 V2.out).2.2.2.2.2.2.2.2)
  clear hb3 hk2
  go_wp2_with fail
  refine bodyPost_ret (v := .agg #[.int .i64 4, .int .i64 0, .string s, .slice none 0 0]) (by simp [results, Tryz.results87, go_sem, *]) rfl (bare_post _ _ _ _ (by unfold InI64'; omega) (by have := HZ.out; omega) (set4_below (B3.out.setCell (p := ⟨w.heap.size + 1 + 1, 2, none⟩) (by show _ ≤ w.heap.size + 1 + 1; omega) _) (by omega) _ _ _ _))

theorem BlInv.alloc {W wr : World} {gv j cap : Nat} {k : Int} {l : List Sh} {p : Option Addr} {cs : List Value} {F : List Nat} (h : BlInv W wr gv k l j p cap cs F) (o : Obj) : BlInv W (wr.alloc o) gv k l j p cap cs F := by
  obtain ⟨h1, h2, h3, h4, h5, h6⟩ := h
  have hb := below_alloc wr o
  exact ⟨blk_below h1 hb (Array.getElem?_eq_some_iff.1 h1).1, own_block h2 fun q hq => hb.block q (blkOf_own h2 q hq).2, h3.move (Nat.le_refl _) fun q hq => hb.block q (h3.lt q hq).2, h4, h5.trans (Only.of_below hb), h6⟩

set_option maxRecDepth 100000 in
set_option maxHeartbeats 2000000 in
theorem bi_rec (d : Nat) (ih : BiAt d) (p1 p2 p3 : Option Addr) (n1 n2 m1 m2 m3 : Nat) (su : List Sh) (w : World) (hp : su.all (partOk d) = true) (h3 : IsShs w (.slice p3 su.length m3) su) (h6 : su.length ≤ 6) :
    Calls Tryz.prog 87 #[.agg #[.int .i64 7, .slice p1 n1 m1, .slice p2 n2 m2, .slice p3 su.length m3]] w (ToVPost (.mk 7 0 ⟨#[]⟩ (blanks su)) w) := by
  obtain ⟨a3, cap3, e3, _, hc3, g3⟩ := h3
  simp only [Value.slice.injEq] at e3
  obtain ⟨rfl, _, rfl⟩ := e3
  have u1 := ta_no_pick 121 (by decide)
  have u4 := ta_rec
  have HN := Lib.hid (three_new w (.cells #[.int .i64 7, .slice p1 n1 m1, .slice p2 n2 m2, .slice p3 su.length m3] 26) (.cells #[.int .i64 0, .int .i64 0, .string ⟨#[]⟩, .slice none 0 0] 29) (.cells #[.int .i64 7, .int .i64 0, .string ⟨#[]⟩, .slice none 0 0] 29))
  have HB := Lib.hid (fun o1 o2 o3 => ((below_alloc w o1).alloc (by simp) o2).alloc (by simp; omega) o3)
  have H3 := Lib.hid g3
  have HP := Lib.hid hp
  have IH := Lib.hid ih
  clear g3 hp ih
  go_enter Tryz.func87, Tryz.ntmps87
  go_wp2_with fail
  refine (kindOf_rec _ _ _ _ _ _ _ _ _ _).mono ?_
  rintro e w1 ⟨rfl, hb1⟩
  have B1 := Lib.hid ((HB.out _ _ _).trans (hb1.mono (by simp; omega)))
  have R1 := Lib.hid (blk_below HN.out.2.1 hb1 (by simp))
  have V1 := Lib.hid (blk_below HN.out.2.2 hb1 (by simp))
  clear hb1
  obtain ⟨W, hW⟩ : ∃ W, W = w1.alloc (.cells #[.int .i64 7, .slice p1 n1 m1, .slice p2 n2 m2, .slice p3 su.length m3] 121) := ⟨_, rfl⟩
  have hbW : Below w1.heap.size w1 W := by rw [hW]; exact below_alloc _ _
  have vz1 := (blk4 V1.out).2.2.2.2.2.2.2.2
  have X1 := Lib.hid (blk_below R1.out hbW (blk4 R1.out).2.2.2.2.2.2.2.2)
  have x2 := blk_below V1.out hbW vz1
  have HBW := Lib.hid (B1.out.trans (hbW.mono B1.out.size))
  have HWS : Hid (w.heap.size + 1 + 1 < W.heap.size) := by show _ < _; have := hbW.size; omega
  have HI0 : Hid (BlInv W W (w.heap.size + 1 + 1) 7 su 0 none 0 [] []) := ⟨x2, World.ownsRow_nil _ _ _ _, by simp [blanks, OwnVas], by simp [blkOf], Only.refl _ _, HWS.out⟩
  have HW := Lib.hid hW
  clear hbW vz1 x2 hW
  go_wp2_with fail
  rw [← HW.out]
  go_loopw [28] (fun i wr => ∃ (j : Nat) (p : Option Addr) (cap : Nat) (cs : List Value) (F : List Nat), j ≤ su.length ∧ i = .int .i64 j ∧ Hid (BlInv W wr (w.heap.size + 1 + 1) 7 su j p cap cs F)) (fun i _ => su.length - (intOf i).toNat)
  case atStart => exact ⟨0, none, 0, [], [], Nat.zero_le _, rfl, HI0.out⟩
  case round =>
    obtain ⟨j, p, cap, cs, F, hj, rfl, HI⟩ := hrel
    obtain ⟨i1, _, _, _, i5, _⟩ := HI.out
    have HR := Lib.hid (show wr.heap[w.heap.size + 1]? = _ from (i5.block _ (by have := HWS.out; omega) (by intro h; have := List.mem_singleton.1 h; omega)).trans X1.out)
    have HV := Lib.hid i1
    have HBr : Hid (Below w.heap.size w wr) := HBW.out.trans (i5.below (by have := HWS.out; omega) (by simp; omega))
    clear i1 i5
    obtain ⟨b0, b1, b2, b3, f0, f1, f2, f3, bz⟩ := blk4 HV.out
    by_cases hlt : j < su.length
    · obtain ⟨b, off, rfl, c0, c1, c2, c3, s0, s1, s2, s3, s4⟩ := IsShs.at H3.out hlt
      have hKp := Keeps.of_below HBr.out
      have k0 := hKp _ _ _ s0
      have k1 := hKp _ _ _ s1
      have k2 := hKp _ _ _ s2
      have k3 := hKp _ _ _ s3
      obtain ⟨q1, i1, y1, q2, i2, y2, q3, i3, y3, rfl, rfl, rfl, rfl⟩ := s4.cells
      obtain ⟨W1, hW1⟩ : ∃ W1, W1 = wr.alloc (.cells #[.int .i64 su[j].kd, .slice q1 i1 y1, .slice q2 i2 y2, .slice q3 i3 y3] 26) := ⟨_, rfl⟩
      have hba : Below wr.heap.size wr W1 := by rw [hW1]; exact below_alloc _ _
      have hnw : W1.heap[wr.heap.size]? = some (.cells #[.int .i64 su[j].kd, .slice q1 i1 y1, .slice q2 i2 y2, .slice q3 i3 y3] 26 (0, 0)) := by rw [hW1]; exact Go.Deep.blk_alloc_new _ _
      have HI1 : Hid (BlInv W W1 (w.heap.size + 1 + 1) 7 su j p cap cs F) := by rw [hW1]; exact HI.out.alloc _
      have K4 := Lib.hid (IsSh.keep (Keeps.of_below hba) _ _ (IsSh.keep hKp _ _ s4))
      have HPj := Lib.hid (List.all_eq_true.1 HP.out su[j] (List.getElem_mem hlt))
      have HV1 := Lib.hid HI1.out.1
      have HNW := Lib.hid hnw
      have HW1 := Lib.hid hW1
      clear s0 s1 s2 s3 s4 hKp hba hnw hW1
      go_wp2_with fail
      rw [← HW1.out]
      clear k0 k1 k2 k3 b0 b1 b2 b3 f0 f1 f2 f3 bz
      obtain ⟨b0, b1, b2, b3, f0, f1, f2, f3, bz⟩ := blk4 HV1.out
      obtain ⟨n0, n1', n2', n3, _, _, _, _, nz⟩ := blk4 HNW.out
      go_region_law (first
        | (go_simp; go_at_call 87; refine (IH.out su[j] _ _ HPj.out (IsSh.keep keeps_drew _ _ K4.out)).mono ?_; rintro e w1 ⟨c0, c1, c2, c3, F1, rfl, ho1, hn1, hb1⟩; obtain ⟨r3, z3, rfl, rfl, rfl, rfl⟩ := (OwnVa.is _ _ _ ho1).cells; have HO1 := Lib.hid ho1; have HN1 := Lib.hid hn1; have HB1 := Lib.hid (show Below W1.heap.size W1 w1 from (Below.refl _ W1).drew.trans hb1); obtain ⟨_, _, _, _, _, _, _, _, _⟩ := blk4 (blk_below (w := W1) HV1.out HB1.out bz); clear ho1 hn1 hb1)
        | (refine step_val w1 rfl _ _ rfl W.heap.size p j cap cs _ _ _ _ _ _ rfl (own_block HI1.out.2.1 fun q hq => HB1.out.block q (blkOf_own HI1.out.2.1 q hq).2) rfl (by omega) (Nat.le_trans HI1.out.2.2.2.2.1.size HB1.out.size) ?_; intro p' cap' w2 ho2 hy2 hp2; have HO2 := Lib.hid ho2; have HY2 := Lib.hid hy2; have HP2 := Lib.hid hp2; have hv2 := blk_below (w := W1) HV1.out HB1.out bz; rw [← hy2.block _ (Array.getElem?_eq_some_iff.1 hv2).1 (fun hx => by have := blkOf_own HI1.out.2.1 _ hx; have := HI1.out.2.2.2.2.2; omega)] at hv2; obtain ⟨_, _, _, _, _, _, _, _, _⟩ := blk4 hv2; clear ho2 hy2 hp2 hv2))
      all_goals
        have HI2 := Lib.hid (bl_step HI1.out hlt HO1.out HN1.out HB1.out HO2.out HY2.out HP2.out)
        clear b0 b1 b2 b3 f0 f1 f2 f3 bz n0 n1' n2' n3 nz
        go_wp2_with fail
        go_roundw
        case rel => exact ⟨j + 1, p', cap', _, _, hlt, by go_num, HI2.out⟩
        case measure => simp [intOf]; omega
    · obtain rfl : j = su.length := by omega
      obtain ⟨r0, r1, r2, r3, e0, e1, e2, e3, rz⟩ := blk4 HR.out
      go_wp2_with fail
      refine bodyPost_ret (v := .agg #[.int .i64 7, .int .i64 0, .string ⟨#[]⟩, .slice p su.length cap]) (by simp [results, Tryz.results87, go_sem, *]) rfl ?_
      exact rec_post 7 (by unfold InI64'; omega) HI.out HBr.out (by have := HWS.out; omega)

/-- impl.blankRight. -/
theorem bi_any (d : Nat) (hd : d ≤ 5) : BiAt d := by
  induction d with
  | zero =>
    intro t v w hp
    simp [partOk] at hp
  | succ d ih =>
    intro t v w hp h
    have ih' := ih (by omega)
    cases t with | mk k sy na su =>
    obtain ⟨p1, m1, p2, m2, p3, m3, rfl, _, h1, h2, h3⟩ := h.open
    simp only [partOk, Bool.and_eq_true] at hp
    rcases sound_cases hp.1 with ⟨hk, _⟩ | ⟨rfl, h0, _, hw, _⟩ | ⟨hk, _⟩ | ⟨rfl, _, h6, _, hn⟩
    · rw [show blankB (.mk k sy na su) = .mk k 0 ⟨#[]⟩ [] from by rcases hk with rfl | rfl | rfl <;> rfl]
      rcases hk with rfl | rfl | rfl
      · exact bi_bare 115 (by decide) (by decide) 1 (by unfold InI64'; omega) _ _ _ _ _ _ _ _ _ w (kindOf_flag _ _ _ _ _ _ _ _ _)
      · exact bi_bare 116 (by decide) (by decide) 2 (by unfold InI64'; omega) _ _ _ _ _ _ _ _ _ w (kindOf_num _ _ _ _ _ _ _ _ _)
      · exact bi_bare 117 (by decide) (by decide) 3 (by unfold InI64'; omega) _ _ _ _ _ _ _ _ _ w (kindOf_text _ _ _ _ _ _ _ _ _)
    · rw [show blankB (.mk 4 sy na su) = .mk 4 0 (sy.headD ⟨#[]⟩) [] from rfl]
      exact bi_pick _ _ _ _ _ _ _ _ sy w h1 h0 (words_size hw)
    · rw [show blankB (.mk k sy na su) = .mk k 0 ⟨#[]⟩ [] from by rcases hk with rfl | rfl <;> rfl]
      rcases hk with rfl | rfl
      · exact bi_bare 119 (by decide) (by decide) 5 (by unfold InI64'; omega) _ _ _ _ _ _ _ _ _ w (kindOf_maybe _ _ _ _ _ _ _ _ _)
      · exact bi_bare 120 (by decide) (by decide) 6 (by unfold InI64'; omega) _ _ _ _ _ _ _ _ _ w (kindOf_list _ _ _ _ _ _ _ _ _)
    · rw [show blankB (.mk 7 sy na su) = .mk 7 0 ⟨#[]⟩ (blanks su) from rfl]
      exact bi_rec d ih' _ _ _ _ _ _ _ _ su w hp.2 h3 (by omega)

end Go.Proofs.YtnnjhcjalmdmcaaGreat
