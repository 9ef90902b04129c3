/- Walks: spec.l03Blank, spec.Blank. -/
import Derived.Test.YtnnjhcjalmdmcaaGreatGBlankP
import Derived.Deep.RegionWith
namespace Go.Proofs.YtnnjhcjalmdmcaaGreat
open Go.RowKit

/-- spec.l03Blank's contract at the right shapes of so many levels. -/
def BsAt (d : Nat) : Prop := ∀ (t : Sh) (v : Value) (w : World), partOk d t = true → IsSh w t v → Calls Tryz.prog 72 #[v] w (ToVPost (blankB t) w)

/-- What a call that makes one Val leaves: without parts. -/
theorem bare_post (w W : World) (k : Int) (t : ByteArray) (hk : InI64' k) (ht : t.size ≤ 9223372036854775807) (hb : Below w.heap.size w W) : ToVPost (.mk k 0 t []) w (.returned (.agg #[.int .i64 k, .int .i64 0, .string t, .slice none 0 0])) W := by
  refine ⟨_, _, _, _, [], rfl, ?_, List.nodup_nil, hb⟩
  simp only [OwnVa]
  exact ⟨_, [], [], rfl, hk, by unfold InI64'; omega, ht, World.ownsRow_nil _ _ _ _, ⟨rfl, rfl⟩, rfl⟩

set_option maxRecDepth 100000 in
set_option maxHeartbeats 1000000 in
theorem bs_bare (k : Int) (hk : k = 1 ∨ k = 2 ∨ k = 3 ∨ k = 5 ∨ k = 6) (p1 p2 p3 : Option Addr) (n1 n2 n3 m1 m2 m3 : Nat) (w : World) :
    Calls Tryz.prog 72 #[.agg #[.int .i64 k, .slice p1 n1 m1, .slice p2 n2 m2, .slice p3 n3 m3]] w (ToVPost (.mk k 0 ⟨#[]⟩ []) w) := by
  rcases hk with rfl | rfl | rfl | rfl | rfl
  all_goals
    go_enter Tryz.func72, Tryz.ntmps72
    go_wp2_with fail
    refine bodyPost_ret (v := .agg #[.int .i64 _, .int .i64 0, .string ⟨#[]⟩, .slice none 0 0]) (by simp [results, Tryz.results72, go_sem]) rfl (bare_post _ _ _ _ (by unfold InI64'; omega) (by decide) ?_)
    exact ((below_alloc w _).alloc (by simp) _).alloc (by simp; omega) _

set_option maxRecDepth 100000 in
set_option maxHeartbeats 1000000 in
theorem bs_pick (p1 p2 p3 : Option Addr) (n2 n3 m1 m2 m3 : Nat) (sy : List ByteArray) (w : World) (h : IsStrs w (.slice p1 sy.length m1) sy) (h0 : 0 < sy.length) :
    Calls Tryz.prog 72 #[.agg #[.int .i64 4, .slice p1 sy.length m1, .slice p2 n2 m2, .slice p3 n3 m3]] w (ToVPost (.mk 4 0 (sy.headD ⟨#[]⟩) []) w) := by
  obtain ⟨hh1, hh2, a, cap, he, _, hc4, h6⟩ := h
  simp only [Value.slice.injEq] at he
  obtain ⟨rfl, _, rfl⟩ := he
  obtain ⟨b, off, rfl, hc⟩ := IsStrs.at h6 h0
  obtain ⟨s, hs⟩ : ∃ s, s = sy.headD ⟨#[]⟩ := ⟨_, rfl⟩
  have hs0 : sy[0] = s := by rw [hs]; cases sy with | nil => simp at h0 | cons a l => rfl
  rw [hs0, Nat.add_zero] at hc
  rw [← hs]
  have hsz : s.size ≤ 9223372036854775807 := by rw [← hs0]; exact hh2 _ (List.getElem_mem h0)
  have HZ := Lib.hid hsz
  obtain ⟨W, hW⟩ : ∃ W, W = (((w.alloc (.cells #[.int .i64 4, .slice (some ⟨b, off, none⟩) sy.length m1, .slice p2 n2 m2, .slice p3 n3 m3] 26)).alloc (.cells #[.int .i64 0, .int .i64 0, .string ⟨#[]⟩, .slice none 0 0] 29)).alloc (.cells #[.int .i64 4, .int .i64 0, .string ⟨#[]⟩, .slice none 0 0] 29)) := ⟨_, rfl⟩
  obtain ⟨x0, x1, x2⟩ := three_new w (.cells #[.int .i64 4, .slice (some ⟨b, off, none⟩) sy.length m1, .slice p2 n2 m2, .slice p3 n3 m3] 26) (.cells #[.int .i64 0, .int .i64 0, .string ⟨#[]⟩, .slice none 0 0] 29) (.cells #[.int .i64 4, .int .i64 0, .string ⟨#[]⟩, .slice none 0 0] 29)
  have hb : Below w.heap.size w W := by rw [hW]; exact ((below_alloc w _).alloc (by simp) _).alloc (by simp; omega) _
  rw [← hW] at x0 x1 x2
  have hcW := Keeps.of_below hb _ _ _ hc
  rw [hW] at hcW
  have hbz : b < w.heap.size := World.block_lt_of_cell? w ⟨b, off, none⟩ hc
  have HW := Lib.hid hW
  have HB := Lib.hid hb
  clear hs hs0 h6 hc hsz hh2 hW hb
  go_enter Tryz.func72, Tryz.ntmps72
  go_wp2_with fail
  refine bodyPost_ret (v := .agg #[.int .i64 4, .int .i64 0, .string s, .slice none 0 0]) (by simp [results, Tryz.results72, go_sem]) rfl (bare_post _ _ _ _ (by unfold InI64'; omega) HZ.out ?_)
  exact ((below_alloc w _).alloc (by simp) _).alloc (by simp; omega) _

/-- .. with parts: at the end the Val is put into the result's block. -/
theorem rec_post {w W wr : World} {su : List Sh} {p : Option Addr} {cap gv : Nat} {cs : List Value} {F : List Nat} (k : Int) (hk : InI64' k) (hI : BlInv W wr gv k su su.length p cap cs F) (hb : Below w.heap.size w wr) (hW : w.heap.size + 1 < W.heap.size) {c0 c1 c2 c3 : Value} :
    ToVPost (.mk k 0 ⟨#[]⟩ (blanks su)) w (.returned (.agg #[.int .i64 k, .int .i64 0, .string ⟨#[]⟩, .slice p su.length cap]))
      ((((wr.setCell ⟨w.heap.size + 1, 0, none⟩ c0).setCell ⟨w.heap.size + 1, 1, none⟩ c1).setCell ⟨w.heap.size + 1, 2, none⟩ c2).setCell ⟨w.heap.size + 1, 3, none⟩ c3) := by
  obtain ⟨h1, h2, h3, h4, h5, h6⟩ := hI
  rw [List.take_length] at h3
  have lr := blkOf_own h2
  have lF := h3.lt
  have e : ∀ q, q ≠ w.heap.size + 1 → ((((wr.setCell ⟨w.heap.size + 1, 0, none⟩ c0).setCell ⟨w.heap.size + 1, 1, none⟩ c1).setCell ⟨w.heap.size + 1, 2, none⟩ c2).setCell ⟨w.heap.size + 1, 3, none⟩ c3).heap[q]? = wr.heap[q]? := fun q hq => by
    rw [Below.heap_setCell _ _ _ _ hq, Below.heap_setCell _ _ _ _ hq, Below.heap_setCell _ _ _ _ hq, Below.heap_setCell _ _ _ _ hq]
  refine ⟨_, _, _, _, _, rfl, ?_, h4, set4_below hb (by omega) _ _ _ _⟩
  simp only [OwnVa]
  refine ⟨_, cs, F, rfl, hk, by unfold InI64'; omega, by decide, ?_, h3.move (by omega) fun q hq => e q (by have := lF q hq; omega), rfl⟩
  rw [blanks_len]
  exact own_mono (own_block h2 fun q hq => e q (by have := lr q hq; omega)) (by omega)

set_option maxRecDepth 100000 in
set_option maxHeartbeats 2000000 in
theorem bs_rec (d : Nat) (ih : BsAt d) (p1 p2 p3 : Option Addr) (n1 n2 m1 m2 m3 : Nat) (su : List Sh) (w : World) (hp : su.all (partOk d) = true) (h3 : IsShs w (.slice p3 su.length m3) su) (h6 : su.length ≤ 6) :
    Calls Tryz.prog 72 #[.agg #[.int .i64 7, .slice p1 n1 m1, .slice p2 n2 m2, .slice p3 su.length m3]] w (ToVPost (.mk 7 0 ⟨#[]⟩ (blanks su)) w) := by
  obtain ⟨a3, cap3, e3, _, hc3, g3⟩ := h3
  simp only [Value.slice.injEq] at e3
  obtain ⟨rfl, _, rfl⟩ := e3
  obtain ⟨W, hW⟩ : ∃ W, W = (((w.alloc (.cells #[.int .i64 7, .slice p1 n1 m1, .slice p2 n2 m2, .slice p3 su.length m3] 26)).alloc (.cells #[.int .i64 0, .int .i64 0, .string ⟨#[]⟩, .slice none 0 0] 29)).alloc (.cells #[.int .i64 7, .int .i64 0, .string ⟨#[]⟩, .slice none 0 0] 29)) := ⟨_, rfl⟩
  obtain ⟨x0, x1, x2⟩ := three_new w (.cells #[.int .i64 7, .slice p1 n1 m1, .slice p2 n2 m2, .slice p3 su.length m3] 26) (.cells #[.int .i64 0, .int .i64 0, .string ⟨#[]⟩, .slice none 0 0] 29) (.cells #[.int .i64 7, .int .i64 0, .string ⟨#[]⟩, .slice none 0 0] 29)
  have hb : Below w.heap.size w W := by rw [hW]; exact ((below_alloc w _).alloc (by simp) _).alloc (by simp; omega) _
  have hWs : W.heap.size = w.heap.size + 1 + 1 + 1 := by rw [hW]; simp
  rw [← hW] at x0 x1 x2
  have X0 := Lib.hid x0
  have X1 := Lib.hid x1
  have H3 := Lib.hid g3
  have HP := Lib.hid hp
  have IH := Lib.hid ih
  have HB := Lib.hid hb
  have HW := Lib.hid hW
  have HWS := Lib.hid hWs
  have HI0 : Hid (BlInv W W (w.heap.size + 1 + 1) 7 su 0 none 0 [] []) := ⟨x2, World.ownsRow_nil _ _ _ _, by simp [blanks, OwnVas], by simp [blkOf], Only.refl _ _, by rw [hWs]; omega⟩
  clear g3 hp ih hb x0 x1 x2 hW hWs
  go_enter Tryz.func72, Tryz.ntmps72
  go_wp2_with fail
  rw [← HW.out]
  go_loopw [4] (fun i wr => ∃ (j : Nat) (p : Option Addr) (cap : Nat) (cs : List Value) (F : List Nat), j ≤ su.length ∧ i = .int .i64 j ∧ Hid (BlInv W wr (w.heap.size + 1 + 1) 7 su j p cap cs F)) (fun i _ => su.length - (intOf i).toNat)
  case atStart => exact ⟨0, none, 0, [], [], Nat.zero_le _, rfl, HI0.out⟩
  case round =>
    obtain ⟨j, p, cap, cs, F, hj, rfl, HI⟩ := hrel
    obtain ⟨i1, _, _, _, i5, _⟩ := HI.out
    have HS := Lib.hid (show wr.heap[w.heap.size]? = _ from (i5.block _ (by have := HWS.out; omega) (by intro h; have := List.mem_singleton.1 h; omega)).trans X0.out)
    have HR := Lib.hid (show wr.heap[w.heap.size + 1]? = _ from (i5.block _ (by have := HWS.out; omega) (by intro h; have := List.mem_singleton.1 h; omega)).trans X1.out)
    have HV := Lib.hid i1
    have HBr : Hid (Below w.heap.size w wr) := HB.out.trans (i5.below (by have := HWS.out; omega) (by simp; omega))
    clear i1 i5
    obtain ⟨a0, a1, a2, a3, _, _, _, _, az⟩ := blk4 HS.out
    obtain ⟨b0, b1, b2, b3, f0, f1, f2, f3, bz⟩ := blk4 HV.out
    by_cases hlt : j < su.length
    · obtain ⟨b, off, rfl, c0, c1, c2, c3, s0, s1, s2, s3, s4⟩ := IsShs.at H3.out hlt
      have hKp := Keeps.of_below HBr.out
      have k0 := hKp _ _ _ s0
      have k1 := hKp _ _ _ s1
      have k2 := hKp _ _ _ s2
      have k3 := hKp _ _ _ s3
      have K4 := Lib.hid (IsSh.keep hKp _ _ s4)
      obtain ⟨q1, i1, y1, q2, i2, y2, q3, i3, y3, rfl, rfl, rfl, rfl⟩ := s4.cells
      have HPj := Lib.hid (List.all_eq_true.1 HP.out su[j] (List.getElem_mem hlt))
      clear s0 s1 s2 s3 s4 hKp
      go_wp2_with fail
      go_region_law (first
        | (go_simp; go_at_call 72; refine (IH.out su[j] _ _ HPj.out (IsSh.keep keeps_drew _ _ K4.out)).mono ?_; rintro e w1 ⟨c0, c1, c2, c3, F1, rfl, ho1, hn1, hb1⟩; obtain ⟨r3, z3, rfl, rfl, rfl, rfl⟩ := (OwnVa.is _ _ _ ho1).cells; have HO1 := Lib.hid ho1; have HN1 := Lib.hid hn1; have HB1 := Lib.hid (show Below wr.heap.size wr w1 from (Below.refl _ wr).drew.trans hb1); obtain ⟨_, _, _, _, _, _, _, _, _⟩ := blk4 (blk_below (w := wr) HV.out HB1.out bz); obtain ⟨_, _, _, _, _, _, _, _, _⟩ := blk4 (blk_below (w := wr) HS.out HB1.out az); clear ho1 hn1 hb1)
        | (refine step_val w1 rfl _ _ rfl W.heap.size p j cap cs _ _ _ _ _ _ rfl (own_block HI.out.2.1 fun q hq => HB1.out.block q (blkOf_own HI.out.2.1 q hq).2) rfl (by omega) (Nat.le_trans HI.out.2.2.2.2.1.size HB1.out.size) ?_; intro p' cap' w2 ho2 hy2 hp2; have HO2 := Lib.hid ho2; have HY2 := Lib.hid hy2; have HP2 := Lib.hid hp2; have hv2 := blk_below (w := wr) HV.out HB1.out bz; rw [← hy2.block _ (Array.getElem?_eq_some_iff.1 hv2).1 (fun hx => by have := blkOf_own HI.out.2.1 _ hx; have := HI.out.2.2.2.2.2; omega)] at hv2; obtain ⟨_, _, _, _, _, _, _, _, _⟩ := blk4 hv2; clear ho2 hy2 hp2 hv2))
      all_goals
        have HI2 := Lib.hid (bl_step HI.out hlt HO1.out HN1.out HB1.out HO2.out HY2.out HP2.out)
        clear k0 k1 k2 k3 a0 a1 a2 a3 az b0 b1 b2 b3 f0 f1 f2 f3 bz
        go_wp2_with fail
        go_roundw
        case rel => exact ⟨j + 1, p', cap', _, _, hlt, by go_num, HI2.out⟩
        case measure => simp [intOf]; omega
    · obtain rfl : j = su.length := by omega
      obtain ⟨r0, r1, r2, r3, e0, e1, e2, e3, rz⟩ := blk4 HR.out
      go_wp2_with fail
      refine bodyPost_ret (v := .agg #[.int .i64 7, .int .i64 0, .string ⟨#[]⟩, .slice p su.length cap]) (by simp [results, Tryz.results72, go_sem, *]) rfl ?_
      exact rec_post 7 (by unfold InI64'; omega) HI.out HBr.out (by have := HWS.out; omega)

/-- spec.l03Blank. -/
theorem bs_any (d : Nat) (hd : d ≤ 5) : BsAt d := by
  induction d with
  | zero =>
    intro t v w hp
    simp [partOk] at hp
  | succ d ih =>
    intro t v w hp h
    have ih' := ih (by omega)
    cases t with | mk k sy na su =>
    obtain ⟨p1, m1, p2, m2, p3, m3, rfl, _, h1, h2, h3⟩ := h.open
    simp only [partOk, Bool.and_eq_true] at hp
    rcases sound_cases hp.1 with ⟨hk, _⟩ | ⟨rfl, h0, _⟩ | ⟨hk, _⟩ | ⟨rfl, _, h6, _, hn⟩
    · rw [show blankB (.mk k sy na su) = .mk k 0 ⟨#[]⟩ [] from by rcases hk with rfl | rfl | rfl <;> rfl]
      exact bs_bare k (by omega) _ _ _ _ _ _ _ _ _ w
    · rw [show blankB (.mk 4 sy na su) = .mk 4 0 (sy.headD ⟨#[]⟩) [] from rfl]
      exact bs_pick _ _ _ _ _ _ _ _ sy w h1 h0
    · rw [show blankB (.mk k sy na su) = .mk k 0 ⟨#[]⟩ [] from by rcases hk with rfl | rfl <;> rfl]
      exact bs_bare k (by omega) _ _ _ _ _ _ _ _ _ w
    · rw [show blankB (.mk 7 sy na su) = .mk 7 0 ⟨#[]⟩ (blanks su) from rfl]
      exact bs_rec d ih' _ _ _ _ _ _ _ _ su w hp.2 h3 (by omega)

/-- What Blank tells. -/
def blankOf (t : Sh) : Va := if rightB t = true then blankB t else .mk 0 0 ⟨#[]⟩ []

/-- The Val of a call, put into the block of the result. -/
theorem put_post {w w1 w2 : World} {x : Va} {c0 c1 c2 c3 d0 d1 d2 d3 : Value} {F : List Nat} (ho : OwnVa w2 w1.heap.size x (.agg #[c0, c1, c2, c3]) F) (hn : F.Nodup) (hb : Below w.heap.size w w2) (h1 : w.heap.size + 1 < w1.heap.size) :
    ToVPost x w (.returned (.agg #[c0, c1, c2, c3])) ((((w2.setCell ⟨w.heap.size + 1, 0, none⟩ d0).setCell ⟨w.heap.size + 1, 1, none⟩ d1).setCell ⟨w.heap.size + 1, 2, none⟩ d2).setCell ⟨w.heap.size + 1, 3, none⟩ d3) :=
  ⟨c0, c1, c2, c3, F, rfl, OwnVa.move (by omega) _ _ _ (fun q hq => by
    have := OwnVa.blocks _ _ _ ho q hq
    have hne : q ≠ w.heap.size + 1 := by omega
    rw [Below.heap_setCell _ _ _ _ hne, Below.heap_setCell _ _ _ _ hne, Below.heap_setCell _ _ _ _ hne, Below.heap_setCell _ _ _ _ hne]) ho, hn, set4_below hb (by omega) _ _ _ _⟩

end Go.Proofs.YtnnjhcjalmdmcaaGreat
