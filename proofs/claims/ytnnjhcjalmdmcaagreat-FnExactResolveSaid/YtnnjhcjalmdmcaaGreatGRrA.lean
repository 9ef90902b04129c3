/- Walks: the closures that resolve without another one. · Walks: impl.collected. -/
import Derived.Test.YtnnjhcjalmdmcaaGreatGRdaP
import Derived.Test.YtnnjhcjalmdmcaaGreatGBlank2W
import Derived.Deep.RegionHeld3
import Derived.Maps.AppendAt
import Derived.OwnWalk
namespace Go.Proofs.YtnnjhcjalmdmcaaGreat
open Go.RowKit

set_option maxRecDepth 100000 in
set_option maxHeartbeats 1000000 in
theorem withoutItems_any (u : Va) (v : Value) (w : World) (h : IsVa w u v) (h8 : u.tx.size ≤ 8000) : Calls Tryz.prog 90 #[v] w (ToVPost (.mk u.kd u.nn u.tx []) w) := by
  have HI : Hid (InI64' u.kd ∧ InI64' u.nn ∧ u.tx.size ≤ 9223372036854775807) := by cases u with | mk k n t it => exact fields_in h
  obtain ⟨p, m, rfl⟩ := h.agg
  have H8 := Lib.hid h8
  have HN := two_new w (.cells #[.int .i64 u.kd, .int .i64 u.nn, .string u.tx, .slice p u.it.length m] 29) (.cells #[.int .i64 0, .int .i64 0, .string ⟨#[]⟩, .slice none 0 0] 29)
  obtain ⟨W, hW⟩ : ∃ W, W = (w.alloc (.cells #[.int .i64 u.kd, .int .i64 u.nn, .string u.tx, .slice p u.it.length m] 29)).alloc (.cells #[.int .i64 0, .int .i64 0, .string ⟨#[]⟩, .slice none 0 0] 29) := ⟨_, rfl⟩
  have hbw : Below w.heap.size w W := by rw [hW]; exact (below_alloc w _).alloc (by simp) _
  have hz : W.heap.size = w.heap.size + 1 + 1 := by rw [hW]; simp
  rw [← hW] at HN
  obtain ⟨x0, x1, x2, x3, _, _, _, _, xz⟩ := blk4 HN.1
  have N2 := Lib.hid HN.2
  have HZ := Lib.hid hz
  have BW := Lib.hid hbw
  have HW := Lib.hid hW
  have HSK : Hid (∀ w', Below (w.heap.size + 1) W w' → (w'.cell? ⟨w.heap.size, 0, none⟩ = some (.int .i64 u.kd) ∧ w'.cell? ⟨w.heap.size, 1, none⟩ = some (.int .i64 u.nn) ∧ w'.cell? ⟨w.heap.size, 2, none⟩ = some (.string u.tx))) := fun w' hb => by
    have k : ∀ b o c, b < w.heap.size + 1 → W.cell? ⟨b, o, none⟩ = some c → w'.cell? ⟨b, o, none⟩ = some c := fun b o c hlt hc => by rw [hb.cell (p := ⟨b, o, none⟩) hlt]; exact hc
    exact ⟨k _ _ _ (by omega) x0, k _ _ _ (by omega) x1, k _ _ _ (by omega) x2⟩
  clear HN hbw hz hW h h8 x0 x1 x2 x3 xz
  go_enter Tryz.func90, Tryz.ntmps90
  go_upto_region 1 with fail
  rw [← HW.out]
  go_region_held3 (fun w' => w'.cell? ⟨w.heap.size, 0, none⟩ = some (.int .i64 u.kd) ∧ w'.cell? ⟨w.heap.size, 1, none⟩ = some (.int .i64 u.nn) ∧ w'.cell? ⟨w.heap.size, 2, none⟩ = some (.string u.tx))
    (first
      | exact HSK.out _ (Below.refl _ W).drew
      | exact HSK.out _ BB1.out
      | exact HSK.out _ (putQ_below BB1.out (Nat.le_refl _) _ _ _ _))
    (first
      | (go_at_call 92; refine (clone_any u.tx W.drew (by have := H8.out; omega)).mono ?_; rintro e w1 ⟨rfl, hb1⟩; have B1 := Lib.hid (show Below W.heap.size W w1 from (Below.refl _ W).drew.trans hb1); have BB1 := Lib.hid (B1.out.mono (show w.heap.size + 1 ≤ W.heap.size by have := HZ.out; omega)); obtain ⟨_, _, _, _, _, _, _, _, _⟩ := blk4 (blk_below (w := W) N2.out B1.out (by have := HZ.out; omega)); clear hb1)
      | fail)
  all_goals
    obtain ⟨r0, r1, r2, r3, _, _, _, _, rz⟩ := blk4 (blk_below (w := W) N2.out B1.out (by have := HZ.out; omega))
    go_wp2_with fail
    refine bodyPost_ret (v := .agg #[.int .i64 u.kd, .int .i64 u.nn, .string u.tx, .slice none 0 0]) (by simp [results, Tryz.results90, go_sem, r0, r1, r2, r3]) rfl ?_
    exact va_end (BW.out.trans (B1.out.mono BW.out.size)) (by omega) (own_leaf HI.out.1 HI.out.2.1 HI.out.2.2) (by simp) List.nodup_nil

set_option maxRecDepth 100000 in
set_option maxHeartbeats 1000000 in
theorem other1_any (u : Va) (v : Value) (w : World) (h : IsVa w u v) : Calls Tryz.prog 85 #[v] w (RdPost (zva, 10) w) := by
  obtain ⟨p, m, rfl⟩ := h.agg
  clear h
  go_enter Tryz.func85, Tryz.ntmps85
  go_wp2_with fail
  refine bodyPost_ret (v := .agg #[.int .i64 0, .int .i64 0, .string ⟨#[]⟩, .slice none 0 0, .int .i64 10]) (by simp [results, Tryz.results85, go_sem]) rfl ?_
  exact rd_at (r := (zva, 10)) ((below_alloc w _).alloc (by simp) _) (own_zva _ _) List.nodup_nil

/-- The Val of a call, put into the block of the result, with a code behind it. -/
theorem rd_of_va {x : Va} {w W w1 : World} {b : Nat} {c0 c1 c2 c3 : Value} {F : List Nat} (hbw : Below w.heap.size w W) (hb : Below W.heap.size W w1) (h1 : w.heap.size ≤ b) (h2 : b < W.heap.size) (ho : OwnVa w1 W.heap.size x (.agg #[c0, c1, c2, c3]) F) (hn : F.Nodup) (c : Int) :
    RdPost (x, c) w (.returned (.agg #[c0, c1, c2, c3, .int .i64 c])) ((putQ w1 b c0 c1 c2 c3).setCell ⟨b, 4, none⟩ (.int .i64 c)) :=
  rd_end (r := (x, c)) (hbw.trans (hb.mono hbw.size)) h1 (OwnVa.move hbw.size _ _ _ (fun _ _ => rfl) ho) (fun g hg => by have := OwnVa.blocks _ _ _ ho g hg; omega) hn

set_option maxRecDepth 100000 in
set_option maxHeartbeats 1000000 in
theorem plain1_any (u : Va) (v : Value) (w : World) (h : IsVa w u v) (h8 : u.tx.size ≤ 8000) : Calls Tryz.prog 101 #[v] w (RdPost (.mk u.kd u.nn u.tx [], 0) w) := by
  have HH := Lib.hid h
  have H8 := Lib.hid h8
  obtain ⟨p, m, rfl⟩ := h.agg
  have HN := two_new w (.cells #[.int .i64 u.kd, .int .i64 u.nn, .string u.tx, .slice p u.it.length m] 29) (.cells #[.int .i64 0, .int .i64 0, .string ⟨#[]⟩, .slice none 0 0, .int .i64 0] 33)
  obtain ⟨W, hW⟩ : ∃ W, W = (w.alloc (.cells #[.int .i64 u.kd, .int .i64 u.nn, .string u.tx, .slice p u.it.length m] 29)).alloc (.cells #[.int .i64 0, .int .i64 0, .string ⟨#[]⟩, .slice none 0 0, .int .i64 0] 33) := ⟨_, rfl⟩
  have hbw : Below w.heap.size w W := by rw [hW]; exact (below_alloc w _).alloc (by simp) _
  have hz : W.heap.size = w.heap.size + 1 + 1 := by rw [hW]; simp
  rw [← hW] at HN
  obtain ⟨x0, x1, x2, x3, _, _, _, _, xz⟩ := blk4 HN.1
  have N2 := Lib.hid HN.2
  have HZ := Lib.hid hz
  have BW := Lib.hid hbw
  have HW := Lib.hid hW
  obtain ⟨x, hx⟩ : ∃ x, x = Va.mk u.kd u.nn u.tx [] := ⟨_, rfl⟩
  have HX := Lib.hid hx
  rw [← hx]
  clear HN hbw hz hW h h8 hx
  go_enter Tryz.func101, Tryz.ntmps101
  go_wp2_with fail
  rw [← HW.out]
  refine (withoutItems_any u _ W (IsVa.keep (Keeps.of_below BW.out) _ _ HH.out) H8.out).mono ?_
  rw [← HX.out]
  rintro e w1 ⟨c0, c1, c2, c3, F, rfl, ho1, hn1, hb1⟩
  obtain ⟨r3, z3, rfl, rfl, rfl, rfl⟩ := (OwnVa.is _ _ _ ho1).cells
  have HO := Lib.hid ho1
  have HNd := Lib.hid hn1
  have B1 := Lib.hid hb1
  obtain ⟨y0, y1, y2, y3, y4, _, _, _, _, _, yz⟩ := blk5 (blk_below N2.out hb1 (by have := HZ.out; omega))
  clear hb1 ho1 hn1 x0 x1 x2 x3 xz
  go_wp2_with fail
  refine bodyPost_ret (v := .agg #[.int .i64 x.kd, .int .i64 x.nn, .string x.tx, .slice r3 x.it.length z3, .int .i64 0]) (by simp [results, Tryz.results101, go_sem, y0, y1, y2, y3, y4]) rfl ?_
  exact rd_of_va BW.out B1.out (by omega) (by have := HZ.out; omega) HO.out HNd.out 0

set_option maxRecDepth 100000 in
set_option maxHeartbeats 1000000 in
theorem newField1_any (d : Nat) (hd : d ≤ 5) (s : Sh) (b : Nat) (c0 c1 c2 c3 : Value) (u : Va) (v : Value) (w : World) (hb : w.heap[b]? = some (.cells #[c0, c1, c2, c3] 26 (0, 0))) (hp : partOk d s = true) (hs : IsSh w s (.agg #[c0, c1, c2, c3])) (h : IsVa w u v) :
    Calls Tryz.prog 108 #[v, .pointer (some ⟨b, 0, none⟩)] w (RdPost (blankB s, 0) w) := by
  obtain ⟨p1, n1, m1, p2, n2, m2, p3, n3, m3, rfl, rfl, rfl, rfl⟩ := hs.cells
  obtain ⟨p, m, rfl⟩ := h.agg
  have HN := two_new w (.cells #[.int .i64 u.kd, .int .i64 u.nn, .string u.tx, .slice p u.it.length m] 29) (.cells #[.int .i64 0, .int .i64 0, .string ⟨#[]⟩, .slice none 0 0, .int .i64 0] 33)
  obtain ⟨W, hW⟩ : ∃ W, W = (w.alloc (.cells #[.int .i64 u.kd, .int .i64 u.nn, .string u.tx, .slice p u.it.length m] 29)).alloc (.cells #[.int .i64 0, .int .i64 0, .string ⟨#[]⟩, .slice none 0 0, .int .i64 0] 33) := ⟨_, rfl⟩
  have hbw : Below w.heap.size w W := by rw [hW]; exact (below_alloc w _).alloc (by simp) _
  have hz : W.heap.size = w.heap.size + 1 + 1 := by rw [hW]; simp
  rw [← hW] at HN
  obtain ⟨x0, x1, x2, x3, _, _, _, _, xz⟩ := blk4 hb
  have N2 := Lib.hid HN.2
  have HZ := Lib.hid hz
  have BW := Lib.hid hbw
  have HW := Lib.hid hW
  have HS := Lib.hid (IsSh.keep (Keeps.of_below hbw) _ _ hs)
  have HP := Lib.hid hp
  obtain ⟨x, hx⟩ : ∃ x, blankB s = x := ⟨_, rfl⟩
  have HX := Lib.hid hx
  rw [hx]
  clear HN hbw hz hW h hb hp hs hx
  go_enter Tryz.func108, Tryz.ntmps108
  go_wp2_with fail
  rw [← HW.out]
  refine (bi_any d hd s _ W HP.out HS.out).mono ?_
  rw [HX.out]
  rintro e w1 ⟨c0, c1, c2, c3, F, rfl, ho1, hn1, hb1⟩
  obtain ⟨r3, z3, rfl, rfl, rfl, rfl⟩ := (OwnVa.is _ _ _ ho1).cells
  have HO := Lib.hid ho1
  have HNd := Lib.hid hn1
  have B1 := Lib.hid hb1
  obtain ⟨y0, y1, y2, y3, y4, _, _, _, _, _, yz⟩ := blk5 (blk_below N2.out hb1 (by have := HZ.out; omega))
  clear hb1 ho1 hn1 x0 x1 x2 x3 xz
  go_wp2_with fail
  refine bodyPost_ret (v := .agg #[.int .i64 x.kd, .int .i64 x.nn, .string x.tx, .slice r3 x.it.length z3, .int .i64 0]) (by simp [results, Tryz.results108, go_sem, y0, y1, y2, y3, y4]) rfl ?_
  exact rd_of_va BW.out B1.out (by omega) (by have := HZ.out; omega) HO.out HNd.out 0

set_option maxRecDepth 100000 in
set_option maxHeartbeats 1000000 in
theorem pick1_any (kn : List ByteArray) (b : Nat) (vk : Value) (T : TypeId) (u : Va) (v : Value) (w : World) (hb : w.heap[b]? = some (.cells #[vk] T (0, 0))) (hk : IsStrs w vk kn) (h8 : ∀ s ∈ kn, s.size ≤ 8) (h : IsVa w u v) :
    Calls Tryz.prog 88 #[v, .pointer (some ⟨b, 0, none⟩)] w (RdPost (pickR kn u) w) := by
  have HH := Lib.hid h
  obtain ⟨p, m, rfl⟩ := h.agg
  obtain ⟨pk, nk, mk, rfl⟩ := hk.slice
  have HN := two_new w (.cells #[.int .i64 u.kd, .int .i64 u.nn, .string u.tx, .slice p u.it.length m] 29) (.cells #[.int .i64 0, .int .i64 0, .string ⟨#[]⟩, .slice none 0 0, .int .i64 0] 33)
  obtain ⟨W, hW⟩ : ∃ W, W = (w.alloc (.cells #[.int .i64 u.kd, .int .i64 u.nn, .string u.tx, .slice p u.it.length m] 29)).alloc (.cells #[.int .i64 0, .int .i64 0, .string ⟨#[]⟩, .slice none 0 0, .int .i64 0] 33) := ⟨_, rfl⟩
  have hbw : Below w.heap.size w W := by rw [hW]; exact (below_alloc w _).alloc (by simp) _
  have hz : W.heap.size = w.heap.size + 1 + 1 := by rw [hW]; simp
  rw [← hW] at HN
  obtain ⟨x0, _, xz⟩ := blk1r hb
  obtain ⟨y0, y1, y2, y3, _, _, _, _, yz⟩ := blk4 HN.1
  have N2 := Lib.hid HN.2
  have HZ := Lib.hid hz
  have BW := Lib.hid hbw
  have HW := Lib.hid hW
  have HK := Lib.hid (hk.keep (Keeps.of_below hbw))
  have H8 := Lib.hid h8
  clear hbw hz hW h hb hk h8
  cases hhas : hasB kn u.tx
  · have HP : Hid (pickR kn u = (zva, 8)) := by show _ = _; unfold pickR; rw [hhas]; rfl
    have HHs := Lib.hid hhas
    obtain ⟨y4, y5, y6, y7, y8, _, _, _, _, _, yzz⟩ := blk5 HN.2
    clear hhas HN
    go_enter Tryz.func88, Tryz.ntmps88
    go_wp2_with fail
    rw [← HW.out]
    refine (contains_is _ kn u.tx false HHs.out W HK.out).mono ?_
    rintro e w1 ⟨rfl, rfl⟩
    clear x0 xz
    go_wp2_with fail
    refine bodyPost_ret (v := .agg #[.int .i64 0, .int .i64 0, .string ⟨#[]⟩, .slice none 0 0, .int .i64 8]) (by simp [results, Tryz.results88, go_sem, y4, y5, y6, y7, y8]) rfl ?_
    rw [HP.out]
    exact rd_of_va BW.out (Below.refl _ _) (by omega) (by have := HZ.out; omega) (own_zva _ _) List.nodup_nil 8
  · have h8 : u.tx.size ≤ 8 := H8.out _ (hasB_true.1 hhas)
    have HT := Lib.hid h8
    have HHs := Lib.hid hhas
    obtain ⟨x, hx⟩ : ∃ x, x = Va.mk u.kd u.nn u.tx [] := ⟨_, rfl⟩
    have HX := Lib.hid hx
    have HP : Hid (pickR kn u = (x, 0)) := by show _ = _; unfold pickR; rw [hhas, hx]; rfl
    have N1 := Lib.hid HN.1
    clear hhas HN hx h8
    go_enter Tryz.func88, Tryz.ntmps88
    go_wp2_with fail
    rw [← HW.out]
    refine (contains_is _ kn u.tx true HHs.out W HK.out).mono ?_
    rintro e w1 ⟨rfl, rfl⟩
    clear x0 xz
    go_wp2_with fail
    refine (withoutItems_any u _ W (IsVa.keep (Keeps.of_below BW.out) _ _ HH.out) (by have := HT.out; omega)).mono ?_
    rw [← HX.out]
    rintro e w1 ⟨c0, c1, c2, c3, F, rfl, ho1, hn1, hb1⟩
    obtain ⟨r3, z3, rfl, rfl, rfl, rfl⟩ := (OwnVa.is _ _ _ ho1).cells
    have HO := Lib.hid ho1
    have HNd := Lib.hid hn1
    have B1 := Lib.hid hb1
    obtain ⟨y4, y5, y6, y7, y8, _, _, _, _, _, yzz⟩ := blk5 (blk_below N2.out hb1 (by have := HZ.out; omega))
    clear hb1 ho1 hn1 y0 y1 y2 y3 yz
    go_wp2_with fail
    refine bodyPost_ret (v := .agg #[.int .i64 x.kd, .int .i64 x.nn, .string x.tx, .slice r3 x.it.length z3, .int .i64 0]) (by simp [results, Tryz.results88, go_sem, y4, y5, y6, y7, y8]) rfl ?_
    rw [HP.out]
    exact rd_of_va BW.out B1.out (by omega) (by have := HZ.out; omega) HO.out HNd.out 0
end Go.Proofs.YtnnjhcjalmdmcaaGreat
namespace Go.Proofs.YtnnjhcjalmdmcaaGreat
open Go.RowKit

/-- append(row, Val), the Val in a new block: where the row lies. -/
theorem wpList_vaR {ops : Array Oper} {rest : List Oper} {o : Oper} {a : Act} {Q : Exit → Act → World → Prop} (W : World) (hgd : o.guard = none) (s x : Operand)
    (ho : o.op = .call { callee := .builtin .append, args := #[s, x], argTypes := #[27, 27] })
    (B : Nat) (p : Option Addr) (n cap : Nat) (xs : List Value) (k nn : Int) (t : ByteArray) (p3 : Option Addr) (n3 m3 : Nat) (hs : a.eval s = .slice p n cap) (hown : W.ownsRow B 29 4 (.slice p n cap) n xs) (hx : a.eval x = .slice (some ⟨W.heap.size, 0, none⟩) 1 1)
    (hn : n ≤ 1000000) (hB : B ≤ W.heap.size)
    (h : ∀ p' cap' w', w'.ownsRow B 29 4 (.slice p' (n + 1) cap') (n + 1) (xs ++ [.int .i64 k, .int .i64 nn, .string t, .slice p3 n3 m3]) → Only (blkOf (.slice p n cap)) W w' → (∀ q ∈ blkOf (.slice p' (n + 1) cap'), q ∈ blkOf (.slice p n cap) ∨ W.heap.size ≤ q) → wpList Tryz.prog ops Q rest (a.put o.dst (.slice p' (n + 1) cap')) w') :
    wpList Tryz.prog ops Q (o :: rest) a (W.alloc (.cells #[.int .i64 k, .int .i64 nn, .string t, .slice p3 n3 m3] 29)) := by
  obtain ⟨i0, hi, hz0, hz1, hz2⟩ := info_parts info_val
  have hnew := Go.Deep.blk_alloc_new W (.cells #[.int .i64 k, .int .i64 nn, .string t, .slice p3 n3 m3] 29)
  have hba := below_alloc W (.cells #[.int .i64 k, .int .i64 nn, .string t, .slice p3 n3 m3] 29)
  have hown' : (W.alloc (.cells #[.int .i64 k, .int .i64 nn, .string t, .slice p3 n3 m3] 29)).ownsRow B 29 4 (.slice p n cap) n xs := own_block hown fun g hg => hba.block g (blkOf_own hown g hg).2
  refine wpList_append_own_at _ hgd s x _ ho B 29 i0 _ 4 56 Tryz.underlying27 hi hz0 hz1 hz2 rfl (by decide) _ n xs hs hown' ⟨W.heap.size, 0, none⟩ 1 1 [.int .i64 k, .int .i64 nn, .string t, .slice p3 n3 m3] hx rfl ?_ ?_ (by unfold maxLen; omega) (by omega) (by simp; omega) ?_
  · intro j u hj
    rw [show (⟨W.heap.size, 0, none⟩ : Addr).add j = ⟨W.heap.size, 0 + j, none⟩ from by unfold Addr.add; split <;> simp_all, Nat.zero_add]
    have : (W.alloc (.cells #[.int .i64 k, .int .i64 nn, .string t, .slice p3 n3 m3] 29)).cell? ⟨W.heap.size, j, none⟩ = [Value.int .i64 k, .int .i64 nn, .string t, .slice p3 n3 m3][j]? := by
      unfold World.cell?
      rw [hnew]
      simp
    rw [this, hj]
  · intro u hu
    simp only [List.mem_cons, List.not_mem_nil, or_false] at hu
    rcases hu with rfl | rfl | rfl | rfl <;> rfl
  · intro v' w' hv hg _ hat
    obtain ⟨p', cap', rfl⟩ := own_slice' hv
    refine h p' cap' w' hv ?_ fun q hq => ?_
    · refine ⟨hg.os, hg.tape, hg.output, Nat.le_trans hba.size hg.size, fun q hq hne => ?_⟩
      rw [hg.block q (Nat.lt_of_lt_of_le hq hba.size) fun e => hne ((ownBlock_blk hown q).1 e.symm)]
      exact hba.block q hq
    · have e := (ownBlock_blk hv q).2 hq
      rcases hat with ha | ha
      · rw [ha] at e; exact .inl ((ownBlock_blk hown q).1 e)
      · rw [ha] at e
        right
        have := Option.some.inj e
        simp at this; omega

/-- The Val of the row. -/
theorem rw_own {W wr : World} {gv : Nat} {k : Int} {its : List Va} {p : Option Addr} {cap : Nat} {cs : List Value} {F : List Nat} (h : RwInv W wr gv k its its.length p cap cs F) (hk : InI64' k) : OwnVa wr W.heap.size (.mk k 0 ⟨#[]⟩ its) (.agg #[.int .i64 k, .int .i64 0, .string ⟨#[]⟩, .slice p its.length cap]) (blkOf (.slice p its.length cap) ++ F) := by
  obtain ⟨_, h2, h3, _, _, _, _⟩ := h
  simp only [OwnVa]
  exact ⟨_, cs, F, rfl, hk, by unfold InI64'; omega, by decide, h2, h3, rfl⟩
theorem putR_alloc {w : World} {b : Nat} (hb : b < w.heap.size) (o : Obj) (c0 c1 c2 c3 c4 : Value) : (putQ (w.alloc o) b c0 c1 c2 c3).setCell ⟨b, 4, none⟩ c4 = ((putQ w b c0 c1 c2 c3).setCell ⟨b, 4, none⟩ c4).alloc o := by
  rw [putQ_alloc hb, World.setCell_alloc_past _ _ _ _ (by unfold putQ; rw [size_set, size_set, size_set, size_set]; exact hb)]

set_option maxRecDepth 100000 in
set_option maxHeartbeats 1000000 in
theorem collected_any (k : Int) (hk : InI64' k) (L : List (Va × Int)) (hL : L.length ≤ 6) (f : FuncId) (caps : Array Value) (w : World) (hE : Enters f) (hpart : ∀ (w' : World) (j : Nat) (h : j < L.length), Below w.heap.size w w' → Calls Tryz.prog f (#[.int .i64 j] ++ caps) w' (RdPost L[j] w')) :
    Calls Tryz.prog 81 #[.int .i64 k, .int .i64 L.length, .func (.func f) #[] caps] w (RdPost (collR k [] L) w) := by
  have HN := two_new w (.cells #[.int .i64 0, .int .i64 0, .string ⟨#[]⟩, .slice none 0 0, .int .i64 0] 33) (.cells #[.int .i64 k, .int .i64 0, .string ⟨#[]⟩, .slice none 0 0] 29)
  obtain ⟨W, hW⟩ : ∃ W, W = (w.alloc (.cells #[.int .i64 0, .int .i64 0, .string ⟨#[]⟩, .slice none 0 0, .int .i64 0] 33)).alloc (.cells #[.int .i64 k, .int .i64 0, .string ⟨#[]⟩, .slice none 0 0] 29) := ⟨_, rfl⟩
  have hbw : Below w.heap.size w W := by rw [hW]; exact (below_alloc w _).alloc (by simp) _
  have hz : W.heap.size = w.heap.size + 1 + 1 := by rw [hW]; simp
  rw [← hW] at HN
  have N1 := Lib.hid HN.1
  have HI0 : Hid (RwInv W W (w.heap.size + 1) k [] 0 none 0 [] []) := RwInv.nil HN.2
  have HZ := Lib.hid hz
  have BW := Lib.hid hbw
  have HW := Lib.hid hW
  have HK := Lib.hid hk
  have HPart := Lib.hid hpart
  obtain ⟨R, hR⟩ : ∃ R, collR k [] L = R := ⟨_, rfl⟩
  rw [hR]
  have HR : Hid (collR k [] (L.drop 0) = R) := hR
  unfold Enters at hE
  clear HN hbw hz hW hk hpart hR
  go_enter Tryz.func81, Tryz.ntmps81
  go_wp2_with fail
  rw [← HW.out]
  go_loopw [13] (fun i wr => ∃ (j : Nat) (p : Option Addr) (cap : Nat) (cs : List Value) (F : List Nat) (its : List Va), j ≤ L.length ∧ i = .int .i64 j ∧ Hid (RwInv W wr (w.heap.size + 1) k its j p cap cs F) ∧ Hid (collR k its (L.drop j) = R)) (fun i _ => L.length - (intOf i).toNat)
  case atStart => exact ⟨0, none, 0, [], [], [], Nat.zero_le _, rfl, HI0.out, HR.out⟩
  case round =>
    obtain ⟨j, p, cap, cs, F, its, hj, rfl, HI, HJ⟩ := hrel
    have hz := HZ.out
    have h5 := HI.out.2.2.2.2.1
    have Bw : Hid (Below w.heap.size w wr) := BW.out.trans (h5.below BW.out.size (by simp))
    have hs5 := h5.size
    have Rr := Lib.hid (show wr.heap[w.heap.size]? = _ from (h5.block _ (by omega) (by simp)).trans N1.out)
    have V4 := Lib.hid HI.out.1
    by_cases hlt : j < L.length
    · obtain ⟨r, hr⟩ : ∃ r, L[j] = r := ⟨_, rfl⟩
      have HCall := Lib.hid (HPart.out wr j hlt Bw.out)
      rw [hr] at HCall
      have HLj := Lib.hid hr
      clear h5 hr
      go_wp2_with fail
      refine HCall.out.mono ?_
      rintro e w1 ⟨c0, c1, c2, c3, F1, rfl, ho1, hn1, hb1⟩
      obtain ⟨r3, z3, rfl, rfl, rfl, rfl⟩ := (OwnVa.is _ _ _ ho1).cells
      have HO := Lib.hid ho1
      have HNd := Lib.hid hn1
      have B1 := Lib.hid hb1
      have hlt1 := OwnVa.blocks _ _ _ ho1
      have rz := (Array.getElem?_eq_some_iff.1 Rr.out).1
      by_cases hc : r.2 = 0
      · have HC := Lib.hid ((coll_ok (k := k) (acc := its) hlt (by rw [HLj.out]; exact hc)).symm.trans HJ.out)
        rw [HLj.out] at HC
        rw [hc]
        obtain ⟨v0, v1, v2, v3, _, _, _, _, vz⟩ := blk4 (blk_below V4.out hb1 (Array.getElem?_eq_some_iff.1 V4.out).1)
        obtain ⟨w2, hw2⟩ : ∃ w2, w2 = w1.alloc (.cells #[.int .i64 r.1.kd, .int .i64 r.1.nn, .string r.1.tx, .slice r3 r.1.it.length z3, .int .i64 0] 33) := ⟨_, rfl⟩
        have hba : Below w1.heap.size w1 w2 := by rw [hw2]; exact below_alloc _ _
        have B2 := Lib.hid (hb1.trans (hba.mono hb1.size))
        have O2 : Hid (OwnVa w2 wr.heap.size r.1 (.agg #[.int .i64 r.1.kd, .int .i64 r.1.nn, .string r.1.tx, .slice r3 r.1.it.length z3]) F1) := OwnVa.move (Nat.le_refl _) _ _ _ (fun g hg => hba.block g (hlt1 g hg).2) ho1
        have RW2 : Hid (w2.ownsRow W.heap.size 29 4 (.slice p j cap) j cs) := own_block HI.out.2.1 fun g hg => B2.out.block g (blkOf_own HI.out.2.1 g hg).2
        have HW2 := Lib.hid hw2
        have HZ2 : Hid (W.heap.size ≤ w2.heap.size) := Nat.le_trans hs5 B2.out.size
        have hsz : w2.heap.size = w1.heap.size + 1 := by rw [hw2]; simp
        have V2 := Lib.hid (blk_below V4.out B2.out (Array.getElem?_eq_some_iff.1 V4.out).1)
        clear ho1 hn1 hb1 hlt1 hc hba hw2
        go_wp2_with (at_builtin; rw [← HW2.out]; go_must (refine wpList_vaR w2 rfl (.tmp 24) (.tmp 27) rfl W.heap.size p j cap cs r.1.kd r.1.nn r.1.tx r3 r.1.it.length z3 rfl RW2.out (by rw [hsz]; rfl) (by omega) HZ2.out ?_))
        intro p' cap' w5 hown hon hloc
        have ST := Lib.hid (rw_step HI.out (Nat.le_refl _) O2.out HNd.out B2.out (by rw [HZ.out]; exact hown) hon (by rw [hsz]; exact hloc))
        have gz := HI.out.2.2.2.2.2.1
        have hv5 := V2.out
        rw [← hon.block _ (Array.getElem?_eq_some_iff.1 hv5).1 (fun hx => by have := blkOf_own HI.out.2.1 _ hx; omega)] at hv5
        obtain ⟨_, _, _, _, _, _, _, _, _⟩ := blk4 hv5
        clear hown hon hloc hv5 v0 v1 v2 v3 vz
        go_wp2_with fail
        go_roundw
        case rel => exact ⟨j + 1, p', cap', _, _, its ++ [r.1], hlt, by go_num, ST.out, HC.out⟩
        case measure => simp [intOf]; omega
      · have HC := Lib.hid ((coll_bad (k := k) (acc := its) hlt (by rw [HLj.out]; exact hc)).symm.trans HJ.out)
        rw [HLj.out] at HC
        obtain ⟨y0, y1, y2, y3, y4, _, _, _, _, _, yz⟩ := blk5 (blk_below Rr.out hb1 rz)
        have hF : Hid (∀ g ∈ F1, g ≠ w.heap.size) := fun g hg => by have := hlt1 g hg; omega
        have hcb : (r.2 != 0) = true := by simpa using hc
        clear ho1 hn1 hb1 hlt1
        go_wp2_with fail
        refine bodyPost_ret (v := .agg #[.int .i64 r.1.kd, .int .i64 r.1.nn, .string r.1.tx, .slice r3 r.1.it.length z3, .int .i64 r.2]) (by simp [results, Tryz.results81, go_sem, y0, y1, y2, y3, y4, yz]) rfl ?_
        rw [← HC.out]
        have hB1 := Bw.out.trans (B1.out.mono Bw.out.size)
        have h' := rd_end (r := r) (b := w.heap.size) (hB1.alloc hB1.size (.cells #[.int .i64 r.1.kd, .int .i64 r.1.nn, .string r.1.tx, .slice r3 r.1.it.length z3, .int .i64 r.2] 33)) (Nat.le_refl _) (OwnVa.move (show w.heap.size ≤ wr.heap.size by omega) _ _ _ (fun g hg => (below_alloc w1 _).block g (OwnVa.blocks _ _ _ HO.out g hg).2) HO.out) hF.out HNd.out
        rw [putR_alloc yz] at h'
        exact h'
    · obtain rfl : j = L.length := by omega
      have hil := HI.out.2.2.2.2.2.2
      have HC : Hid ((.mk k 0 ⟨#[]⟩ its, 0) = R) := (coll_end (Nat.le_refl _)).symm.trans HJ.out
      have HOw := Lib.hid (rw_own (hil ▸ HI.out) HK.out)
      have HNd := Lib.hid HI.out.2.2.2.1
      rw [hil] at HOw
      have lt := OwnVa.blocks _ _ _ HOw.out
      have hF : Hid (∀ g ∈ blkOf (.slice p L.length cap) ++ F, g ≠ w.heap.size) := fun g hg => by have := lt g hg; omega
      obtain ⟨y0, y1, y2, y3, y4, _, _, _, _, _, yz⟩ := blk5 Rr.out
      obtain ⟨v0, v1, v2, v3, _, _, _, _, vz⟩ := blk4 V4.out
      clear h5 hil lt
      go_wp2_with fail
      refine bodyPost_ret (v := .agg #[.int .i64 k, .int .i64 0, .string ⟨#[]⟩, .slice p L.length cap, .int .i64 0]) (by simp [results, Tryz.results81, go_sem, y0, y1, y2, y3, y4]) rfl ?_
      rw [← HC.out]
      exact rd_end (r := (.mk k 0 ⟨#[]⟩ its, 0)) Bw.out (Nat.le_refl _) (OwnVa.move (show w.heap.size ≤ W.heap.size by omega) _ _ _ (fun _ _ => rfl) HOw.out) hF.out HNd.out
end Go.Proofs.YtnnjhcjalmdmcaaGreat
