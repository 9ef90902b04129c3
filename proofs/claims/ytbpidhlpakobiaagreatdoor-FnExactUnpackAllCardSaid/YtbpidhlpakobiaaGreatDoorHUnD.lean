/- Walks: what makes what unpacks. · Walks: impl.Unpack. -/
import Derived.Test.YtbpidhlpakobiaaGreatDoorHPkMadeW
import Derived.Test.YtbpidhlpakobiaaGreatDoorHUnC
namespace Go.Proofs.YtbpidhlpakobiaaGreatDoor
open Go.RowKit

/-- A pair whose second one unpacks s, wherever what is outside X stands as it stood, by a reader that lies in X or is newer. -/
def GUn (X : Nat → Prop) (w : World) (s : Sh) (v : Value) : Prop := ∃ f1 c1 f2 c2, v = .agg #[fv f1 c1, fv f2 c2] ∧
  ∀ w0, Stab X w w0 → ∀ (bs : ByteArray) (rb : Nat), bs.size ≤ 8000 → (X rb ∨ w.heap.size ≤ rb) → UnW bs rb w0 s (fv f2 c2)
theorem gun_moves : Moves GUn := by
  intro X Y w w' s v h hs hy
  obtain ⟨f1, c1, f2, c2, e, h⟩ := h
  refine ⟨f1, c1, f2, c2, e, fun w0 k bs rb hb hr => h w0 (hs.back k hy) bs rb hb ?_⟩
  rcases hr with hr | hr
  · exact hy rb hr
  · exact .inr (Nat.le_trans hs.1 hr)
theorem stabc {X : Nat → Prop} {w w0 : World} (h : Stab X w w0) {b o : Nat} {c : Value} (hc : w.cell? ⟨b, o, none⟩ = some c) (hx : ¬ X b) : w0.cell? ⟨b, o, none⟩ = some c := by
  have hb : b < w.heap.size := World.block_lt_of_cell? w ⟨b, o, none⟩ hc
  have e := h.2 b hb hx
  unfold World.cell? at hc ⊢
  simp only at hc ⊢
  rw [e]; exact hc

theorem un_num (k most : Int) (hk : k = 1 ∧ most = 1 ∨ k = 2 ∧ most = 1000000) (bs : ByteArray) (rb bm bk : Nat) (w0 : World) (hs : bs.size ≤ 8000) (hm : w0.cell? ⟨bm, 0, none⟩ = some (.int .i64 most)) (hkc : w0.cell? ⟨bk, 0, none⟩ = some (.int .i64 k)) (h1 : bm ≠ rb) (h2 : bk ≠ rb) :
    UnW bs rb w0 (.mk k [] [] []) (fv 151 #[.pointer (some ⟨bm, 0, none⟩), .pointer (some ⟨bk, 0, none⟩)]) := by
  refine ⟨_, _, rfl, fun args w => enter_of Tryz.func151 (by kernel_rfl) rfl args w, fun w' p hst hrd => ?_⟩
  have e : unB bs (.mk k [] [] []) p = if (readN bs p most).2.2 ≠ 0 then (zeroVa, 0, (readN bs p most).2.2) else (.mk k (readN bs p most).1 ⟨#[]⟩ [], (readN bs p most).2.1, 0) := by
    rcases hk with ⟨rfl, rfl⟩ | ⟨rfl, rfl⟩
    · simp only [unB]; rw [if_pos trivial]
    · simp only [unB]; rw [if_neg (by decide), if_pos trivial]
  rw [e]
  exact unNum_any bs p k most rb bm bk w' hs (by unfold InI64'; omega) hrd (stabc hst hm h1) (stabc hst hkc h2) h2 (by omega)
theorem un_text (bs : ByteArray) (rb : Nat) (w0 : World) (hs : bs.size ≤ 8000) : UnW bs rb w0 (.mk 3 [] [] []) (fv 155 #[]) := by
  refine ⟨_, _, rfl, fun args w => enter_of Tryz.func155 (by kernel_rfl) rfl args w, fun w' p hst hrd => ?_⟩
  have e : unB bs (.mk 3 [] [] []) p = if (readP bs p).2.2 ≠ 0 then (zeroVa, 0, (readP bs p).2.2) else (.mk 3 0 (readP bs p).1 [], (readP bs p).2.1, 0) := by
    simp only [unB]; rw [if_neg (by decide), if_neg (by decide), if_pos trivial]
  rw [e]
  exact unText_any bs p rb w' hs hrd
theorem un_pick (sy : List ByteArray) (h0 : 0 < sy.length) (h6 : sy.length ≤ 6) (hw : wordsAll sy = true) (b : Nat) (aa : Option Addr) (d : Nat) (bs : ByteArray) (rb : Nat) (z w0 : World) (hs : bs.size ≤ 8000) (hc : w0.cell? ⟨b, 0, none⟩ = some (.slice aa sy.length d)) (hb : b ≠ rb) (hz : Keeps z w0) (hzr : z.heap.size ≤ rb) (hsy : IsStrs z (.slice aa sy.length d) sy) :
    UnW bs rb w0 (.mk 4 sy [] []) (fv 159 #[.pointer (some ⟨b, 0, none⟩)]) := by
  refine ⟨_, _, rfl, fun args w => enter_of Tryz.func159 (by kernel_rfl) rfl args w, fun w' p hst hrd => ?_⟩
  have e : unB bs (.mk 4 sy [] []) p = if (readN bs p (sy.length - 1)).2.2 ≠ 0 then (zeroVa, 0, (readN bs p (sy.length - 1)).2.2) else (.mk 4 0 (sy.getD (readN bs p (sy.length - 1)).1.toNat ⟨#[]⟩) [], (readN bs p (sy.length - 1)).2.1, 0) := by
    simp only [unB]; rw [if_neg (by decide), if_neg (by decide), if_neg (by decide), if_pos trivial]
  rw [e]
  refine unPick_any bs p rb b sy aa d z w' hs h0 h6 (words_size hw) hrd (stabc hst hc hb) hb (fun b' o c hcc => ?_) hzr hsy
  have hlt : b' < z.heap.size := World.block_lt_of_cell? z ⟨b', o, none⟩ hcc
  exact stabc hst (hz _ _ _ hcc) (by omega)
theorem un_count (k most : Int) (hk : k = 5 ∧ most = 1 ∨ k = 6 ∧ most = 6) (y : Sh) (f1 f2 : FuncId) (c1 c2 : Array Value) (bs : ByteArray) (rb bm bo bk : Nat) (w0 : World) (hs : bs.size ≤ 8000) (hm : w0.cell? ⟨bm, 0, none⟩ = some (.int .i64 most)) (hkc : w0.cell? ⟨bk, 0, none⟩ = some (.int .i64 k))
    (ho0 : w0.cell? ⟨bo, 0, none⟩ = some (fv f1 c1)) (ho1 : w0.cell? ⟨bo, 1, none⟩ = some (fv f2 c2)) (h1 : bm ≠ rb) (h2 : bk ≠ rb) (h3 : bo ≠ rb) (hU : UnW bs rb w0 y (fv f2 c2)) :
    UnW bs rb w0 (.mk k [] [] [y]) (fv 161 #[.pointer (some ⟨bm, 0, none⟩), .pointer (some ⟨bo, 0, none⟩), .pointer (some ⟨bk, 0, none⟩)]) := by
  refine ⟨_, _, rfl, fun args w => enter_of Tryz.func161 (by kernel_rfl) rfl args w, fun w' p hst hrd => ?_⟩
  have e : unB bs (.mk k [] [] [y]) p = if (readN bs p most).2.2 ≠ 0 then (zeroVa, 0, (readN bs p most).2.2) else itemsU k (seqU (List.replicate (readN bs p most).1.toNat (unB bs y)) (readN bs p most).2.1) := by
    rcases hk with ⟨rfl, rfl⟩ | ⟨rfl, rfl⟩
    · simp only [unB]; rw [if_neg (by decide), if_neg (by decide), if_neg (by decide), if_neg (by decide), if_pos trivial, unOne_cons]
    · simp only [unB]; rw [if_neg (by decide), if_neg (by decide), if_neg (by decide), if_neg (by decide), if_neg (by decide), if_pos trivial, unOne_cons]
  rw [e]
  exact unCount_any bs p k most rb bm bo bk y f1 f2 c1 c2 w' hs (by unfold InI64'; omega) hrd (stabc hst hm h1) (stabc hst ho0 h3) (stabc hst ho1 h3) (stabc hst hkc h2) h3 h2 (by omega) (hU.move hst)
theorem un_rec (na : List ByteArray) (su : List Sh) (b : Nat) (aa : Option Addr) (cc : Nat) (bs : ByteArray) (rb : Nat) (w0 : World) (h6 : su.length ≤ 6) (hcc : su.length ≤ cc ∧ cc ≤ 9223372036854775807) (hc : w0.cell? ⟨b, 0, none⟩ = some (.slice aa su.length cc)) (hb : b ≠ rb)
    (hrow : ∀ i (h : i < su.length), ∃ (g off : Nat), aa = some ⟨g, off, none⟩ ∧ g ≠ rb ∧ ∃ (f1 : FuncId) (c1 : Array Value) (f2 : FuncId) (c2 : Array Value), w0.cell? ⟨g, off + i * 2, none⟩ = some (.func (.func f1) #[] c1) ∧ w0.cell? ⟨g, off + i * 2 + 1, none⟩ = some (.func (.func f2) #[] c2) ∧ UnW bs rb w0 su[i] (.func (.func f2) #[] c2)) :
    UnW bs rb w0 (.mk 7 [] na su) (fv 165 #[.pointer (some ⟨b, 0, none⟩)]) := by
  refine ⟨_, _, rfl, fun args w => enter_of Tryz.func165 (by kernel_rfl) rfl args w, fun w' p hst hrd => ?_⟩
  have e : unB bs (.mk 7 [] na su) p = itemsU 7 (seqU (su.map (unB bs)) p) := by
    simp only [unB]; rw [if_neg (by decide), if_neg (by decide), if_neg (by decide), if_neg (by decide), if_neg (by decide), if_neg (by decide), unAll_map]
  rw [e]
  refine unRec_any bs p rb b su aa cc w' h6 hcc hrd (stabc hst hc hb) fun i hi => ?_
  obtain ⟨g, off, ea, hg, f1, c1, f2, c2, k0, k1, hu⟩ := hrow i hi
  exact ⟨g, off, ea, hg, f1, c1, f2, c2, stabc hst k0 hg, stabc hst k1 hg, hu.move hst⟩

theorem mku_num (k most : Int) (hk : k = 1 ∧ most = 1 ∨ k = 2 ∧ most = 1000000) (X : Nat → Prop) (w : World) (hhi : ∀ g, X g → g < w.heap.size) :
    Calls Tryz.prog 133 #[.int .i64 k, .int .i64 most] w fun e w' => ∃ f1 c1 f2 c2, e = .returned (.agg #[.func (.func f1) #[] c1, .func (.func f2) #[] c2]) ∧ GUn X w' (.mk k [] [] []) (.agg #[.func (.func f1) #[] c1, .func (.func f2) #[] c2]) ∧ Below w.heap.size w w' := by
  have HHi := Lib.hid hhi
  obtain ⟨W, hW⟩ : ∃ W, W = ((w.alloc (.cells #[.int .i64 k] 2)).alloc (.cells #[.int .i64 most] 2)).alloc (.cells #[fv 149 #[], fv 151 #[.pointer (some ⟨w.heap.size + 1, 0, none⟩), .pointer (some ⟨w.heap.size, 0, none⟩)]] 86) := ⟨_, rfl⟩
  have hbw : Below w.heap.size w W := by rw [hW]; exact ((below_alloc w _).alloc (by simp) _).alloc (by simp; omega) _
  have hb := three_new w (.cells #[.int .i64 k] 2) (.cells #[.int .i64 most] 2) (.cells #[fv 149 #[], fv 151 #[.pointer (some ⟨w.heap.size + 1, 0, none⟩), .pointer (some ⟨w.heap.size, 0, none⟩)]] 86)
  rw [← hW] at hb
  have BW := Lib.hid hbw
  have C0 : Hid (W.cell? ⟨w.heap.size, 0, none⟩ = some (.int .i64 k)) := by show _ = _; simp [World.cell?, hb.1]
  have C1 : Hid (W.cell? ⟨w.heap.size + 1, 0, none⟩ = some (.int .i64 most)) := by show _ = _; simp [World.cell?, hb.2.1]
  have HZ : Hid (w.heap.size + 1 < W.heap.size) := (Array.getElem?_eq_some_iff.1 hb.2.1).1
  have HW := Lib.hid hW
  clear hhi hbw hb hW
  go_enter Tryz.func133, Tryz.ntmps133
  go_wp2_with fail
  refine bodyPost_ret (v := .agg #[fv 149 #[], fv 151 #[.pointer (some ⟨w.heap.size + 1, 0, none⟩), .pointer (some ⟨w.heap.size, 0, none⟩)]]) (by simp [results, Tryz.results133, go_sem]) rfl ?_
  rw [← HW.out]
  have hx0 : ¬ X w.heap.size := fun hx => by have := HHi.out _ hx; omega
  have hx1 : ¬ X (w.heap.size + 1) := fun hx => by have := HHi.out _ hx; omega
  refine ⟨_, _, _, _, rfl, ⟨_, _, _, _, rfl, fun w0 hst bs rb hs hr => ?_⟩, BW.out⟩
  have hz := HZ.out
  refine un_num k most hk bs rb _ _ w0 hs (stabc hst C1.out hx1) (stabc hst C0.out hx0) (fun e => ?_) (fun e => ?_)
  · rcases hr with hr | hr
    · exact hx1 (by rw [e]; exact hr)
    · omega
  · rcases hr with hr | hr
    · exact hx0 (by rw [e]; exact hr)
    · omega
theorem mku_text (X : Nat → Prop) (w : World) :
    Calls Tryz.prog 134 #[] w fun e w' => ∃ f1 c1 f2 c2, e = .returned (.agg #[.func (.func f1) #[] c1, .func (.func f2) #[] c2]) ∧ GUn X w' (.mk 3 [] [] []) (.agg #[.func (.func f1) #[] c1, .func (.func f2) #[] c2]) ∧ Below w.heap.size w w' := by
  go_enter Tryz.func134, Tryz.ntmps134
  go_wp2_with fail
  refine bodyPost_ret (v := .agg #[fv 153 #[], fv 155 #[]]) (by simp [results, Tryz.results134, go_sem]) rfl ?_
  exact ⟨_, _, _, _, rfl, ⟨_, _, _, _, rfl, fun w0 _ bs rb hs _ => un_text bs rb w0 hs⟩, below_alloc _ _⟩
theorem mku_pick (X : Nat → Prop) (z w : World) (sy : List ByteArray) (p : Option Addr) (n m : Nat) (hz : Below z.heap.size z w) (hlo : ∀ g, X g → z.heap.size ≤ g) (hhi : ∀ g, X g → g < w.heap.size) (hs : IsStrs z (.slice p n m) sy) (h0 : 0 < sy.length) (h6 : sy.length ≤ 6) (hw : wordsAll sy = true) :
    Calls Tryz.prog 135 #[.slice p n m] w fun e w' => ∃ f1 c1 f2 c2, e = .returned (.agg #[.func (.func f1) #[] c1, .func (.func f2) #[] c2]) ∧ GUn X w' (.mk 4 sy [] []) (.agg #[.func (.func f1) #[] c1, .func (.func f2) #[] c2]) ∧ Below w.heap.size w w' := by
  have hn : n = sy.length := by
    obtain ⟨_, _, a, cap, he, _⟩ := hs
    simp only [Value.slice.injEq] at he
    exact he.2.1
  subst hn
  have HS := Lib.hid hs
  have HHi := Lib.hid hhi
  have HLo := Lib.hid hlo
  have HZ := Lib.hid hz
  have HWd := Lib.hid hw
  obtain ⟨W, hW⟩ : ∃ W, W = (w.alloc (.cells #[.slice p sy.length m] 23)).alloc (.cells #[fv 157 #[.pointer (some ⟨w.heap.size, 0, none⟩)], fv 159 #[.pointer (some ⟨w.heap.size, 0, none⟩)]] 86) := ⟨_, rfl⟩
  have hbw : Below w.heap.size w W := by rw [hW]; exact (below_alloc w _).alloc (by simp) _
  have hb0 : W.heap[w.heap.size]? = some (.cells #[.slice p sy.length m] 23 (0, 0)) := by rw [hW]; exact (two_new w _ _).1
  have BW := Lib.hid hbw
  have C0 : Hid (W.cell? ⟨w.heap.size, 0, none⟩ = some (.slice p sy.length m)) := by show _ = _; simp [World.cell?, hb0]
  have HZ0 : Hid (w.heap.size < W.heap.size) := (Array.getElem?_eq_some_iff.1 hb0).1
  have HW := Lib.hid hW
  clear hs hhi hlo hz hbw hb0 hW hw
  go_enter Tryz.func135, Tryz.ntmps135
  go_wp2_with fail
  refine bodyPost_ret (v := .agg #[fv 157 #[.pointer (some ⟨w.heap.size, 0, none⟩)], fv 159 #[.pointer (some ⟨w.heap.size, 0, none⟩)]]) (by simp [results, Tryz.results135, go_sem]) rfl ?_
  rw [← HW.out]
  have hx0 : ¬ X w.heap.size := fun hx => by have := HHi.out _ hx; omega
  have hz0 := HZ0.out
  refine ⟨_, _, _, _, rfl, ⟨_, _, _, _, rfl, fun w0 hst bs rb hs hr => un_pick sy h0 h6 HWd.out _ p m bs rb z w0 hs (stabc hst C0.out hx0) (fun e => ?_) (hst.keeps (HZ.out.trans (BW.out.mono HZ.out.size)) HLo.out) ?_ HS.out⟩, BW.out⟩
  · rcases hr with hr | hr
    · exact hx0 (by rw [e]; exact hr)
    · omega
  · rcases hr with hr | hr
    · exact HLo.out _ hr
    · exact Nat.le_trans (HZ.out.trans (BW.out.mono HZ.out.size)).size hr
theorem mku_count (X : Nat → Prop) (w : World) (k most : Int) (y : Sh) (v : Value) (hk : k = 5 ∧ most = 1 ∨ k = 6 ∧ most = 6) (hhi : ∀ g, X g → g < w.heap.size) (hg : GUn X w y v) :
    Calls Tryz.prog 136 #[.int .i64 k, .int .i64 most, v] w fun e w' => ∃ f1 c1 f2 c2, e = .returned (.agg #[.func (.func f1) #[] c1, .func (.func f2) #[] c2]) ∧ GUn X w' (.mk k [] [] [y]) (.agg #[.func (.func f1) #[] c1, .func (.func f2) #[] c2]) ∧ Below w.heap.size w w' := by
  obtain ⟨f1, c1, f2, c2, rfl, hp⟩ := hg
  have HHi := Lib.hid hhi
  have HP := Lib.hid hp
  obtain ⟨W, hW⟩ : ∃ W, W = (((w.alloc (.cells #[.int .i64 k] 2)).alloc (.cells #[.int .i64 most] 2)).alloc (.cells #[fv f1 c1, fv f2 c2] 86)).alloc (.cells #[fv 160 #[.pointer (some ⟨w.heap.size + 1 + 1, 0, none⟩)], fv 161 #[.pointer (some ⟨w.heap.size + 1, 0, none⟩), .pointer (some ⟨w.heap.size + 1 + 1, 0, none⟩), .pointer (some ⟨w.heap.size, 0, none⟩)]] 86) := ⟨_, rfl⟩
  have hbw : Below w.heap.size w W := by rw [hW]; exact (((below_alloc w _).alloc (by simp) _).alloc (by simp; omega) _).alloc (by simp; omega) _
  have hn := three_new w (.cells #[.int .i64 k] 2) (.cells #[.int .i64 most] 2) (.cells #[fv f1 c1, fv f2 c2] 86)
  have hb0 : W.heap[w.heap.size + 1 + 1]? = some (.cells #[fv f1 c1, fv f2 c2] 86 (0, 0)) := by
    rw [hW, Below.heap_alloc _ _ _ (by simp)]; exact hn.2.2
  have hb1 : W.heap[w.heap.size + 1]? = some (.cells #[.int .i64 most] 2 (0, 0)) := by
    rw [hW, Below.heap_alloc _ _ _ (by simp <;> omega)]; exact hn.2.1
  have hb2 : W.heap[w.heap.size]? = some (.cells #[.int .i64 k] 2 (0, 0)) := by
    rw [hW, Below.heap_alloc _ _ _ (by simp <;> omega)]; exact hn.1
  have BW := Lib.hid hbw
  have C0 := Lib.hid (blk2 hb0)
  have C1 : Hid (W.cell? ⟨w.heap.size + 1, 0, none⟩ = some (.int .i64 most)) := by show _ = _; simp [World.cell?, hb1]
  have C2 : Hid (W.cell? ⟨w.heap.size, 0, none⟩ = some (.int .i64 k)) := by show _ = _; simp [World.cell?, hb2]
  have HW := Lib.hid hW
  clear hhi hp hbw hb0 hb1 hb2 hn hW
  go_enter Tryz.func136, Tryz.ntmps136
  go_wp2_with fail
  refine bodyPost_ret (v := .agg #[fv 160 #[.pointer (some ⟨w.heap.size + 1 + 1, 0, none⟩)], fv 161 #[.pointer (some ⟨w.heap.size + 1, 0, none⟩), .pointer (some ⟨w.heap.size + 1 + 1, 0, none⟩), .pointer (some ⟨w.heap.size, 0, none⟩)]]) (by simp [results, Tryz.results136, go_sem]) rfl ?_
  rw [← HW.out]
  have hx0 : ¬ X (w.heap.size + 1 + 1) := fun hx => by have := HHi.out _ hx; omega
  have hx1 : ¬ X (w.heap.size + 1) := fun hx => by have := HHi.out _ hx; omega
  have hx2 : ¬ X w.heap.size := fun hx => by have := HHi.out _ hx; omega
  have hz : w.heap.size + 1 + 1 < W.heap.size := C0.out.2.2.2.2
  refine ⟨_, _, _, _, rfl, ⟨_, _, _, _, rfl, fun w0 hst bs rb hs hr => un_count k most hk y f1 f2 c1 c2 bs rb _ _ _ w0 hs (stabc hst C1.out hx1) (stabc hst C2.out hx2) (stabc hst C0.out.1 hx0) (stabc hst C0.out.2.1 hx0) (fun e => ?_) (fun e => ?_) (fun e => ?_) (HP.out w0 ((Stab.of_below BW.out).trans hst) bs rb hs ?_)⟩, BW.out⟩
  · rcases hr with hr | hr
    · exact hx1 (by rw [e]; exact hr)
    · omega
  · rcases hr with hr | hr
    · exact hx2 (by rw [e]; exact hr)
    · omega
  · rcases hr with hr | hr
    · exact hx0 (by rw [e]; exact hr)
    · omega
  · rcases hr with hr | hr
    · exact .inl hr
    · exact .inr (Nat.le_trans BW.out.size hr)
theorem mku_row (X : Nat → Prop) (w : World) (B : Nat) (na : List ByteArray) (su : List Sh) (vp : Value) (xs : List Value) (h6 : su.length ≤ 6) (hhi : ∀ g, X g → g < w.heap.size) (hown : w.ownsRow B 86 2 vp su.length xs) (hb : ∀ g ∈ blkOf vp, ¬ X g) (hpk : PksOf GUn X w su xs) :
    Calls Tryz.prog 137 #[vp] w fun e w' => ∃ f1 c1 f2 c2, e = .returned (.agg #[.func (.func f1) #[] c1, .func (.func f2) #[] c2]) ∧ GUn X w' (.mk 7 [] na su) (.agg #[.func (.func f1) #[] c1, .func (.func f2) #[] c2]) ∧ Below w.heap.size w w' := by
  obtain ⟨aa, cc, rfl⟩ := own_slice' hown
  have HHi := Lib.hid hhi
  have HNb := Lib.hid hb
  have HPk := Lib.hid hpk
  have HOw := Lib.hid hown
  obtain ⟨W, hW⟩ : ∃ W, W = (w.alloc (.cells #[.slice aa su.length cc] 190)).alloc (.cells #[fv 164 #[.pointer (some ⟨w.heap.size, 0, none⟩)], fv 165 #[.pointer (some ⟨w.heap.size, 0, none⟩)]] 86) := ⟨_, rfl⟩
  have hbw : Below w.heap.size w W := by rw [hW]; exact (below_alloc w _).alloc (by simp) _
  have hb0 : W.heap[w.heap.size]? = some (.cells #[.slice aa su.length cc] 190 (0, 0)) := by rw [hW]; exact (two_new w _ _).1
  have BW := Lib.hid hbw
  have C0 : Hid (W.cell? ⟨w.heap.size, 0, none⟩ = some (.slice aa su.length cc)) := by show _ = _; simp [World.cell?, hb0]
  have HZ0 : Hid (w.heap.size < W.heap.size) := (Array.getElem?_eq_some_iff.1 hb0).1
  have HW := Lib.hid hW
  clear hhi hb hpk hown hbw hb0 hW
  go_enter Tryz.func137, Tryz.ntmps137
  go_wp2_with fail
  refine bodyPost_ret (v := .agg #[fv 164 #[.pointer (some ⟨w.heap.size, 0, none⟩)], fv 165 #[.pointer (some ⟨w.heap.size, 0, none⟩)]]) (by simp [results, Tryz.results137, go_sem]) rfl ?_
  rw [← HW.out]
  have hx0 : ¬ X w.heap.size := fun hx => by have := HHi.out _ hx; omega
  have hz0 := HZ0.out
  refine ⟨_, _, _, _, rfl, ⟨_, _, _, _, rfl, fun w0 hst bs rb hs hr => un_rec na su _ aa cc bs rb w0 h6 (row_caps HOw.out) (stabc hst C0.out hx0) (fun e => ?_) fun i hi => ?_⟩, BW.out⟩
  · rcases hr with hr | hr
    · exact hx0 (by rw [e]; exact hr)
    · omega
  · obtain ⟨c0, c1, g0, g1, ⟨f1, x1, f2, x2, e, hp⟩⟩ := HPk.out.at i hi
    cases e
    obtain ⟨g, hga, hgx, hk⟩ := row_cells HOw.out (by omega)
    have hst0 := (Stab.of_below BW.out).trans hst
    have hnx : ¬ X g := HNb.out g (by rw [hga]; simp [blkOf])
    have hgz : g < w.heap.size := (blkOf_own HOw.out g (by rw [hga]; simp [blkOf])).2
    refine ⟨g, 0, hga, fun e => ?_, f1, x1, f2, x2, ?_, ?_, hp w0 hst0 bs rb hs ?_⟩
    · rcases hr with hr | hr
      · exact hnx (by rw [e]; exact hr)
      · omega
    · rw [Nat.zero_add]; exact stabc hst0 (hk _ _ g0) hnx
    · rw [Nat.zero_add]; exact stabc hst0 (hk _ _ g1) hnx
    · rcases hr with hr | hr
      · exact .inl hr
      · exact .inr (Nat.le_trans BW.out.size hr)

theorem gun_makers : Makers GUn where
  moves := gun_moves
  cells := fun X w s v h => by obtain ⟨f1, c1, f2, c2, e, _⟩ := h; exact ⟨f1, c1, f2, c2, e⟩
  flag := fun X w hhi => mku_num 1 1 (.inl ⟨rfl, rfl⟩) X w hhi
  num := fun X w hhi => mku_num 2 1000000 (.inr ⟨rfl, rfl⟩) X w hhi
  text := fun X w _ => mku_text X w
  pick := fun X z w sy p n m hz hlo hhi hs h0 h6 hw => mku_pick X z w sy p n m hz hlo hhi hs h0 h6 hw
  count := fun X w k most y v hk hhi hg => mku_count X w k most y v hk hhi hg
  row := fun X w B na su vp xs h6 hhi hown hb hpk => mku_row X w B na su vp xs h6 hhi hown hb hpk
end Go.Proofs.YtbpidhlpakobiaaGreatDoor
namespace Go.Proofs.YtbpidhlpakobiaaGreatDoor
open Go.RowKit

/-- What Unpack tells. -/
def unpackR (s : Sh) (bs : ByteArray) (p : Int) : UnR :=
  if 8000 < bs.size then (zeroVa, 0, 2) else if rightB s = true ∧ 0 ≤ p ∧ p ≤ bs.size then unB bs s p else (zeroVa, 0, 1)
/-- An Unpacked of the call's own, that reads as r. -/
def UnpPost (w : World) (r : UnR) (e : Ending) (w' : World) : Prop :=
  ∃ (k n : Int) (t : ByteArray) (q : Option Addr) (l m : Nat) (F : List Nat), e = .returned (.agg #[.int .i64 k, .int .i64 n, .string t, .slice q l m, .int .i64 r.2.1, .int .i64 r.2.2]) ∧
    OwnVa w' w.heap.size r.1 (.agg #[.int .i64 k, .int .i64 n, .string t, .slice q l m]) F ∧ F.Nodup ∧ Below w.heap.size w w'
theorem own_zero (w : World) (B : Nat) : OwnVa w B zeroVa (.agg #[.int .i64 0, .int .i64 0, .string ⟨#[]⟩, .slice none 0 0]) [] :=
  own_bare (by unfold InI64'; omega) (by unfold InI64'; omega) (by decide)
/-- Where a code is told nothing else is. -/
def Bad (r : UnR) : Prop := r.2.2 ≠ 0 → r = (zeroVa, 0, r.2.2)
theorem bad_err (c : Int) : Bad (zeroVa, 0, c) := fun _ => rfl
theorem bad_ok (x : Va) (q : Int) : Bad (x, q, 0) := fun h => absurd rfl h
theorem bad_if {c : Prop} [Decidable c] {a b : UnR} (ha : Bad a) (hb : Bad b) : Bad (if c then a else b) := by split <;> assumption
theorem itemsU_bad (k : Int) (r : List Va × Int × Int) : Bad (itemsU k r) := by
  unfold itemsU
  exact bad_if (bad_err _) (bad_ok _ _)
theorem unB_bad (bs : ByteArray) (s : Sh) (p : Int) : Bad (unB bs s p) := by
  cases s with | mk k sy na su =>
  unfold unB
  repeat' first
    | exact bad_err _
    | exact bad_ok _ _
    | exact itemsU_bad _ _
    | apply bad_if
theorem blk6 {w : World} {b : Nat} {T : TypeId} {c0 c1 c2 c3 c4 c5 : Value} (h : w.heap[b]? = some (.cells #[c0, c1, c2, c3, c4, c5] T (0, 0))) :
    w.cell? ⟨b, 0, none⟩ = some c0 ∧ w.cell? ⟨b, 1, none⟩ = some c1 ∧ w.cell? ⟨b, 2, none⟩ = some c2 ∧ w.cell? ⟨b, 3, none⟩ = some c3 ∧ w.cell? ⟨b, 4, none⟩ = some c4 ∧ w.cell? ⟨b, 5, none⟩ = some c5 ∧
    w.frozen? ⟨b, 0, none⟩ = false ∧ w.frozen? ⟨b, 1, none⟩ = false ∧ w.frozen? ⟨b, 2, none⟩ = false ∧ w.frozen? ⟨b, 3, none⟩ = false ∧ w.frozen? ⟨b, 4, none⟩ = false ∧ w.frozen? ⟨b, 5, none⟩ = false ∧ b < w.heap.size := by
  refine ⟨?_, ?_, ?_, ?_, ?_, ?_, ?_, ?_, ?_, ?_, ?_, ?_, (Array.getElem?_eq_some_iff.1 h).1⟩ <;> simp [World.cell?, World.frozen?, h]
theorem cell1_of {w : World} {b : Nat} {T : TypeId} {c : Value} (h : w.heap[b]? = some (.cells #[c] T (0, 0))) : w.cell? ⟨b, 0, none⟩ = some c ∧ w.frozen? ⟨b, 0, none⟩ = false := by
  refine ⟨?_, ?_⟩ <;> simp [World.cell?, World.frozen?, h]
theorem field_un (f1 f2 : FuncId) (c1 c2 : Array Value) (w : World) : (Instr.field 86 (.agg #[.func (.func f1) #[] c1, .func (.func f2) #[] c2]) 1).run Tryz.prog w = .ok (.func (.func f2) #[] c2) w := by kernel_rfl

/-- The six cells of a result. -/
def putU (w : World) (b : Nat) (k n : Int) (t : ByteArray) (v : Value) (q c : Int) : World := ((putV w b k n t v).setCell ⟨b, 4, none⟩ (.int .i64 q)).setCell ⟨b, 5, none⟩ (.int .i64 c)
theorem putU_other (w : World) (b : Nat) (k n : Int) (t : ByteArray) (v : Value) (q c : Int) {g : Nat} (h : g ≠ b) : (putU w b k n t v q c).heap[g]? = w.heap[g]? := by
  unfold putU
  rw [Below.heap_setCell _ _ _ _ h, Below.heap_setCell _ _ _ _ h, putV_other _ _ _ _ _ _ h]
theorem unp_end {w w1 : World} {x : Va} {q c : Int} {k n : Int} {t : ByteArray} {p : Option Addr} {l m : Nat} {F : List Nat} (hb : Below w.heap.size w w1) (hown : OwnVa w1 w.heap.size x (.agg #[.int .i64 k, .int .i64 n, .string t, .slice p l m]) F) (hF : ∀ g ∈ F, g ≠ w.heap.size + 1) (hnd : F.Nodup) :
    UnpPost w (x, q, c) (.returned (.agg #[.int .i64 k, .int .i64 n, .string t, .slice p l m, .int .i64 q, .int .i64 c])) (putU w1 (w.heap.size + 1) k n t (.slice p l m) q c) :=
  ⟨k, n, t, p, l, m, F, rfl, OwnVa.move (Nat.le_refl _) _ _ _ (fun g hg => putU_other _ _ _ _ _ _ _ _ (hF g hg)) hown, hnd,
    (((((hb.setCell (p := ⟨w.heap.size + 1, 0, none⟩) (Nat.le_succ _) _).setCell (p := ⟨w.heap.size + 1, 1, none⟩) (Nat.le_succ _) _).setCell (p := ⟨w.heap.size + 1, 2, none⟩) (Nat.le_succ _) _).setCell (p := ⟨w.heap.size + 1, 3, none⟩) (Nat.le_succ _) _).setCell (p := ⟨w.heap.size + 1, 4, none⟩) (Nat.le_succ _) _).setCell (p := ⟨w.heap.size + 1, 5, none⟩) (Nat.le_succ _) _⟩
theorem OwnVa.move' {w : World} {B B' : Nat} {x : Va} {v : Value} {F : List Nat} (h : OwnVa w B x v F) (hb : B' ≤ B) : OwnVa w B' x v F := OwnVa.move hb _ _ _ (fun _ _ => rfl) h
theorem UnpPost.grow {w : World} {r : UnR} {e : Ending} {w1 w2 : World} (h : UnpPost w r e w1) (hb : Below w1.heap.size w1 w2) : UnpPost w r e w2 := by
  obtain ⟨k, n, t, q, l, m, F, h1, h2, h3, h4⟩ := h
  exact ⟨k, n, t, q, l, m, F, h1, OwnVa.move (Nat.le_refl _) _ _ _ (fun g hg => hb.block g (OwnVa.blocks _ _ _ h2 g hg).2) h2, h3, h4.trans (hb.mono h4.size)⟩
theorem HandleAt.keeps {w w' : World} (h : HandleAt w) (hk : Keeps w w') : HandleAt w' := hk _ _ _ h

set_option maxRecDepth 100000 in
set_option maxHeartbeats 2000000 in
theorem implUnpack_is (s : Sh) (bs : ByteArray) (p : Int) (r : UnR) (hr : unpackR s bs p = r) (u : Value) (w : World) (hz : bs.size ≤ maxLen) (h : IsSh w s u) (hkw : KwAt w) (hh : HandleAt w) :
    Calls Tryz.prog 26 #[u, .string bs, .int .i64 p] w (UnpPost w r) := by
  have HH := Lib.hid h
  have HKW := Lib.hid hkw
  have HHd := Lib.hid hh
  obtain ⟨p1, n1, m1, p2, n2, m2, p3, n3, m3, rfl⟩ := h.agg
  have hX := two_new w (.cells #[.int .i64 s.kd, .slice p1 n1 m1, .slice p2 n2 m2, .slice p3 n3 m3] 26) (.cells #[.int .i64 0, .int .i64 0, .string ⟨#[]⟩, .slice none 0 0, .int .i64 0, .int .i64 0] 50)
  have hbw := (below_alloc w (.cells #[.int .i64 s.kd, .slice p1 n1 m1, .slice p2 n2 m2, .slice p3 n3 m3] 26)).alloc (by simp) (.cells #[.int .i64 0, .int .i64 0, .string ⟨#[]⟩, .slice none 0 0, .int .i64 0, .int .i64 0] 50)
  obtain ⟨W, hW⟩ : ∃ W, W = (w.alloc (.cells #[.int .i64 s.kd, .slice p1 n1 m1, .slice p2 n2 m2, .slice p3 n3 m3] 26)).alloc (.cells #[.int .i64 0, .int .i64 0, .string ⟨#[]⟩, .slice none 0 0, .int .i64 0, .int .i64 0] 50) := ⟨_, rfl⟩
  rw [← hW] at hX hbw
  have S1 := Lib.hid hX.1
  have S2 := Lib.hid hX.2
  have BW := Lib.hid hbw
  have HW := Lib.hid hW
  obtain ⟨a0, a1, a2, a3, _, _, _, _, az⟩ := blk4 S1.out
  obtain ⟨b0, b1, b2, b3, b4, b5, f0, f1, f2, f3, f4, f5, bz⟩ := blk6 S2.out
  clear h hkw hh hX hbw hW
  by_cases h8 : 8000 < bs.size
  · have HR : Hid ((zeroVa, (0 : Int), (2 : Int)) = r) := by show _ = _; rw [← hr]; unfold unpackR; rw [if_pos h8]
    clear hr
    go_enter Tryz.func26, Tryz.ntmps26
    go_wp2_with fail
    rw [← HW.out]
    refine (tooLong_yes bs _ hz h8).mono ?_
    rintro e w' ⟨rfl, rfl⟩
    go_wp2_with fail
    refine bodyPost_ret (v := .agg #[.int .i64 0, .int .i64 0, .string ⟨#[]⟩, .slice none 0 0, .int .i64 0, .int .i64 2]) (by simp [results, Tryz.results26, go_sem, b0, b1, b2, b3, b4, b5]) rfl ?_
    rw [← HR.out]
    exact unp_end BW.out (own_zero _ _) (by simp) List.nodup_nil
  · have h8' : bs.size ≤ 8000 := by omega
    have HZ := Lib.hid h8'
    cases hrb : rightB s
    · have HR : Hid ((zeroVa, (0 : Int), (1 : Int)) = r) := by show _ = _; rw [← hr]; unfold unpackR; rw [if_neg h8, hrb, if_neg (by simp)]
      have HRB := Lib.hid hrb
      clear hr hrb
      go_enter Tryz.func26, Tryz.ntmps26
      go_wp2_with fail
      rw [← HW.out]
      refine (tooLong_no bs _ HZ.out).mono ?_
      rintro e w' ⟨rfl, rfl⟩
      go_wp2_with fail
      refine (implRight_is s _ HRB.out _ _ (IsSh.keep (Keeps.of_below BW.out) _ _ HH.out)).mono ?_
      rintro e w1 ⟨rfl, hb1⟩
      have B1 := Lib.hid (BW.out.trans (hb1.mono BW.out.size))
      obtain ⟨x0, x1, x2, x3, x4, x5, _, _, _, _, _, _, xz⟩ := blk6 (blk_below S2.out hb1 bz)
      clear hb1 b0 b1 b2 b3 b4 b5 f0 f1 f2 f3 f4 f5
      go_wp2_with fail
      refine bodyPost_ret (v := .agg #[.int .i64 0, .int .i64 0, .string ⟨#[]⟩, .slice none 0 0, .int .i64 0, .int .i64 1]) (by simp [results, Tryz.results26, go_sem, x0, x1, x2, x3, x4, x5]) rfl ?_
      rw [← HR.out]
      exact unp_end B1.out (own_zero _ _) (by simp) List.nodup_nil
    · have HRB := Lib.hid hrb
      by_cases hp1 : 0 ≤ p ∧ p ≤ bs.size
      · have HR : Hid (unB bs s p = r) := by show _ = _; rw [← hr]; unfold unpackR; rw [if_neg h8, if_pos ⟨hrb, hp1⟩]
        obtain ⟨hp0, hp2⟩ := hp1
        clear hr hrb
        go_enter Tryz.func26, Tryz.ntmps26
        go_wp2_with fail
        rw [← HW.out]
        refine (tooLong_no bs _ HZ.out).mono ?_
        rintro e w' ⟨rfl, rfl⟩
        go_wp2_with fail
        refine (implRight_is s _ HRB.out _ _ (IsSh.keep (Keeps.of_below BW.out) _ _ HH.out)).mono ?_
        rintro e w1 ⟨rfl, hb1⟩
        have B1 := Lib.hid (BW.out.trans (hb1.mono BW.out.size))
        have T1 := Lib.hid (blk_below S1.out hb1 az)
        have T2 := Lib.hid (blk_below S2.out hb1 bz)
        clear hb1 a0 a1 a2 a3 b0 b1 b2 b3 b4 b5 f0 f1 f2 f3 f4 f5
        obtain ⟨a0, a1, a2, a3, _, _, _, _, az1⟩ := blk4 T1.out
        have hmm := @run_makeMap Tryz.prog
        obtain ⟨w2, hw2⟩ : ∃ w2, w2 = w1.alloc (.cells #[.string bs, .int .i64 p] 91) := ⟨_, rfl⟩
        obtain ⟨w3, hw3⟩ : ∃ w3, w3 = w2.alloc (.map #[] 0) := ⟨_, rfl⟩
        have hz2 : w2.heap.size = w1.heap.size + 1 := by rw [hw2]; simp
        have hz3 : w3.heap.size = w1.heap.size + 1 + 1 := by rw [hw3, ← hz2]; simp
        have hb2 : Below w1.heap.size w1 w2 := by rw [hw2]; exact below_alloc _ _
        have hb3 : Below w2.heap.size w2 w3 := by rw [hw3]; exact below_alloc _ _
        have B3 := Lib.hid (hb2.trans (hb3.mono (by omega)))
        have E3 : Hid (Env (fun g => g = w1.heap.size ∨ g = w1.heap.size + 1) w1 w3 (w1.heap.size + 1)) := ⟨B3.out, fun g hg => by omega, fun g hg => by omega, .inr rfl⟩
        have M3 : Hid (MapG GUn (fun g => g = w1.heap.size ∨ g = w1.heap.size + 1) w3 (w1.heap.size + 1)) := ⟨#[], 0, by rw [hw3, ← hz2]; exact Go.Deep.blk_alloc_new _ _, fun e he => by simp at he⟩
        have R3 : Hid (RdAt w3 w1.heap.size bs p) := by
          have : w2.heap[w1.heap.size]? = some (.cells #[.string bs, .int .i64 p] 91 (0, 0)) := by rw [hw2]; exact Go.Deep.blk_alloc_new _ _
          exact blk_below this hb3 (by omega)
        have K1 : Hid (KwAt w1) := fun k hk => Keeps.of_below B1.out _ _ _ (HKW.out k hk)
        have I1 := Lib.hid (IsSh.keep (Keeps.of_below B1.out) _ _ HH.out)
        have HZ3 := Lib.hid hz3
        have HW3 : Hid (w3 = (w1.alloc (.cells #[.string bs, .int .i64 p] 91)).alloc (.map #[] 0)) := by show _ = _; rw [hw3, hw2]
        clear hb2 hb3 hw2 hw3 hz2 hz3
        go_wp2_with fail
        rw [← HW3.out]
        refine (of_all GUn gun_makers 5 (Nat.le_refl _) _ w1 w3 (w1.heap.size + 1) s _ HRB.out I1.out K1.out E3.out M3.out).mono ?_
        rintro e w4 ⟨g1, c1, g2, c2, rfl, ⟨_, _, _, _, hge, hgp⟩, _, ho4⟩
        cases hge
        have hz3 := HZ3.out
        have D4 : RdAt w4 w1.heap.size bs p := (ho4.block _ (by omega) (by simp)).trans R3.out
        obtain ⟨F, caps, hFc, hFe, hP⟩ := hgp w4 (Stab.refl _ _) bs w1.heap.size HZ.out (.inl (.inl rfl))
        cases hFc
        have HCall := Lib.hid (hP w4 p (Stab.refl _ _) D4)
        have hfd := field_un g1 g2 c1 c2
        have hz4 : w1.heap.size + 1 < w4.heap.size := by have := ho4.size; omega
        have C4 := Lib.hid (B3.out.trans (ho4.below (B := w1.heap.size) (by omega) (by simp)))
        clear ho4 hgp hP hmm D4 hz3
        rw [HR.out] at HCall
        go_wp2_with fail
        refine HCall.out.mono ?_
        rintro e w5 ⟨k, n, t, q, l, m, F5, rfl, hok, ho5⟩
        have O5 := Lib.hid ho5
        have hw1 : w.heap.size + 1 < w1.heap.size := (Array.getElem?_eq_some_iff.1 T2.out).1
        have G5 := Lib.hid ((ho5.block (w.heap.size + 1) (by omega) (by simp; omega)).trans (blk_below T2.out C4.out hw1))
        have B5 : Hid (Below w.heap.size w w5) := (B1.out.trans (C4.out.mono B1.out.size)).trans (ho5.below (by have := B1.out.size; omega) (fun g hg => by have := B1.out.size; simp at hg; subst hg; omega))
        have H5 : Hid (HandleAt w5) := by
          have h4 : HandleAt w4 := (HHd.out.keeps (Keeps.of_below B1.out)).keeps (Keeps.of_below C4.out)
          have hg : 1 < w.heap.size := World.block_lt_of_cell? w ⟨1, 0, none⟩ HHd.out
          exact cell_only ho5 h4 (by omega)
        obtain ⟨b0, b1, b2, b3, b4, b5, f0, f1, f2, f3, f4, f5, bz5⟩ := blk6 G5.out
        have e1 : ¬ w.heap.size = w5.heap.size := by omega
        have e2 : ¬ w.heap.size + 1 = w5.heap.size := by omega
        have e5 : w.heap.size + 1 < w5.heap.size + 1 := by omega
        have e6 : w.heap.size < w5.heap.size := by omega
        have hz5 := O5.out.size
        have e3 : ¬ w1.heap.size = w5.heap.size := by omega
        have e4 : ¬ w1.heap.size = w5.heap.size + 1 := by omega
        by_cases hc : r.2.2 = 0
        · obtain ⟨hown, hnd, hrd⟩ := hok hc
          obtain ⟨y0, y1, _, _, yz⟩ := blk2 hrd
          obtain ⟨x, at', c⟩ := r
          simp only at hc hown y1
          subst hc
          simp only [errV_ok]
          have HO := Lib.hid hown
          have HN := Lib.hid hnd
          clear hok ho5 hown hnd hrd
          go_wp2_with fail
          refine (as_nil _ _).mono ?_
          rintro e w' ⟨rfl, rfl⟩
          go_wp2_with fail
          refine bodyPost_ret (v := .agg #[.int .i64 k, .int .i64 n, .string t, .slice q l m, .int .i64 at', .int .i64 0]) (by simp [results, Tryz.results26, go_sem, b0, b1, b2, b3, b4, b5, bz5, e5]) rfl ?_
          have hF : ∀ g ∈ F5, w4.heap.size ≤ g := fun g hg => (OwnVa.blocks _ _ _ HO.out g hg).1
          exact ((unp_end B5.out (HO.out.move' (by have := hz4; omega)) (fun g hg e => by have := hF g hg; omega) HN.out).grow (below_alloc _ _)).grow (below_alloc _ _)
        · obtain ⟨c, hcc⟩ : ∃ c, r.2.2 = c := ⟨_, rfl⟩
          have HE : Hid (r = (zeroVa, 0, c)) := by
            show _ = _
            have := unB_bad bs s p
            rw [HR.out] at this
            rw [← hcc]; exact this hc
          rw [hcc] at hc ⊢
          rw [errV_bad hc]
          have HC := Lib.hid hc
          clear hok ho5 hc hcc
          go_wp2_with fail
          refine (as_hit2 c (w5.heap.size + 1) (.int .i64 0) _ ((H5.out.alloc _).alloc _) (cell1_of (two_new w5 _ _).2).1 (cell1_of (two_new w5 _ _).2).2).mono ?_
          rintro e w8 ⟨rfl, hcell, hb8⟩
          have B8 : Hid (Below w5.heap.size w5 w8) := (((Below.refl w5.heap.size w5).alloc (Nat.le_refl _) _).alloc (by simp) _).trans (hb8.mono (Nat.le_succ _))
          obtain ⟨x0, x1, x2, x3, x4, x5, _, _, _, _, _, _, xz⟩ := blk6 (blk_below G5.out B8.out bz5)
          clear hb8 b0 b1 b2 b3 b4 b5 f0 f1 f2 f3 f4 f5
          go_wp2_with fail
          refine bodyPost_ret (v := .agg #[.int .i64 0, .int .i64 0, .string ⟨#[]⟩, .slice none 0 0, .int .i64 0, .int .i64 c]) (by simp [results, Tryz.results26, go_sem, x0, x1, x2, x3, x4, x5]) rfl ?_
          rw [HE.out]
          exact unp_end (B5.out.trans (B8.out.mono B5.out.size)) (own_zero _ _) (by simp) List.nodup_nil
      · have HR : Hid ((zeroVa, (0 : Int), (1 : Int)) = r) := by show _ = _; rw [← hr]; unfold unpackR; rw [if_neg h8, if_neg (fun h => hp1 h.2)]
        have hp3 : p < 0 ∨ (0 ≤ p ∧ (bs.size : Int) < p) := by omega
        clear hr hrb hp1
        rcases hp3 with hp3 | ⟨hp3, hp4⟩
        all_goals
          go_enter Tryz.func26, Tryz.ntmps26
          go_wp2_with fail
          rw [← HW.out]
          refine (tooLong_no bs _ HZ.out).mono ?_
          rintro e w' ⟨rfl, rfl⟩
          go_wp2_with fail
          refine (implRight_is s _ HRB.out _ _ (IsSh.keep (Keeps.of_below BW.out) _ _ HH.out)).mono ?_
          rintro e w1 ⟨rfl, hb1⟩
          have B1 := Lib.hid (BW.out.trans (hb1.mono BW.out.size))
          obtain ⟨x0, x1, x2, x3, x4, x5, _, _, _, _, _, _, xz⟩ := blk6 (blk_below S2.out hb1 bz)
          clear hb1 b0 b1 b2 b3 b4 b5 f0 f1 f2 f3 f4 f5
          go_wp2_with fail
          refine bodyPost_ret (v := .agg #[.int .i64 0, .int .i64 0, .string ⟨#[]⟩, .slice none 0 0, .int .i64 0, .int .i64 1]) (by simp [results, Tryz.results26, go_sem, x0, x1, x2, x3, x4, x5]) rfl ?_
          rw [← HR.out]
          exact unp_end B1.out (own_zero _ _) (by simp) List.nodup_nil
end Go.Proofs.YtbpidhlpakobiaaGreatDoor
