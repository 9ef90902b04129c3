/- Walks: what makes packers. -/
import Derived.Test.YtphiljhdonnpmaaGreatDoorGPkOf
import Derived.Test.YtphiljhdonnpmaaGreatDoorGPackA
namespace Go.Proofs.YtphiljhdonnpmaaGreatDoor
open Go.RowKit

/-- A pair whose first one packs what fits s, wherever what is outside X stands as it stood. -/
def GPack (X : Nat → Prop) (w : World) (s : Sh) (v : Value) : Prop := ∃ f1 c1 f2 c2, v = .agg #[fv f1 c1, fv f2 c2] ∧ ∀ w0, Stab X w w0 → PacksAt w0 s (fv f1 c1)
theorem gpack_moves : Moves GPack := by
  intro X Y w w' s v h hs hy
  obtain ⟨f1, c1, f2, c2, e, h⟩ := h
  exact ⟨f1, c1, f2, c2, e, fun w0 k => h w0 (hs.back k hy)⟩
theorem stab_cell {X : Nat → Prop} {w w0 : World} (h : Stab X w w0) {b o : Nat} {c : Value} (hc : w.cell? ⟨b, o, none⟩ = some c) (hx : ¬ X b) : w0.cell? ⟨b, o, none⟩ = some c := by
  have hb : b < w.heap.size := World.block_lt_of_cell? w ⟨b, o, none⟩ hc
  have e := h.2 b hb hx
  unfold World.cell? at hc ⊢
  simp only at hc ⊢
  rw [e]; exact hc

theorem packs_num (k : Int) (hk : k = 1 ∨ k = 2) (w0 : World) : PacksAt w0 (.mk k [] [] []) (fv 153 #[]) := by
  refine ⟨_, _, rfl, fun args w => enter_of Tryz.func153 (by kernel_rfl) rfl args w, fun x w v u l _ hx hb ho hl => ?_⟩
  have e : packB (.mk k [] [] []) x = putNum x.nn := by simp only [packB]; rw [if_pos hk]
  rw [e] at hl ⊢
  exact packNum_any w0 w v u l x hx hb ho hl
theorem packs_text (w0 : World) : PacksAt w0 (.mk 3 [] [] []) (fv 157 #[]) := by
  refine ⟨_, _, rfl, fun args w => enter_of Tryz.func157 (by kernel_rfl) rfl args w, fun x w v u l hf hx hb ho hl => ?_⟩
  have hp : partOk 1 (.mk 3 [] [] []) = true := by decide
  rcases pack_cases hp hf with ⟨hk, _⟩ | ⟨_, _, _, _, ht, e⟩ | ⟨hk, _⟩ | ⟨hk, _⟩ | ⟨hk, _⟩
  · omega
  · rw [e] at hl ⊢
    exact packText_any w0 w v u l x hx ht hb ho hl
  · omega
  · omega
  · omega
theorem packs_pick (sy : List ByteArray) (h6 : sy.length ≤ 6) (b : Nat) (q : Option Addr) (r d : Nat) (w0 : World) (hc : w0.cell? ⟨b, 0, none⟩ = some (.slice q r d)) (hs : IsStrs w0 (.slice q r d) sy) :
    PacksAt w0 (.mk 4 sy [] []) (fv 161 #[.pointer (some ⟨b, 0, none⟩)]) := by
  refine ⟨_, _, rfl, fun args w => enter_of Tryz.func161 (by kernel_rfl) rfl args w, fun x w v u l hf hx hb ho hl => ?_⟩
  have e : packB (.mk 4 sy [] []) x = putNum (posOf sy x.tx) := by simp [packB]
  rw [e] at hl ⊢
  exact packPick_any sy b q r d w0 w v u l x h6 hc hs hx hb ho hl
theorem packs_count (k : Int) (hk : k = 5 ∨ k = 6) (y : Sh) (b : Nat) (cp cu : Value) (w0 : World) (hp : PacksAt w0 y cp) (hc0 : w0.cell? ⟨b, 0, none⟩ = some cp) (hc1 : w0.cell? ⟨b, 1, none⟩ = some cu) :
    PacksAt w0 (.mk k [] [] [y]) (fv 164 #[.pointer (some ⟨b, 0, none⟩)]) := by
  refine ⟨_, _, rfl, fun args w => enter_of Tryz.func164 (by kernel_rfl) rfl args w, fun x w v u l hf hx hb ho hl => ?_⟩
  have h1 : ¬ (k = 1 ∨ k = 2) := by omega
  have h3 : ¬ k = 3 := by omega
  have h4 : ¬ k = 4 := by omega
  have e : packB (.mk k [] [] [y]) x = putNum x.it.length ++ (x.it.map (packB y)).flatten := by simp only [packB]; rw [if_neg h1, if_neg h3, if_neg h4, if_pos hk, packOne_cons]
  have hfx : x.it.all (fitB y) = true ∧ x.it.length ≤ 6 := by
    simp only [fitB, Bool.and_eq_true] at hf
    have hf := hf.2
    rcases hk with rfl | rfl
    · rw [if_neg (by decide), if_neg (by decide), if_neg (by decide), if_neg (by decide), if_pos rfl, fitOne_cons] at hf
      simp only [Bool.and_eq_true, decide_eq_true_iff] at hf
      exact ⟨hf.2.2, by omega⟩
    · rw [if_neg (by decide), if_neg (by decide), if_neg (by decide), if_neg (by decide), if_neg (by decide), if_pos rfl, fitOne_cons] at hf
      simp only [Bool.and_eq_true, decide_eq_true_iff] at hf
      exact ⟨hf.2.2, hf.2.1⟩
  rw [e] at hl ⊢
  exact packCount_any y b cp cu w0 w v u l x hp hc0 hc1 hfx.1 hfx.2 hx hb ho hl
theorem packs_rec (na : List ByteArray) (su : List Sh) (b : Nat) (aa : Option Addr) (cc : Nat) (w0 : World) (hc : w0.cell? ⟨b, 0, none⟩ = some (.slice aa su.length cc)) (hcc : su.length ≤ cc ∧ cc ≤ 9223372036854775807)
    (hrow : ∀ i (h : i < su.length), ∃ (g off : Nat), aa = some ⟨g, off, none⟩ ∧ ∃ (f1 : FuncId) (c1 : Array Value) (f2 : FuncId) (c2 : Array Value), w0.cell? ⟨g, off + i * 2, none⟩ = some (.func (.func f1) #[] c1) ∧ w0.cell? ⟨g, off + i * 2 + 1, none⟩ = some (.func (.func f2) #[] c2) ∧ PacksAt w0 su[i] (.func (.func f1) #[] c1)) :
    PacksAt w0 (.mk 7 [] na su) (fv 168 #[.pointer (some ⟨b, 0, none⟩)]) := by
  refine ⟨_, _, rfl, fun args w => enter_of Tryz.func168 (by kernel_rfl) rfl args w, fun x w v u l hf hx hb ho hl => ?_⟩
  have e : packB (.mk 7 [] na su) x = packZip su x.it := by simp [packB]
  have hz : fitZip su x.it = true := by
    simp only [fitB, Bool.and_eq_true] at hf
    have hf := hf.2
    rw [if_neg (by decide), if_neg (by decide), if_neg (by decide), if_neg (by decide), if_neg (by decide), if_neg (by decide)] at hf
    simp only [Bool.and_eq_true] at hf
    exact hf.2
  rw [e] at hl ⊢
  exact packRec_any su b aa cc w0 w v u l x hc hcc hrow hz hx hb ho hl

theorem mk_num (k most : Int) (hk : k = 1 ∨ k = 2) (X : Nat → Prop) (w : World) :
    Calls Tryz.prog 134 #[.int .i64 k, .int .i64 most] w fun e w' => ∃ f1 c1 f2 c2, e = .returned (.agg #[.func (.func f1) #[] c1, .func (.func f2) #[] c2]) ∧ GPack X w' (.mk k [] [] []) (.agg #[.func (.func f1) #[] c1, .func (.func f2) #[] c2]) ∧ Below w.heap.size w w' := by
  have HB := Lib.hid (fun o1 o2 o3 => ((below_alloc w o1).alloc (by simp) o2).alloc (by simp; omega) o3)
  go_enter Tryz.func134, Tryz.ntmps134
  go_wp2_with fail
  refine bodyPost_ret (v := .agg #[fv 153 #[], fv 155 #[.pointer (some ⟨w.heap.size + 1, 0, none⟩), .pointer (some ⟨w.heap.size, 0, none⟩)]]) (by simp [results, Tryz.results134, go_sem]) rfl ?_
  exact ⟨_, _, _, _, rfl, ⟨_, _, _, _, rfl, fun w0 _ => packs_num k hk w0⟩, HB.out _ _ _⟩
theorem mk_text (X : Nat → Prop) (w : World) :
    Calls Tryz.prog 135 #[] w fun e w' => ∃ f1 c1 f2 c2, e = .returned (.agg #[.func (.func f1) #[] c1, .func (.func f2) #[] c2]) ∧ GPack X w' (.mk 3 [] [] []) (.agg #[.func (.func f1) #[] c1, .func (.func f2) #[] c2]) ∧ Below w.heap.size w w' := by
  go_enter Tryz.func135, Tryz.ntmps135
  go_wp2_with fail
  refine bodyPost_ret (v := .agg #[fv 157 #[], fv 159 #[]]) (by simp [results, Tryz.results135, go_sem]) rfl ?_
  exact ⟨_, _, _, _, rfl, ⟨_, _, _, _, rfl, fun w0 _ => packs_text w0⟩, below_alloc _ _⟩
theorem mk_pick (X : Nat → Prop) (z w : World) (sy : List ByteArray) (p : Option Addr) (n m : Nat) (hz : Below z.heap.size z w) (hlo : ∀ g, X g → z.heap.size ≤ g) (hhi : ∀ g, X g → g < w.heap.size) (hs : IsStrs z (.slice p n m) sy) (h6 : sy.length ≤ 6) :
    Calls Tryz.prog 136 #[.slice p n m] w fun e w' => ∃ f1 c1 f2 c2, e = .returned (.agg #[.func (.func f1) #[] c1, .func (.func f2) #[] c2]) ∧ GPack X w' (.mk 4 sy [] []) (.agg #[.func (.func f1) #[] c1, .func (.func f2) #[] c2]) ∧ Below w.heap.size w w' := by
  have HS := Lib.hid hs
  have HHi := Lib.hid hhi
  have HLo := Lib.hid hlo
  have HZ := Lib.hid hz
  obtain ⟨W, hW⟩ : ∃ W, W = (w.alloc (.cells #[.slice p n m] 22)).alloc (.cells #[fv 161 #[.pointer (some ⟨w.heap.size, 0, none⟩)], fv 163 #[.pointer (some ⟨w.heap.size, 0, none⟩)]] 79) := ⟨_, rfl⟩
  have hbw : Below w.heap.size w W := by rw [hW]; exact (below_alloc w _).alloc (by simp) _
  have hb0 : W.heap[w.heap.size]? = some (.cells #[.slice p n m] 22 (0, 0)) := by rw [hW]; exact (two_new w _ _).1
  have BW := Lib.hid hbw
  have C0 : Hid (W.cell? ⟨w.heap.size, 0, none⟩ = some (.slice p n m)) := by show _ = _; simp [World.cell?, hb0]
  have HW := Lib.hid hW
  clear hs hhi hlo hz hbw hb0 hW
  go_enter Tryz.func136, Tryz.ntmps136
  go_wp2_with fail
  refine bodyPost_ret (v := .agg #[fv 161 #[.pointer (some ⟨w.heap.size, 0, none⟩)], fv 163 #[.pointer (some ⟨w.heap.size, 0, none⟩)]]) (by simp [results, Tryz.results136, go_sem]) rfl ?_
  rw [← HW.out]
  refine ⟨_, _, _, _, rfl, ⟨_, _, _, _, rfl, fun w0 hst => packs_pick sy h6 _ p n m w0 ?_ ?_⟩, BW.out⟩
  · exact stab_cell hst C0.out fun hx => by have := HHi.out _ hx; omega
  · exact HS.out.keep (hst.keeps (HZ.out.trans (BW.out.mono HZ.out.size)) HLo.out)
theorem mk_count (X : Nat → Prop) (w : World) (k most : Int) (y : Sh) (v : Value) (hk : k = 5 ∨ k = 6) (hhi : ∀ g, X g → g < w.heap.size) (hg : GPack X w y v) :
    Calls Tryz.prog 137 #[.int .i64 k, .int .i64 most, v] w fun e w' => ∃ f1 c1 f2 c2, e = .returned (.agg #[.func (.func f1) #[] c1, .func (.func f2) #[] c2]) ∧ GPack X w' (.mk k [] [] [y]) (.agg #[.func (.func f1) #[] c1, .func (.func f2) #[] c2]) ∧ Below w.heap.size w w' := by
  obtain ⟨f1, c1, f2, c2, rfl, hp⟩ := hg
  have HHi := Lib.hid hhi
  have HP := Lib.hid hp
  obtain ⟨W, hW⟩ : ∃ W, W = (((w.alloc (.cells #[.int .i64 k] 2)).alloc (.cells #[.int .i64 most] 2)).alloc (.cells #[fv f1 c1, fv f2 c2] 79)).alloc (.cells #[fv 164 #[.pointer (some ⟨w.heap.size + 1 + 1, 0, none⟩)], fv 165 #[.pointer (some ⟨w.heap.size + 1, 0, none⟩), .pointer (some ⟨w.heap.size + 1 + 1, 0, none⟩), .pointer (some ⟨w.heap.size, 0, none⟩)]] 79) := ⟨_, rfl⟩
  have hbw : Below w.heap.size w W := by rw [hW]; exact (((below_alloc w _).alloc (by simp) _).alloc (by simp; omega) _).alloc (by simp; omega) _
  have hb0 : W.heap[w.heap.size + 1 + 1]? = some (.cells #[fv f1 c1, fv f2 c2] 79 (0, 0)) := by
    rw [hW, Below.heap_alloc _ _ _ (by simp)]; exact (three_new w _ _ _).2.2
  have BW := Lib.hid hbw
  have C0 := Lib.hid (blk2 hb0)
  have HW := Lib.hid hW
  clear hhi hp hbw hb0 hW
  go_enter Tryz.func137, Tryz.ntmps137
  go_wp2_with fail
  refine bodyPost_ret (v := .agg #[fv 164 #[.pointer (some ⟨w.heap.size + 1 + 1, 0, none⟩)], fv 165 #[.pointer (some ⟨w.heap.size + 1, 0, none⟩), .pointer (some ⟨w.heap.size + 1 + 1, 0, none⟩), .pointer (some ⟨w.heap.size, 0, none⟩)]]) (by simp [results, Tryz.results137, go_sem]) rfl ?_
  rw [← HW.out]
  have hnx : ¬ X (w.heap.size + 1 + 1) := fun hx => by have := HHi.out _ hx; omega
  refine ⟨_, _, _, _, rfl, ⟨_, _, _, _, rfl, fun w0 hst => packs_count k hk y _ (fv f1 c1) (fv f2 c2) w0 (HP.out w0 ((Stab.of_below BW.out).trans hst)) ?_ ?_⟩, BW.out⟩
  · exact stab_cell hst C0.out.1 hnx
  · exact stab_cell hst C0.out.2.1 hnx
theorem own_caps {w : World} {B T sz n cap : Nat} {aa : Option Addr} {xs : List Value} (h : w.ownsRow B T sz (.slice aa n cap) n xs) : n ≤ cap ∧ cap ≤ 9223372036854775807 := by
  rcases h.2 with ⟨hv, h0⟩ | ⟨g', cap', cur, hv, hb, hg, hn, hc, _⟩
  · cases hv; exact ⟨Nat.le_refl _, by decide⟩
  · cases hv
    unfold maxLen at hc
    exact ⟨hn, by omega⟩
theorem own_cells {w : World} {B T sz n cap : Nat} {aa : Option Addr} {xs : List Value} (h : w.ownsRow B T sz (.slice aa n cap) n xs) (h0 : 0 < n) : ∃ g, aa = some ⟨g, 0, none⟩ ∧ B ≤ g ∧ ∀ j c, xs[j]? = some c → w.cell? ⟨g, j, none⟩ = some c := by
  obtain ⟨hl, hh⟩ := h
  rcases hh with ⟨hv, hz⟩ | ⟨g, cap', cur, hv, hb, hg, hn, hc, hsz, ht⟩
  · omega
  · cases hv
    refine ⟨g, rfl, hb, fun j c hj => ?_⟩
    have hlt : j < xs.length := (List.getElem?_eq_some_iff.1 hj).1
    have e : (cur.toList.take (n * sz))[j]? = cur.toList[j]? := List.getElem?_take_of_lt (by omega)
    rw [ht, hj] at e
    simp [World.cell?, hg, ← Array.getElem?_toList, ← e]
theorem mk_row (X : Nat → Prop) (w : World) (B : Nat) (na : List ByteArray) (su : List Sh) (vp : Value) (xs : List Value) (hhi : ∀ g, X g → g < w.heap.size) (hown : w.ownsRow B 79 2 vp su.length xs) (hb : ∀ g ∈ blkOf vp, ¬ X g) (hpk : PksOf GPack X w su xs) :
    Calls Tryz.prog 138 #[vp] w fun e w' => ∃ f1 c1 f2 c2, e = .returned (.agg #[.func (.func f1) #[] c1, .func (.func f2) #[] c2]) ∧ GPack X w' (.mk 7 [] na su) (.agg #[.func (.func f1) #[] c1, .func (.func f2) #[] c2]) ∧ Below w.heap.size w w' := by
  obtain ⟨aa, cc, rfl⟩ := own_slice' hown
  have HHi := Lib.hid hhi
  have HNb := Lib.hid hb
  have HPk := Lib.hid hpk
  have HOw := Lib.hid hown
  obtain ⟨W, hW⟩ : ∃ W, W = (w.alloc (.cells #[.slice aa su.length cc] 196)).alloc (.cells #[fv 168 #[.pointer (some ⟨w.heap.size, 0, none⟩)], fv 169 #[.pointer (some ⟨w.heap.size, 0, none⟩)]] 79) := ⟨_, rfl⟩
  have hbw : Below w.heap.size w W := by rw [hW]; exact (below_alloc w _).alloc (by simp) _
  have hb0 : W.heap[w.heap.size]? = some (.cells #[.slice aa su.length cc] 196 (0, 0)) := by rw [hW]; exact (two_new w _ _).1
  have BW := Lib.hid hbw
  have C0 : Hid (W.cell? ⟨w.heap.size, 0, none⟩ = some (.slice aa su.length cc)) := by show _ = _; simp [World.cell?, hb0]
  have HW := Lib.hid hW
  clear hhi hb hpk hown hbw hb0 hW
  go_enter Tryz.func138, Tryz.ntmps138
  go_wp2_with fail
  refine bodyPost_ret (v := .agg #[fv 168 #[.pointer (some ⟨w.heap.size, 0, none⟩)], fv 169 #[.pointer (some ⟨w.heap.size, 0, none⟩)]]) (by simp [results, Tryz.results138, go_sem]) rfl ?_
  rw [← HW.out]
  refine ⟨_, _, _, _, rfl, ⟨_, _, _, _, rfl, fun w0 hst => packs_rec na su _ aa cc w0 ?_ (own_caps HOw.out) fun i hi => ?_⟩, BW.out⟩
  · exact stab_cell hst C0.out fun hx => by have := HHi.out _ hx; omega
  · obtain ⟨c0, c1, g0, g1, ⟨f1, x1, f2, x2, e, hp⟩⟩ := HPk.out.at i hi
    cases e
    obtain ⟨g, hga, hgx, hk⟩ := own_cells HOw.out (by omega)
    have hst0 := (Stab.of_below BW.out).trans hst
    have hnx : ¬ X g := HNb.out g (by rw [hga]; simp [blkOf])
    refine ⟨g, 0, hga, f1, x1, f2, x2, ?_, ?_, hp w0 hst0⟩
    · rw [Nat.zero_add]; exact stab_cell hst0 (hk _ _ g0) hnx
    · rw [Nat.zero_add]; exact stab_cell hst0 (hk _ _ g1) hnx

theorem gpack_makers : Makers GPack where
  moves := gpack_moves
  cells := fun X w s v h => by obtain ⟨f1, c1, f2, c2, e, _⟩ := h; exact ⟨f1, c1, f2, c2, e⟩
  flag := fun X w _ => mk_num 1 1 (.inl rfl) X w
  num := fun X w _ => mk_num 2 1000000 (.inr rfl) X w
  text := fun X w _ => mk_text X w
  pick := fun X z w sy p n m hz hlo hhi hs _ h6 _ => mk_pick X z w sy p n m hz hlo hhi hs h6
  count := fun X w k most y v hk hhi hg => mk_count X w k most y v (by omega) hhi hg
  row := fun X w B na su vp xs _ hhi hown hb hpk => mk_row X w B na su vp xs hhi hown hb hpk
end Go.Proofs.YtphiljhdonnpmaaGreatDoor
