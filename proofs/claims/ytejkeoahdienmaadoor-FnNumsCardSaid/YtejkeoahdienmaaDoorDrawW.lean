/- Walks: the draws of spec (l01Src): what each draw gives, whatever the bytes are. -/
import Derived.Test.YtejkeoahdienmaaDoorSrcW
namespace Go.Proofs.YtejkeoahdienmaaDoor
open Go.RowKit

/-- The bytes that a source draws from: they lie below block B. -/
def RowB (w : World) (a : Option Addr) (len : Nat) (B : Nat) : Prop :=
  len ≤ 9223372036854775807 ∧ (len = 0 ∨ ∃ ab off, a = some ⟨ab, off, none⟩ ∧ ab < B ∧ ∀ i, i < len → ∃ c : Int, 0 ≤ c ∧ c ≤ 255 ∧ w.cell? ⟨ab, off + i, none⟩ = some (.int .u8 c))
theorem add_plain (b off i : Nat) : (⟨b, off, none⟩ : Addr).add i = ⟨b, off + i, none⟩ := by unfold Addr.add; split <;> simp_all
theorem RowB.of_row {w : World} {a : Option Addr} {len cap : Nat} {zs : List Int} (h : IsRow .u8 w a len cap zs) : RowB w a len w.heap.size := by
  rcases h with ⟨rfl, rfl, rfl, rfl⟩ | ⟨x, rfl, hl, hm, hz, hcell, hwz⟩
  · exact ⟨by omega, .inl rfl⟩
  · unfold maxLen at hm
    refine ⟨by omega, ?_⟩
    by_cases h0 : len = 0
    · exact .inl h0
    · obtain ⟨b, off, spot⟩ := x
      have hc := hcell 0 (by omega)
      have hspot : spot = none := by simpa [Addr.add] using World.cell?_spot hc
      subst hspot
      refine .inr ⟨b, off, rfl, World.block_lt_of_cell? w ⟨b, off, none⟩ (by simpa [Addr.add] using hc), fun i hi => ⟨zs.getD i 0, ?_⟩⟩
      have hm : zs.getD i 0 ∈ zs := by
        rw [List.getD_eq_getElem?_getD, List.getElem?_eq_getElem (by omega)]; exact List.getElem_mem _
      have hw := bounds_u8 (hwz _ hm)
      exact ⟨hw.1, hw.2, by have := hcell i (by omega); rwa [add_plain] at this⟩
theorem RowB.below {w w' : World} {a : Option Addr} {len B : Nat} (h : RowB w a len B) (hb : Below B w w') : RowB w' a len B := by
  refine ⟨h.1, ?_⟩
  rcases h.2 with h0 | ⟨ab, off, ha, hab, hc⟩
  · exact .inl h0
  · refine .inr ⟨ab, off, ha, hab, fun i hi => ?_⟩
    obtain ⟨c, h1, h2, h3⟩ := hc i hi
    exact ⟨c, h1, h2, by rw [hb.cell (p := ⟨ab, off + i, none⟩) hab]; exact h3⟩
theorem RowB.mono {w : World} {a : Option Addr} {len B B' : Nat} (h : RowB w a len B) (hB : B ≤ B') : RowB w a len B' := by
  refine ⟨h.1, ?_⟩
  rcases h.2 with h0 | ⟨ab, off, ha, hab, hc⟩
  · exact .inl h0
  · exact .inr ⟨ab, off, ha, Nat.lt_of_lt_of_le hab hB, hc⟩
theorem OnlyB.below {b B : Nat} {w w' : World} (h : OnlyB b w w') (hB : B ≤ b) (hw : B ≤ w.heap.size) : Below B w w' :=
  ⟨h.1.os, h.1.tape, h.1.output, h.1.size, fun k hk => h.1.block k (by omega) (fun e => by simp at e; omega)⟩

theorem own_ne {w : World} {base b : Nat} {v : Value} {l : List UInt8} (h : OwnB w base v l) (hb : b < base) : v.ownBlock = none ∨ v.ownBlock ≠ some b := by
  rcases h.shape with ⟨rfl, _⟩ | ⟨g, cap, rfl, hg, _⟩
  · exact .inl rfl
  · exact .inr (by simp [Value.ownBlock]; omega)
theorem grown_trans {w w' w'' : World} {b : Nat} (h : w.grownBy w' (some b)) (k : w'.grownBy w'' (some b)) : w.grownBy w'' (some b) :=
  ⟨k.os.trans h.os, k.tape.trans h.tape, k.output.trans h.output, Nat.le_trans h.size k.size, fun i hi hne => (k.block i (Nat.lt_of_lt_of_le hi h.size) hne).trans (h.block i hi hne)⟩
theorem src_below {w w' : World} {b B : Nat} {a : Option Addr} {len cap : Nat} (h : SrcIs w b a len cap) (hb : Below B w w') (hB : b < B) : SrcIs w' b a len cap := by
  obtain ⟨pos, mix, sz, h1, h2, h3, h4⟩ := h
  exact ⟨pos, mix, sz, h1, h2, h3, by rw [hb.block b hB]; exact h4⟩
theorem grown_then {w w' w'' : World} {b : Nat} (h : w.grownBy w' (some b)) (k : Below w.heap.size w' w'') : w.grownBy w'' (some b) :=
  ⟨k.os.trans h.os, k.tape.trans h.tape, k.output.trans h.output, Nat.le_trans h.size k.size, fun i hi hne => (k.block i hi).trans (h.block i hi hne)⟩
theorem wrap_in (x : Int) : InU64 (IntKind.u64.wrap x) := by have := bounds_u64 (wf_wrap .u64 x); unfold InU64; omega
theorem src_size {w : World} {b : Nat} {a : Option Addr} {len cap pos : Nat} {mix : Int} {sz : Nat} (h : w.heap[b]? = some (srcB a len cap pos mix sz)) (x : Nat) :
    (w.setCell ⟨b, 3, none⟩ (.int .i64 (x : Int))).heap[b]? = some (srcB a len cap pos mix x) :=
  heap_setCell_same w b 3 #[.slice a len cap, .int .i64 pos, .int .u64 mix, .int .i64 sz] 58 _ h
theorem put_u8 {v : Int} {c : UInt8} (h0 : 0 ≤ v) (h1 : v ≤ 255) (hc : c = UInt8.ofNat v.toNat) : v = (c.toNat : Int) := by
  subst hc; rw [UInt8.toNat_ofNat']; omega
theorem n_any (b B : Nat) (most : Int) (w : World) (hm : most ≤ 1099511627776) (a : Option Addr) (len cap : Nat) (h : SrcIs w b a len cap) (hr : RowB w a len B) :
    Calls Tryd.prog 26 #[.pointer (some ⟨b, 0, none⟩), .int .i64 most] w fun e w' => ∃ v : Int, e = .returned (.int .i64 v) ∧ 0 ≤ v ∧ (v < most ∨ v = 0) ∧ SrcIs w' b a len cap ∧ OnlyB b w w' := by
  by_cases h1 : most ≤ 1
  · refine (n_small b most w h1).mono fun e w' ⟨he, hw⟩ => ?_
    subst hw
    exact ⟨0, he, by omega, .inr rfl, h, OnlyB.refl _ _⟩
  · obtain ⟨pos, mix, sz, hp, hx, hs, hb⟩ := h
    by_cases hpl : len ≤ pos
    · refine (n_end b most w (by omega) hm a len cap pos mix sz hpl hb).mono fun e w' ⟨v, m, he, h1, h2, h3, h4, h5⟩ => ?_
      exact ⟨v, he, h1, .inl h2, ⟨pos, m, sz, hp, h3, hs, h4⟩, h5⟩
    · rcases hr.2 with h0 | ⟨ab, off, rfl, _, hc⟩
      · omega
      · obtain ⟨c, c0, c1, hcell⟩ := hc pos (by omega)
        refine (n_byte b most w (by omega) hm ab off len cap pos c mix sz (by omega) hr.1 hb hcell c0 c1).mono fun e w' ⟨v, m, he, h1, h2, h3, h4, h5⟩ => ?_
        exact ⟨v, he, h1, .inl h2, ⟨pos + 1, m, sz, by omega, h3, hs, h4⟩, h5⟩

theorem one_any (b B : Nat) (of : Int) (w : World) (hm : of ≤ 1099511627776) (a : Option Addr) (len cap : Nat) (h : SrcIs w b a len cap) (hr : RowB w a len B) :
    Calls Tryd.prog 25 #[.pointer (some ⟨b, 0, none⟩), .int .i64 of] w fun e w' => ∃ v : Bool, e = .returned (.bool v) ∧ SrcIs w' b a len cap ∧ OnlyB b w w' := by
  have H := Lib.hid h
  have HR := Lib.hid hr
  clear h hr
  go_enter Tryd.func25, Tryd.ntmps25
  go_wp2_with fail
  refine (n_any b B of _ hm a len cap H.out HR.out).mono ?_
  rintro e w1 ⟨v, rfl, hv0, hv1, hs, hon⟩
  have HS := Lib.hid hs
  clear hs hv0 hv1
  go_wp2_with fail
  go_ret
  exact ⟨_, rfl, HS.out, hon⟩

set_option maxRecDepth 100000 in
set_option maxHeartbeats 1000000 in
theorem bytes_any (b B : Nat) (n : Int) (w : World) (hn : n ≤ 1099511627776) (a : Option Addr) (len cap : Nat) (h : SrcIs w b a len cap) (hr : RowB w a len B) (hbB : B ≤ b) (hbw : b < w.heap.size) :
    Calls Tryd.prog 27 #[.pointer (some ⟨b, 0, none⟩), .int .i64 n] w fun e w' => ∃ l : List UInt8, e = .returned (.string ⟨l.toArray⟩) ∧ (l.length : Int) ≤ max n 0 ∧ SrcIs w' b a len cap ∧ w.grownBy w' (some b) := by
  have H := Lib.hid h
  have HR := Lib.hid hr
  clear h hr
  go_enter Tryd.func27, Tryd.ntmps27
  go_wp2
  go_loopw [5, 6] (fun v i wr => ∃ (k : Nat) (l : List UInt8), i = .int .i64 k ∧ l.length = k ∧ (k = 0 ∨ (k : Int) ≤ n) ∧ OwnB wr w.heap.size v l ∧ Hid (SrcIs wr b a len cap) ∧ Hid (w.grownBy wr (some b)) ∧ w.heap.size ≤ wr.heap.size) (fun _ i _ => (n - intOf i).toNat)
  case atStart => exact ⟨0, [], rfl, rfl, .inl rfl, OwnB.empty _ _ (Nat.le_refl _), src_alloc H.out _, World.grownBy_alloc _ _ _, by simp⟩
  case round =>
    obtain ⟨k, l, rfl, hl, hk, hown, HS, HG, hsz⟩ := hrel
    have HL := Lib.hid hl
    have HK := Lib.hid hk
    clear hl hk
    by_cases hlt : (k : Int) < n
    · go_wp2_with fail
      refine (n_any b B 256 _ (by decide) a len cap HS.out (HR.out.below (grown_below HG.out hbB (Nat.le_trans hbB (Nat.le_of_lt hbw))))).mono ?_
      rintro e w1 ⟨v, rfl, hv0, hv1, hs1, hon1⟩
      have hv : v ≤ 255 := by omega
      have hown1 := hown.kept hon1.1 (own_ne hown hbw)
      have HS1 := Lib.hid hs1
      have HG1 := Lib.hid (grown_trans HG.out hon1.1)
      have hsz1 : w.heap.size ≤ w1.heap.size := by have := hon1.2; omega
      obtain ⟨c, HC⟩ : ∃ c, Hid (c = UInt8.ofNat v.toNat) := ⟨_, rfl⟩
      have HV := Lib.hid (put_u8 hv0 hv HC.out)
      have hl2 : l.length < 70368744177664 := by have := HL.out; have := HK.out; omega
      clear hv1 hs1 hon1
      go_wp2_with (at_builtin; go_must (refine wpList_byte w1 rfl (.tmp 13) (.tmp 17) rfl w.heap.size _ l _ c rfl hown1 rfl HV.out hl2 hsz1 ?_))
      intro v' w2 hown2 hb2
      have hB := hb2 _ _ (Below.refl w.heap.size w1) (Nat.le_refl _)
      have HS2 := Lib.hid (src_below HS1.out hB hbw)
      have HG2 := Lib.hid (grown_then HG1.out hB)
      have hsz2 : w.heap.size ≤ w2.heap.size := Nat.le_trans hsz1 hB.size
      clear hb2 hB
      go_wp2
      exact ⟨⟨k + 1, l ++ [c], by go_num, by rw [List.length_append, HL.out]; rfl, .inr (by omega), hown2, HS2.out, HG2.out, hsz2⟩, by simp [intOf]; omega⟩
    · have hs := hown.str
      go_wp2
      go_ret
      exact ⟨l, rfl, by have := HL.out; have := HK.out; omega, HS.out, HG.out⟩

set_option maxRecDepth 100000 in
set_option maxHeartbeats 2000000 in
theorem source_any (w : World) (a : Option Addr) (len cap : Nat) (hr : RowB w a len w.heap.size) (hlen : len ≤ 1048576) :
    Calls Tryd.prog 18 #[.slice a len cap] w fun e w' => e = .returned (.pointer (some ⟨w.heap.size, 0, none⟩)) ∧ SrcIs w' w.heap.size a len cap ∧ Below w.heap.size w w' ∧ w.heap.size < w'.heap.size := by
  have HR := Lib.hid hr
  clear hr
  go_enter Tryd.func18, Tryd.ntmps18
  go_wp2
  go_loopw [4] (fun i wr => ∃ (k : Nat) (m : Int), i = .int .i64 k ∧ k ≤ len ∧ Hid (InU64 m) ∧ Hid (wr.heap[w.heap.size]? = some (srcB a len cap 0 m 0)) ∧ Hid (OnlyB w.heap.size (w.alloc (srcB a len cap 0 88172645463325252 0)) wr)) (fun i _ => len - (intOf i).toNat)
  case atStart => exact ⟨0, 88172645463325252, rfl, by omega, ⟨by decide, by decide⟩, heap_alloc_new w _, OnlyB.refl _ _⟩
  case round =>
    obtain ⟨k, m, rfl, hk, HM, HW, HON⟩ := hrel
    have HL := Lib.hid (HON.out.1.size)
    obtain ⟨c0, c1, c2, c3, f0, f1, f2, f3⟩ := src_cells HW.out
    by_cases hgo : k < len ∧ k < 64
    · obtain ⟨hlt, h64⟩ := hgo
      have hlt' : (k : Int) < len := by omega
      have h64' : (k : Int) < 64 := by omega
      have hx : ∃ ab off, a = some ⟨ab, off, none⟩ ∧ ∃ c : Int, 0 ≤ c ∧ c ≤ 255 ∧ wr.cell? ⟨ab, off + k, none⟩ = some (.int .u8 c) := by
        have h1 := HR.out.below ((Below.refl w.heap.size w).alloc (Nat.le_refl _) (srcB a len cap 0 88172645463325252 0))
        have h2 := h1.below (HON.out.below (Nat.le_refl _) (by simp))
        rcases h2.2 with h0 | ⟨ab, off, ha, _, hc⟩
        · omega
        · exact ⟨ab, off, ha, hc k hlt⟩
      obtain ⟨ab, off, rfl, c, hc0, hc1, hcell⟩ := hx
      go_wp2
      go_region
      all_goals go_wp2
      all_goals exact ⟨⟨k + 1, _, by go_num, by omega, wrap_in _, src_mix HW.out 0 _, (HON.out.setCell 2 _).drew⟩, by simp [intOf]; omega⟩
    · have hex : ((len : Int) ≤ k) ∨ ((k : Int) < len ∧ (64 : Int) ≤ k) := by omega
      have hl3 : (len : Int) ≤ 1048576 := by omega
      have hB := Lib.hid (((Below.refl w.heap.size w).alloc (Nat.le_refl _) (srcB a len cap 0 88172645463325252 0)).trans (HON.out.below (Nat.le_refl _) (by simp)))
      have hSZ := Lib.hid (show w.heap.size < wr.heap.size by have := HON.out.2; simp at this; omega)
      clear hgo
      by_cases h12 : 12 < (len : Int) / 20
      · rcases hex with hex | ⟨hex1, hex2⟩
        all_goals
          go_wp2
          go_ret
          exact ⟨rfl, ⟨0, m, 12, by omega, HM.out, by omega, src_size (src_size HW.out (len / 20)) 12⟩, (hB.out.setCell (p := ⟨w.heap.size, 3, none⟩) (Nat.le_refl _) _).setCell (p := ⟨w.heap.size, 3, none⟩) (Nat.le_refl _) _, by have := hSZ.out; simpa [World.setCell] using this⟩
      · have h12' : (len : Int) / 20 ≤ 12 := by omega
        rcases hex with hex | ⟨hex1, hex2⟩
        all_goals
          go_wp2
          go_ret
          exact ⟨rfl, ⟨0, m, len / 20, by omega, HM.out, by omega, src_size HW.out (len / 20)⟩, hB.out.setCell (p := ⟨w.heap.size, 3, none⟩) (Nat.le_refl _) _, by have := hSZ.out; simpa [World.setCell] using this⟩
end Go.Proofs.YtejkeoahdienmaaDoor
