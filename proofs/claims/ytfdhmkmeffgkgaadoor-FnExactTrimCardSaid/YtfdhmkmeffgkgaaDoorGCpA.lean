/- Walks: strings.Clone: the same bytes; of what was there nothing has turned. · Walks: impl.wordsCopied. -/
import Derived.Test.YtfdhmkmeffgkgaaDoorGStA
import Derived.Lib.UnsafeStr
namespace Go.Proofs.YtfdhmkmeffgkgaaDoor
open Go.RowKit

theorem u8_cells : Tryd.prog.cellsOf 5 = 1 := by kernel_rfl

theorem clone_str {w : World} {g : Nat} {s : ByteArray} {Z : List Value} (h : w.heap[g]? = some (.cells (splice Z 0 (cellsB s.data.toList)).toArray 5 (0, 0)))
    (hZ : Z.length = s.size) (h0 : ¬ s.size = 0) (hl : s.size ≤ 1099511627776) :
    (Builtin.unsafeString_ #[84, 3] 9 #[.pointer (some ⟨g, 0, none⟩), .int .i64 s.size]).run Tryd.prog w = .ok (.string s) (w.freeze ⟨g, 0, none⟩ s.size) := by
  have e : splice Z 0 (cellsB s.data.toList) = cellsB s.data.toList := by
    unfold splice; simp [cellsB]; omega
  rw [e] at h
  have hlen := len_list s
  have hne : s.data.toList ≠ [] := fun e => h0 (by rw [← hlen, e]; rfl)
  have := Lib.run_unsafeString_row (P := Tryd.prog) w 84 3 9 5 Tryd.underlying84 u8_cells g s.size (by unfold World.shape?; rw [h]; simp [cellsB]) s.data.toList hne (by omega) (by omega) (fun j x hx => by
    have hadd : (⟨g, 0, none⟩ : Addr).add j = ⟨g, j, none⟩ := by unfold Addr.add; split <;> simp_all
    rw [hadd, cell_of_row w g j _ _ _ h]
    simp [cellsB, hx])
  rw [hlen] at this
  simpa using this

set_option maxRecDepth 100000 in
set_option maxHeartbeats 400000 in
theorem clone_in (s : ByteArray) (w : World) (hs : s.size ≤ 1099511627776) :
    Calls Tryd.prog 73 #[.string s] w fun e w' => e = .returned (.string s) ∧ Below w.heap.size w w' := by
  by_cases h0 : s.size = 0
  · obtain rfl := empty_of h0
    go_enter Tryd.func73, Tryd.ntmps73
    go_wp2
    go_ret
    exact ⟨rfl, Below.refl _ _⟩
  · obtain ⟨i0, hi, hz0, hz1, hz2⟩ := info_parts u8_info
    have hb0 : ((s.size : Int) == 0) = false := by simpa using h0
    have H0 := Lib.hid h0
    have hpos : 0 < s.size := by omega
    clear h0
    go_enter Tryd.func73, Tryd.ntmps73
    go_wp2_with (at_make; go_must (refine wpList_make_full _ rfl _ _ 79 rfl w.heap.size 5 i0 (.int .u8 0) 1 Tryd.underlying79 hi hz0 hz1 .i64 .i64 _ _ s.size rfl rfl ?_ ?_ ?_ ?_ (Nat.le_refl _) ?_))
    · rfl
    · rfl
    · rw [hz2]; omega
    · unfold maxLen; omega
    intro w1 hown hgr
    have hb1 : Below w.heap.size w w1 := (Below.refl _ _).grown hgr (Nat.le_refl _) (fun k hk => by cases hk)
    obtain ⟨Z, HZ, hZ⟩ := made_row hown
    have HZl := Lib.hid hZ
    clear hown hgr hZ
    go_wp2_with (with_reducible refine wpList_copy_str rfl (.tmp 10) (.tmp 11) rfl (some ⟨w.heap.size, 0, none⟩) _ _ rfl s rfl w.heap.size 0 Z HZ.out (fun _ => rfl) ?_ ?_ w.heap.size w hb1 (Nat.le_refl _) ?_)
    · exact Nat.le_refl _
    · rw [HZl.out]; omega
    intro w2 HR2 hb2
    clear hb1
    have hus := clone_str HR2.out HZl.out H0.out hs
    go_wp2
    go_ret
    exact ⟨rfl, Lib.below_freeze hb2 (p := ⟨w.heap.size, 0, none⟩) (Nat.le_refl _) _⟩

theorem clone_any (s : ByteArray) (w : World) (hs : s.size ≤ 1099511627776) :
    Calls Tryd.prog 65 #[.string s] w fun e w' => e = .returned (.string s) ∧ Below w.heap.size w w' := by
  have HS := Lib.hid hs
  clear hs
  go_enter Tryd.func65, Tryd.ntmps65
  go_wp2_with (go_at_call 73; refine (clone_in s _ HS.out).mono ?_; rintro e w' ⟨rfl, hb⟩)
  go_ret
  exact ⟨rfl, hb⟩
end Go.Proofs.YtfdhmkmeffgkgaaDoor
namespace Go.Proofs.YtfdhmkmeffgkgaaDoor
open Go.RowKit

/-- A list of the call's own. -/
def OwnsPost (l : List ByteArray) (w : World) (e : Ending) (w' : World) : Prop := ∃ p n m, e = .returned (.slice p n m) ∧ OwnStrs w' w.heap.size (.slice p n m) l ∧ Below w.heap.size w w'

set_option maxRecDepth 100000 in
set_option maxHeartbeats 1000000 in
theorem copyWords_any (v : Value) (l : List ByteArray) (w : World) (h : IsStrs w v l) (hl : l.length ≤ 8001) (hs : ∀ s ∈ l, s.size ≤ 1099511627776) :
    Calls Tryd.prog 64 #[v] w (OwnsPost l w) := by
  obtain ⟨h1, h2, a, cap, rfl, h3, h4, h6⟩ := h
  have H6 := Lib.hid h6
  have HS := Lib.hid hs
  have H0 : Hid (OwnStrs w w.heap.size (.slice none 0 0) []) := ⟨by simp, World.ownsRow_nil _ _ _ _⟩
  clear h6 h2 hs
  go_enter Tryd.func64, Tryd.ntmps64
  go_wp2_with fail
  go_loopw [3, 8] (fun o i wr => ∃ (k : Nat) (p : Option Addr) (n m : Nat), k ≤ l.length ∧ i = .int .i64 k ∧ o = .slice p n m ∧ Hid (OwnStrs wr w.heap.size (.slice p n m) (l.take k)) ∧ Hid (Below w.heap.size w wr)) (fun _ i _ => l.length - (intOf i).toNat)
  case atStart => exact ⟨0, none, 0, 0, Nat.zero_le _, rfl, rfl, H0.out, Below.refl _ _⟩
  case round =>
    obtain ⟨k, p, n, m, hk, rfl, rfl, HO, HB⟩ := hrel
    by_cases hlt : k < l.length
    · obtain ⟨b, off, rfl, hc⟩ := IsStrs.at H6.out hlt
      have g0 := Keeps.of_below HB.out _ _ _ hc
      have HT := Lib.hid (HS.out _ (List.getElem_mem hlt))
      obtain ⟨t, ht⟩ : ∃ t, t = l[k] := ⟨_, rfl⟩
      have HE : Hid (l.take (k + 1) = l.take k ++ [t]) := by show _ = _; rw [List.take_succ_eq_append_getElem hlt, ht]
      have HL : Hid ((l.take k).length < 1048576) := by show _ < _; rw [List.length_take]; omega
      rw [← ht] at g0 HT hc
      clear ht
      go_wp2_with fail
      refine (clone_any t wr HT.out).mono ?_
      rintro e w1 ⟨rfl, hb1⟩
      have HB1 := Lib.hid (HB.out.trans (hb1.mono HB.out.size))
      have HO1 := Lib.hid (HO.out.block hb1)
      clear hb1 hc g0
      go_wp2_with (at_builtin; go_must (refine wpList_push w1 rfl (.tmp 12) (.tmp 15) rfl w.heap.size _ _ t rfl HO1.out rfl (by have := HT.out; omega) HL.out HB1.out.size ?_))
      intro v' w2 hv hg
      have HB2 := Lib.hid (hg _ _ HB1.out (Nat.le_refl _))
      obtain ⟨p', n', m', rfl⟩ := hv.slice
      rw [← HE.out] at hv
      have HV := Lib.hid hv
      clear hv hg
      go_wp2_with fail
      go_roundw
      case rel => exact ⟨k + 1, p', n', m', hlt, by go_num, rfl, HV.out, HB2.out⟩
      case measure => simp [intOf]; omega
    · obtain rfl : k = l.length := by omega
      have HV : Hid (OwnStrs wr w.heap.size (.slice p n m) l) := by have := HO.out; rwa [List.take_length] at this
      go_wp2_with fail
      go_ret
      exact ⟨p, n, m, rfl, HV.out, HB.out⟩
end Go.Proofs.YtfdhmkmeffgkgaaDoor
