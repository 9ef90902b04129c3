/- Walks: strings.Clone: the same bytes; of what was there nothing has turned. -/
import Derived.Test.YtmdlciomhkielaaDoorCopyW
import Derived.Lib.UnsafeStr
namespace Go.Proofs.YtmdlciomhkielaaDoor
open Go.RowKit

theorem u8_cells : Tryd.prog.cellsOf 5 = 1 := by kernel_rfl

theorem clone_str {w : World} {g : Nat} {s : ByteArray} {Z : List Value} (h : w.heap[g]? = some (.cells (splice Z 0 (cellsB s.data.toList)).toArray 5 (0, 0)))
    (hZ : Z.length = s.size) (h0 : ¬ s.size = 0) (hl : s.size ≤ 1099511627776) :
    (Builtin.unsafeString_ #[142, 3] 9 #[.pointer (some ⟨g, 0, none⟩), .int .i64 s.size]).run Tryd.prog w = .ok (.string s) (w.freeze ⟨g, 0, none⟩ s.size) := by
  have e : splice Z 0 (cellsB s.data.toList) = cellsB s.data.toList := by
    unfold splice; simp [cellsB]; omega
  rw [e] at h
  have hlen := len_list s
  have hne : s.data.toList ≠ [] := fun e => h0 (by rw [← hlen, e]; rfl)
  have := Lib.run_unsafeString_row (P := Tryd.prog) w 142 3 9 5 Tryd.underlying142 u8_cells g s.size (by unfold World.shape?; rw [h]; simp [cellsB]) s.data.toList hne (by omega) (by omega) (fun j x hx => by
    have hadd : (⟨g, 0, none⟩ : Addr).add j = ⟨g, j, none⟩ := by unfold Addr.add; split <;> simp_all
    rw [hadd, cell_of_row w g j _ _ _ h]
    simp [cellsB, hx])
  rw [hlen] at this
  simpa using this

set_option maxRecDepth 100000 in
set_option maxHeartbeats 400000 in
theorem clone_in (s : ByteArray) (w : World) (hs : s.size ≤ 1099511627776) :
    Calls Tryd.prog 108 #[.string s] w fun e w' => e = .returned (.string s) ∧ Below w.heap.size w w' := by
  by_cases h0 : s.size = 0
  · obtain rfl := empty_of h0
    go_enter Tryd.func108, Tryd.ntmps108
    go_wp2
    go_ret
    exact ⟨rfl, Below.refl _ _⟩
  · obtain ⟨i0, hi, hz0, hz1, hz2⟩ := info_parts u8_info
    have hb0 : ((s.size : Int) == 0) = false := by simpa using h0
    have H0 := Lib.hid h0
    have hpos : 0 < s.size := by omega
    clear h0
    go_enter Tryd.func108, Tryd.ntmps108
    go_wp2_with (at_make; go_must (refine wpList_make_full _ rfl _ _ 102 rfl w.heap.size 5 i0 (.int .u8 0) 1 Tryd.underlying102 hi hz0 hz1 .i64 .i64 _ _ s.size rfl rfl ?_ ?_ ?_ ?_ (Nat.le_refl _) ?_))
    · rfl
    · rfl
    · rw [hz2]; omega
    · unfold maxLen; omega
    intro w1 hown hgr
    have hb1 : Below w.heap.size w w1 := (Below.refl _ _).grown hgr (Nat.le_refl _) (fun k hk => by cases hk)
    obtain ⟨Z, HZ, hZ⟩ := made_row hown
    have HZl := Lib.hid hZ
    clear hown hgr hZ
    go_wp2_with (with_reducible refine wpList_copy_str rfl (.tmp 10) (.tmp 11) rfl (some ⟨w.heap.size, 0, none⟩) _ _ rfl s rfl w.heap.size 0 Z HZ.out (fun _ => rfl) ?_ ?_ w.heap.size w hb1 (Nat.le_refl _) ?_)
    · exact Nat.le_refl _
    · rw [HZl.out]; omega
    intro w2 HR2 hb2
    clear hb1
    have hus := clone_str HR2.out HZl.out H0.out hs
    go_wp2
    go_ret
    exact ⟨rfl, Lib.below_freeze hb2 (p := ⟨w.heap.size, 0, none⟩) (Nat.le_refl _) _⟩

theorem clone_any (s : ByteArray) (w : World) (hs : s.size ≤ 1099511627776) :
    Calls Tryd.prog 82 #[.string s] w fun e w' => e = .returned (.string s) ∧ Below w.heap.size w w' := by
  have HS := Lib.hid hs
  clear hs
  go_enter Tryd.func82, Tryd.ntmps82
  go_wp2_with (go_at_call 108; refine (clone_in s _ HS.out).mono ?_; rintro e w' ⟨rfl, hb⟩)
  go_ret
  exact ⟨rfl, hb⟩
end Go.Proofs.YtmdlciomhkielaaDoor
