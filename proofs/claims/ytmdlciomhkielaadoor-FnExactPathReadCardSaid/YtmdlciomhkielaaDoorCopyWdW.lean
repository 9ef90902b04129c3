/- Walks: impl.wordsCopied. -/
import Derived.Test.YtmdlciomhkielaaDoorStrsW
import Derived.Test.YtmdlciomhkielaaDoorCloneW
namespace Go.Proofs.YtmdlciomhkielaaDoor
open Go.RowKit

/-- A list of the call's own. -/
def OwnsPost (l : List ByteArray) (w : World) (e : Ending) (w' : World) : Prop := ∃ p n m, e = .returned (.slice p n m) ∧ OwnStrs w' w.heap.size (.slice p n m) l ∧ Below w.heap.size w w'

set_option maxRecDepth 100000 in
set_option maxHeartbeats 1000000 in
theorem copyWords_any (v : Value) (l : List ByteArray) (w : World) (h : IsStrs w v l) (hl : l.length ≤ 8001) (hs : ∀ s ∈ l, s.size ≤ 1099511627776) :
    Calls Tryd.prog 45 #[v] w (OwnsPost l w) := by
  obtain ⟨h1, h2, a, cap, rfl, h3, h4, h6⟩ := h
  have H6 := Lib.hid h6
  have HS := Lib.hid hs
  have H0 : Hid (OwnStrs w w.heap.size (.slice none 0 0) []) := ⟨by simp, World.ownsRow_nil _ _ _ _⟩
  clear h6 h2 hs
  go_enter Tryd.func45, Tryd.ntmps45
  go_wp2_with fail
  go_loopw [3, 8] (fun o i wr => ∃ (k : Nat) (p : Option Addr) (n m : Nat), k ≤ l.length ∧ i = .int .i64 k ∧ o = .slice p n m ∧ Hid (OwnStrs wr w.heap.size (.slice p n m) (l.take k)) ∧ Hid (Below w.heap.size w wr)) (fun _ i _ => l.length - (intOf i).toNat)
  case atStart => exact ⟨0, none, 0, 0, Nat.zero_le _, rfl, rfl, H0.out, Below.refl _ _⟩
  case round =>
    obtain ⟨k, p, n, m, hk, rfl, rfl, HO, HB⟩ := hrel
    by_cases hlt : k < l.length
    · obtain ⟨b, off, rfl, hc⟩ := IsStrs.at H6.out hlt
      have g0 := Keeps.of_below HB.out _ _ _ hc
      have HT := Lib.hid (HS.out _ (List.getElem_mem hlt))
      obtain ⟨t, ht⟩ : ∃ t, t = l[k] := ⟨_, rfl⟩
      have HE : Hid (l.take (k + 1) = l.take k ++ [t]) := by show _ = _; rw [List.take_succ_eq_append_getElem hlt, ht]
      have HL : Hid ((l.take k).length < 1048576) := by show _ < _; rw [List.length_take]; omega
      rw [← ht] at g0 HT hc
      clear ht
      go_wp2_with fail
      refine (clone_any t wr HT.out).mono ?_
      rintro e w1 ⟨rfl, hb1⟩
      have HB1 := Lib.hid (HB.out.trans (hb1.mono HB.out.size))
      have HO1 := Lib.hid (HO.out.block hb1)
      clear hb1 hc g0
      go_wp2_with (at_builtin; go_must (refine wpList_push w1 rfl (.tmp 12) (.tmp 15) rfl w.heap.size _ _ t rfl HO1.out rfl (by have := HT.out; omega) HL.out HB1.out.size ?_))
      intro v' w2 hv hg
      have HB2 := Lib.hid (hg _ _ HB1.out (Nat.le_refl _))
      obtain ⟨p', n', m', rfl⟩ := hv.slice
      rw [← HE.out] at hv
      have HV := Lib.hid hv
      clear hv hg
      go_wp2_with fail
      go_roundw
      case rel => exact ⟨k + 1, p', n', m', hlt, by go_num, rfl, HV.out, HB2.out⟩
      case measure => simp [intOf]; omega
    · obtain rfl : k = l.length := by omega
      have HV : Hid (OwnStrs wr w.heap.size (.slice p n m) l) := by have := HO.out; rwa [List.take_length] at this
      go_wp2_with fail
      go_ret
      exact ⟨p, n, m, rfl, HV.out, HB.out⟩
end Go.Proofs.YtmdlciomhkielaaDoor
