/- Walks: impl.wordsRight, spec.l02Words. -/
import Derived.Test.YtfdhmkmeffgkgaaDoorGWoA
namespace Go.Proofs.YtfdhmkmeffgkgaaDoor
open Go.RowKit

def okAt (l : List ByteArray) (k : Nat) : Bool := wordOk (l.getD k ⟨#[]⟩).data.toList && !hasB (l.take k) (l.getD k ⟨#[]⟩)
/-- Words, no two alike. -/
def wordsAll (l : List ByteArray) : Bool := (List.range l.length).all (okAt l)
theorem getD_at {l : List ByteArray} {k : Nat} (h : k < l.length) : l.getD k ⟨#[]⟩ = l[k] := by simp [List.getD, h]
theorem words_no {l : List ByteArray} {k : Nat} (h : k < l.length) (hk : okAt l k = false) : wordsAll l = false := by
  unfold wordsAll; rw [List.all_eq_false]; exact ⟨k, List.mem_range.2 h, by simp [hk]⟩
theorem words_snoc {l : List ByteArray} {k : Nat} (h : (List.range k).all (okAt l) = true) (hk : okAt l k = true) : (List.range (k + 1)).all (okAt l) = true := by
  rw [List.range_succ, List.all_append, h]; simp [hk]
theorem okAt_word {l : List ByteArray} {k : Nat} (h : k < l.length) (hw : wordOk l[k].data.toList = false) : okAt l k = false := by
  unfold okAt; rw [getD_at h, hw]; rfl
theorem okAt_is {l : List ByteArray} {k : Nat} (h : k < l.length) (hw : wordOk l[k].data.toList = true) : okAt l k = !hasB (l.take k) l[k] := by
  unfold okAt; rw [getD_at h, hw]; rfl
theorem IsStrs.take {w : World} {b off cap : Nat} {l : List ByteArray} (h2 : ∀ s ∈ l, s.size ≤ 9223372036854775807) (h3 : l.length ≤ cap) (h4 : cap ≤ 9223372036854775807)
    (h6 : StrAt w b off l) {k : Nat} (hk : k ≤ l.length) : IsStrs w (.slice (some ⟨b, off, none⟩) k cap) (l.take k) := by
  have e : (l.take k).length = k := by simp; omega
  refine ⟨by omega, fun s hs => h2 s (List.mem_of_mem_take hs), some ⟨b, off, none⟩, cap, by rw [e], by omega, h4, .inr ⟨b, off, rfl, fun i hi => ?_⟩⟩
  have := h6 i (by omega)
  rw [this]; simp
theorem IsStrs.all {w : World} {a : Option Addr} {l : List ByteArray} (h6 : l = [] ∨ ∃ b off, a = some ⟨b, off, none⟩ ∧ StrAt w b off l) {k : Nat} (hk : k < l.length) :
    ∃ b off, a = some ⟨b, off, none⟩ ∧ StrAt w b off l := by
  rcases h6 with rfl | h
  · cases hk
  · exact h

/-- At most six words, no two alike. -/
def wordsOk (l : List ByteArray) : Bool := decide (l.length ≤ 6) && wordsAll l

set_option maxHeartbeats 1000000 in
theorem implWords_any (v : Value) (l : List ByteArray) (w : World) (h : IsStrs w v l) :
    Calls Tryd.prog 107 #[v] w fun e w' => e = .returned (.bool (wordsOk l)) ∧ w = w' := by
  obtain ⟨h1, h2, a, cap, rfl, h3, h4, h6⟩ := h
  have H6 := Lib.hid h6
  have H2 := Lib.hid h2
  clear h6 h2
  by_cases hlen : 6 < l.length
  · have HR : Hid (wordsOk l = false) := by show _ = _; unfold wordsOk; rw [decide_eq_false (by omega)]; rfl
    have hl : (6 : Int) < l.length := by omega
    go_enter Tryd.func107, Tryd.ntmps107
    go_wp2_with fail
    go_ret
    exact ⟨ret_bool HR.out.symm, rfl⟩
  · have HR : Hid (wordsOk l = wordsAll l) := by show _ = _; unfold wordsOk; rw [decide_eq_true (by omega)]; rfl
    have hl : (l.length : Int) ≤ 6 := by omega
    go_enter Tryd.func107, Tryd.ntmps107
    go_wp2_with fail
    go_loop [10] (fun i => ∃ k : Nat, k ≤ l.length ∧ i = .int .i64 k ∧ Hid ((List.range k).all (okAt l) = true)) (fun i => l.length - (intOf i).toNat)
    case atStart => exact ⟨0, Nat.zero_le _, rfl, rfl⟩
    case round =>
      obtain ⟨k, hk, rfl, HK⟩ := hrel
      by_cases hlt : k < l.length
      · obtain ⟨b, off, rfl, hS⟩ := IsStrs.all H6.out hlt
        have hc := hS k hlt
        have HS := Lib.hid hS
        have hkc : k ≤ cap := by omega
        have HM := Lib.hid (H2.out l[k] (List.getElem_mem hlt))
        clear hS
        cases hw : wordOk l[k].data.toList
        · have HW := Lib.hid hw
          have HN := Lib.hid (words_no hlt (okAt_word hlt hw))
          clear hw
          go_wp2_with fail
          refine (implWord_is _ _ HW.out _ (by have := HM.out; unfold maxLen; omega)).mono ?_
          rintro e w' ⟨rfl, rfl⟩
          go_wp2_with fail
          go_ret
          exact ⟨ret_bool (by rw [HR.out, HN.out]), rfl⟩
        · have HW := Lib.hid hw
          have HO := Lib.hid (okAt_is hlt hw)
          clear hw
          cases hh : hasB (l.take k) l[k]
          · have HH := Lib.hid hh
            have HO2 := Lib.hid (words_snoc HK.out (by rw [HO.out, hh]; rfl))
            clear hh
            go_wp2_with fail
            refine (implWord_is _ _ HW.out _ (by have := HM.out; unfold maxLen; omega)).mono ?_
            rintro e w' ⟨rfl, rfl⟩
            go_wp2_with fail
            refine (contains_is _ (l.take k) _ _ HH.out _ (IsStrs.take H2.out h3 h4 HS.out (by omega))).mono ?_
            rintro e w' ⟨rfl, rfl⟩
            go_wp2_with fail
            go_round
            case rel => exact ⟨k + 1, hlt, by go_num, HO2.out⟩
            case measure => simp [intOf]; omega
          · have HH := Lib.hid hh
            have HN := Lib.hid (words_no hlt (show okAt l k = false by rw [HO.out, hh]; rfl))
            clear hh
            go_wp2_with fail
            refine (implWord_is _ _ HW.out _ (by have := HM.out; unfold maxLen; omega)).mono ?_
            rintro e w' ⟨rfl, rfl⟩
            go_wp2_with fail
            refine (contains_is _ (l.take k) _ _ HH.out _ (IsStrs.take H2.out h3 h4 HS.out (by omega))).mono ?_
            rintro e w' ⟨rfl, rfl⟩
            go_wp2_with fail
            go_ret
            exact ⟨ret_bool (by rw [HR.out, HN.out]), rfl⟩
      · obtain rfl : k = l.length := by omega
        have HN : Hid (wordsAll l = true) := HK.out
        go_wp2_with fail
        go_ret
        exact ⟨ret_bool (by rw [HR.out, HN.out]), rfl⟩

theorem quiet_is {P : Program} {f : FuncId} {args : Array Value} {w : World} {n : Nat} {v : Value}
    (h : Calls P f args (w.drewN n) fun e w' => e = .returned v ∧ w.drewN n = w') : Calls P f args (w.drewN n) fun e w'' => e = .returned v ∧ ∃ m, w'' = w.drewN m :=
  Calls.quiet_of_same (h.mono fun _ _ ⟨a, b⟩ => ⟨a, b.symm⟩)

theorem at_is (v : Value) (l : List ByteArray) (t : ByteArray) (p : Int) (hp : posOf l t = p) (w : World) (h : IsStrs w v l) :
    Calls Tryd.prog 79 #[v, .string t] w fun e w' => e = .returned (.int .i64 p) ∧ w = w' := by
  subst hp; exact at_any v l t w h
/-- Words as the model asks it: so many, no two alike. -/
def wordsIn (l : List ByteArray) (low high : Nat) : Bool := wordsAll l && (decide (low ≤ l.length) && decide (l.length ≤ high))

set_option maxHeartbeats 1000000 in
theorem specWords_any (v : Value) (l : List ByteArray) (low high : Nat) (w : World) (h : IsStrs w v l) :
    Calls Tryd.prog 74 #[v, .int .i64 low, .int .i64 high] w fun e w' => e = .returned (.bool (wordsIn l low high)) ∧ Below w.heap.size w w' := by
  obtain ⟨h1, h2, a, cap, rfl, h3, h4, h6⟩ := h
  have H6 := Lib.hid h6
  have H2 := Lib.hid h2
  clear h6 h2
  go_enter Tryd.func74, Tryd.ntmps74
  go_wp2_with fail
  go_loopw [7] (fun i wr => ∃ k : Nat, k ≤ l.length ∧ i = .int .i64 k ∧ Hid ((List.range k).all (okAt l) = true) ∧ Hid (Below w.heap.size w wr)) (fun i _ => l.length - (intOf i).toNat)
  case atStart => exact ⟨0, Nat.zero_le _, rfl, rfl, Below.refl _ _⟩
  case round =>
    obtain ⟨k, hk, rfl, HK, HB⟩ := hrel
    by_cases hlt : k < l.length
    · obtain ⟨b, off, rfl, hS⟩ := IsStrs.all H6.out hlt
      have hKp := Keeps.of_below HB.out
      have hc := hKp _ _ _ (hS k hlt)
      have HS := Lib.hid (hS.keep hKp)
      have hkc : k ≤ cap := by omega
      have HM := Lib.hid (H2.out l[k] (List.getElem_mem hlt))
      clear hS hKp
      cases hw : wordOk l[k].data.toList
      · have HW := Lib.hid hw
        have HN : Hid (wordsIn l low high = false) := by show _ = _; unfold wordsIn; rw [words_no hlt (okAt_word hlt hw)]; rfl
        clear hw
        go_wp2_with fail
        go_quiet (first | (go_at_call 50; exact quiet_is (specWord_is _ _ HW.out _ (by have := HM.out; unfold maxLen; omega))))
        go_wp2_with fail
        go_ret
        exact ⟨ret_bool HN.out.symm, below_drewN HB.out _⟩
      · have HW := Lib.hid hw
        have HO := Lib.hid (okAt_is hlt hw)
        clear hw
        have hplo := posOf_lo (l.take k) l[k]
        obtain ⟨p, hp⟩ : ∃ p, posOf (l.take k) l[k] = p := ⟨_, rfl⟩
        have HP := Lib.hid hp
        clear hp
        rw [HP.out] at hplo
        have HH : Hid (hasB (l.take k) l[k] = decide (0 ≤ p)) := by show _ = _; rw [← HP.out]; rfl
        by_cases h0 : 0 ≤ p
        · have HN : Hid (wordsIn l low high = false) := by show _ = _; unfold wordsIn; rw [words_no hlt (show okAt l k = false by rw [HO.out, HH.out]; simp [h0])]; rfl
          go_wp2_with fail
          go_quiet (first | (go_at_call 50; exact quiet_is (specWord_is _ _ HW.out _ (by have := HM.out; unfold maxLen; omega))) | (go_at_call 79; exact quiet_is (at_is _ (l.take k) _ p HP.out _ (IsStrs.keep (IsStrs.take H2.out h3 h4 HS.out (by omega)) keeps_drewN))))
          go_wp2_with fail
          go_ret
          exact ⟨ret_bool HN.out.symm, below_drewN HB.out _⟩
        · have HO2 := Lib.hid (words_snoc HK.out (show okAt l k = true by rw [HO.out, HH.out]; simp; omega))
          have h0 : p < 0 := by omega
          have h0' : decide (0 ≤ p) = false := by simp; omega
          go_wp2_with fail
          go_quiet (first | (go_at_call 50; exact quiet_is (specWord_is _ _ HW.out _ (by have := HM.out; unfold maxLen; omega))) | (go_at_call 79; exact quiet_is (at_is _ (l.take k) _ p HP.out _ (IsStrs.keep (IsStrs.take H2.out h3 h4 HS.out (by omega)) keeps_drewN))))
          go_wp2_with fail
          go_roundw
          case rel => exact ⟨k + 1, hlt, by go_num, HO2.out, below_drewN HB.out _⟩
          case measure => simp [intOf]; omega
    · obtain rfl : k = l.length := by omega
      have HN : Hid (wordsAll l = true) := HK.out
      by_cases hlo : low ≤ l.length
      · by_cases hhi : l.length ≤ high
        · have HR : Hid (wordsIn l low high = true) := by show _ = _; unfold wordsIn; rw [HN.out]; simp [hlo, hhi]
          have a1 : (low : Int) ≤ l.length := by omega
          have a2 : (l.length : Int) ≤ high := by omega
          go_wp2_with fail
          go_ret
          exact ⟨ret_bool HR.out.symm, HB.out⟩
        · have HR : Hid (wordsIn l low high = false) := by show _ = _; unfold wordsIn; simp [hhi]
          have a1 : (low : Int) ≤ l.length := by omega
          have a2 : decide (l.length ≤ high) = false := by simp; omega
          go_wp2_with fail
          go_ret
          exact ⟨ret_bool HR.out.symm, HB.out⟩
      · have HR : Hid (wordsIn l low high = false) := by show _ = _; unfold wordsIn; simp [hlo]
        have a2 : decide (low ≤ l.length) = false := by simp; omega
        go_wp2_with fail
        go_ret
        exact ⟨ret_bool HR.out.symm, HB.out⟩
end Go.Proofs.YtfdhmkmeffgkgaaDoor
