/- Walks: the methods fits of the kinds that have no parts. -/
import Derived.Test.YtphiljhdonnpmaaGreatDoorHFitW
import Derived.Test.YtphiljhdonnpmaaGreatDoorHPartB
namespace Go.Proofs.YtphiljhdonnpmaaGreatDoor
open Go.RowKit

theorem fm_flag (v : Value) (w : World) : (method 398 161 v "loop.example/g00848/impl.fits").run Tryz.prog w = .ok (228, v) w := by kernel_rfl
theorem fe_flag (args : Array Value) (w : World) : (callFunc 228 args).run Tryz.prog w = .ok (.enter 228 args) w := enter_of Tryz.func228 (by kernel_rfl) rfl args w
theorem fm_num (v : Value) (w : World) : (method 398 163 v "loop.example/g00848/impl.fits").run Tryz.prog w = .ok (232, v) w := by kernel_rfl
theorem fe_num (args : Array Value) (w : World) : (callFunc 232 args).run Tryz.prog w = .ok (.enter 232 args) w := enter_of Tryz.func232 (by kernel_rfl) rfl args w
theorem fm_text (v : Value) (w : World) : (method 398 164 v "loop.example/g00848/impl.fits").run Tryz.prog w = .ok (234, v) w := by kernel_rfl
theorem fe_text (args : Array Value) (w : World) : (callFunc 234 args).run Tryz.prog w = .ok (.enter 234 args) w := enter_of Tryz.func234 (by kernel_rfl) rfl args w
theorem fm_pick (v : Value) (w : World) : (method 398 166 v "loop.example/g00848/impl.fits").run Tryz.prog w = .ok (237, v) w := by kernel_rfl
theorem fe_pick (args : Array Value) (w : World) : (callFunc 237 args).run Tryz.prog w = .ok (.enter 237 args) w := enter_of Tryz.func237 (by kernel_rfl) rfl args w
theorem fm_maybe (v : Value) (w : World) : (method 398 167 v "loop.example/g00848/impl.fits").run Tryz.prog w = .ok (242, v) w := by kernel_rfl
theorem fe_maybe (args : Array Value) (w : World) : (callFunc 242 args).run Tryz.prog w = .ok (.enter 242 args) w := enter_of Tryz.func242 (by kernel_rfl) rfl args w
theorem fm_list (v : Value) (w : World) : (method 398 169 v "loop.example/g00848/impl.fits").run Tryz.prog w = .ok (247, v) w := by kernel_rfl
theorem fe_list (args : Array Value) (w : World) : (callFunc 247 args).run Tryz.prog w = .ok (.enter 247 args) w := enter_of Tryz.func247 (by kernel_rfl) rfl args w
theorem fm_rec (v : Value) (w : World) : (method 398 171 v "loop.example/g00848/impl.fits").run Tryz.prog w = .ok (249, v) w := by kernel_rfl
theorem fe_rec (args : Array Value) (w : World) : (callFunc 249 args).run Tryz.prog w = .ok (.enter 249 args) w := enter_of Tryz.func249 (by kernel_rfl) rfl args w

theorem flagFits_any (c0 : Value) (k n : Int) (t : ByteArray) (p1 p2 p3 p : Option Addr) (n1 n2 n3 m1 m2 m3 l m : Nat) (w : World) :
    Calls Tryz.prog 228 #[.agg #[c0, .slice p1 n1 m1, .slice p2 n2 m2, .slice p3 n3 m3], .agg #[.int .i64 k, .int .i64 n, .string t, .slice p l m]] w fun e w' => e = .returned (.bool ((decide (t.size = 0) && decide (l = 0)) && (decide (0 ≤ n) && decide (n ≤ 1)))) ∧ Below w.heap.size w w' := by
  have HB := Lib.hid (fun o1 o2 => (below_alloc w o1).alloc (by simp) o2)
  cases hb : (decide (t.size = 0) && decide (l = 0))
  · have H := Lib.hid hb
    clear hb
    go_enter Tryz.func228, Tryz.ntmps228
    go_wp2_with fail
    refine (isNumber_is _ _ _ _ _ _ _ H.out _).mono ?_
    rintro e w1 ⟨rfl, hb1⟩
    have HB1 := Lib.hid ((HB.out _ _).trans (hb1.mono (by simp; omega)))
    clear hb1
    go_wp2_with fail
    go_ret
    exact ⟨rfl, HB1.out⟩
  · have H := Lib.hid hb
    clear hb
    have HX := Lib.hid (two_new w (.cells #[c0, .slice p1 n1 m1, .slice p2 n2 m2, .slice p3 n3 m3] 161) (.cells #[.int .i64 k, .int .i64 n, .string t, .slice p l m] 38))
    by_cases h0 : 0 ≤ n
    · by_cases h1 : n ≤ 1
      · have HR : Hid ((decide (0 ≤ n) && decide (n ≤ 1)) = true) := by show _ = _; simp [h0, h1]
        go_enter Tryz.func228, Tryz.ntmps228
        go_wp2_with fail
        refine (isNumber_is _ _ _ _ _ _ _ H.out _).mono ?_
        rintro e w1 ⟨rfl, hb1⟩
        have HB1 := Lib.hid ((HB.out _ _).trans (hb1.mono (by simp; omega)))
        obtain ⟨b0, b1, b2, b3, _, _, _, _, bz⟩ := blk4 (blk_below HX.out.2 hb1 (by simp))
        clear hb1
        go_wp2_with fail
        go_ret
        exact ⟨ret_bool HR.out.symm, HB1.out⟩
      · have HR : Hid (decide (n ≤ 1) = (true && (decide (0 ≤ n) && decide (n ≤ 1)))) := by show _ = _; simp [h0]
        have h1 : 1 < n := by omega
        go_enter Tryz.func228, Tryz.ntmps228
        go_wp2_with fail
        refine (isNumber_is _ _ _ _ _ _ _ H.out _).mono ?_
        rintro e w1 ⟨rfl, hb1⟩
        have HB1 := Lib.hid ((HB.out _ _).trans (hb1.mono (by simp; omega)))
        obtain ⟨b0, b1, b2, b3, _, _, _, _, bz⟩ := blk4 (blk_below HX.out.2 hb1 (by simp))
        clear hb1
        go_wp2_with fail
        go_ret
        exact ⟨ret_bool HR.out, HB1.out⟩
    · have HR : Hid ((decide (0 ≤ n) && decide (n ≤ 1)) = false) := by show _ = _; simp [h0]
      have h0 : n < 0 := by omega
      go_enter Tryz.func228, Tryz.ntmps228
      go_wp2_with fail
      refine (isNumber_is _ _ _ _ _ _ _ H.out _).mono ?_
      rintro e w1 ⟨rfl, hb1⟩
      have HB1 := Lib.hid ((HB.out _ _).trans (hb1.mono (by simp; omega)))
      obtain ⟨b0, b1, b2, b3, _, _, _, _, bz⟩ := blk4 (blk_below HX.out.2 hb1 (by simp))
      clear hb1
      go_wp2_with fail
      go_ret
      exact ⟨ret_bool HR.out.symm, HB1.out⟩

theorem numFits_any (c0 : Value) (k n : Int) (t : ByteArray) (p1 p2 p3 p : Option Addr) (n1 n2 n3 m1 m2 m3 l m : Nat) (w : World) :
    Calls Tryz.prog 232 #[.agg #[c0, .slice p1 n1 m1, .slice p2 n2 m2, .slice p3 n3 m3], .agg #[.int .i64 k, .int .i64 n, .string t, .slice p l m]] w fun e w' => e = .returned (.bool ((decide (t.size = 0) && decide (l = 0)) && (decide (0 ≤ n) && decide (n ≤ 1000000)))) ∧ Below w.heap.size w w' := by
  have HB := Lib.hid (fun o1 o2 => (below_alloc w o1).alloc (by simp) o2)
  cases hb : (decide (t.size = 0) && decide (l = 0))
  · have H := Lib.hid hb
    clear hb
    go_enter Tryz.func232, Tryz.ntmps232
    go_wp2_with fail
    refine (isNumber_is _ _ _ _ _ _ _ H.out _).mono ?_
    rintro e w1 ⟨rfl, hb1⟩
    have HB1 := Lib.hid ((HB.out _ _).trans (hb1.mono (by simp; omega)))
    clear hb1
    go_wp2_with fail
    go_ret
    exact ⟨rfl, HB1.out⟩
  · have H := Lib.hid hb
    clear hb
    have HX := Lib.hid (two_new w (.cells #[c0, .slice p1 n1 m1, .slice p2 n2 m2, .slice p3 n3 m3] 163) (.cells #[.int .i64 k, .int .i64 n, .string t, .slice p l m] 38))
    by_cases h0 : 0 ≤ n
    · by_cases h1 : n ≤ 1000000
      · have HR : Hid ((decide (0 ≤ n) && decide (n ≤ 1000000)) = true) := by show _ = _; simp [h0, h1]
        go_enter Tryz.func232, Tryz.ntmps232
        go_wp2_with fail
        refine (isNumber_is _ _ _ _ _ _ _ H.out _).mono ?_
        rintro e w1 ⟨rfl, hb1⟩
        have HB1 := Lib.hid ((HB.out _ _).trans (hb1.mono (by simp; omega)))
        obtain ⟨b0, b1, b2, b3, _, _, _, _, bz⟩ := blk4 (blk_below HX.out.2 hb1 (by simp))
        clear hb1
        go_wp2_with fail
        go_ret
        exact ⟨ret_bool HR.out.symm, HB1.out⟩
      · have HR : Hid (decide (n ≤ 1000000) = (true && (decide (0 ≤ n) && decide (n ≤ 1000000)))) := by show _ = _; simp [h0]
        have h1 : 1000000 < n := by omega
        go_enter Tryz.func232, Tryz.ntmps232
        go_wp2_with fail
        refine (isNumber_is _ _ _ _ _ _ _ H.out _).mono ?_
        rintro e w1 ⟨rfl, hb1⟩
        have HB1 := Lib.hid ((HB.out _ _).trans (hb1.mono (by simp; omega)))
        obtain ⟨b0, b1, b2, b3, _, _, _, _, bz⟩ := blk4 (blk_below HX.out.2 hb1 (by simp))
        clear hb1
        go_wp2_with fail
        go_ret
        exact ⟨ret_bool HR.out, HB1.out⟩
    · have HR : Hid ((decide (0 ≤ n) && decide (n ≤ 1000000)) = false) := by show _ = _; simp [h0]
      have h0 : n < 0 := by omega
      go_enter Tryz.func232, Tryz.ntmps232
      go_wp2_with fail
      refine (isNumber_is _ _ _ _ _ _ _ H.out _).mono ?_
      rintro e w1 ⟨rfl, hb1⟩
      have HB1 := Lib.hid ((HB.out _ _).trans (hb1.mono (by simp; omega)))
      obtain ⟨b0, b1, b2, b3, _, _, _, _, bz⟩ := blk4 (blk_below HX.out.2 hb1 (by simp))
      clear hb1
      go_wp2_with fail
      go_ret
      exact ⟨ret_bool HR.out.symm, HB1.out⟩

theorem textFits_any (c0 : Value) (k n : Int) (t : ByteArray) (p1 p2 p3 p : Option Addr) (n1 n2 n3 m1 m2 m3 l m : Nat) (w : World) (ht : t.size ≤ 9223372036854775807) :
    Calls Tryz.prog 234 #[.agg #[c0, .slice p1 n1 m1, .slice p2 n2 m2, .slice p3 n3 m3], .agg #[.int .i64 k, .int .i64 n, .string t, .slice p l m]] w fun e w' => e = .returned (.bool ((decide (n = 0) && decide (l = 0)) && plainOk t.data.toList)) ∧ Below w.heap.size w w' := by
  have HB := Lib.hid (fun o1 o2 => (below_alloc w o1).alloc (by simp) o2)
  cases hb : (decide (n = 0) && decide (l = 0))
  · have H := Lib.hid hb
    clear hb
    go_enter Tryz.func234, Tryz.ntmps234
    go_wp2_with fail
    refine (isText_is _ _ _ _ _ _ _ H.out _).mono ?_
    rintro e w1 ⟨rfl, hb1⟩
    have HB1 := Lib.hid ((HB.out _ _).trans (hb1.mono (by simp; omega)))
    clear hb1
    go_wp2_with fail
    go_ret
    exact ⟨rfl, HB1.out⟩
  · have H := Lib.hid hb
    clear hb
    have HX := Lib.hid (two_new w (.cells #[c0, .slice p1 n1 m1, .slice p2 n2 m2, .slice p3 n3 m3] 164) (.cells #[.int .i64 k, .int .i64 n, .string t, .slice p l m] 38))
    have HT := Lib.hid ht
    clear ht
    go_enter Tryz.func234, Tryz.ntmps234
    go_wp2_with fail
    refine (isText_is _ _ _ _ _ _ _ H.out _).mono ?_
    rintro e w1 ⟨rfl, hb1⟩
    have HB1 := Lib.hid ((HB.out _ _).trans (hb1.mono (by simp; omega)))
    obtain ⟨b0, b1, b2, b3, _, _, _, _, bz⟩ := blk4 (blk_below HX.out.2 hb1 (by simp))
    clear hb1
    go_wp2_with fail
    refine (plainText_any _ _ HT.out).mono ?_
    rintro e w' ⟨rfl, rfl⟩
    go_wp2_with fail
    go_ret
    exact ⟨rfl, HB1.out⟩

theorem pickFits_any (c0 : Value) (k n : Int) (t : ByteArray) (p1 p2 p3 p : Option Addr) (n2 n3 m1 m2 m3 l m : Nat) (sy : List ByteArray) (w : World) (hs : IsStrs w (.slice p1 sy.length m1) sy) :
    Calls Tryz.prog 237 #[.agg #[c0, .slice p1 sy.length m1, .slice p2 n2 m2, .slice p3 n3 m3], .agg #[.int .i64 k, .int .i64 n, .string t, .slice p l m]] w fun e w' => e = .returned (.bool ((decide (n = 0) && decide (l = 0)) && hasB sy t)) ∧ Below w.heap.size w w' := by
  have HB := Lib.hid (fun o1 o2 => (below_alloc w o1).alloc (by simp) o2)
  cases hb : (decide (n = 0) && decide (l = 0))
  · have H := Lib.hid hb
    clear hb
    go_enter Tryz.func237, Tryz.ntmps237
    go_wp2_with fail
    refine (isText_is _ _ _ _ _ _ _ H.out _).mono ?_
    rintro e w1 ⟨rfl, hb1⟩
    have HB1 := Lib.hid ((HB.out _ _).trans (hb1.mono (by simp; omega)))
    clear hb1
    go_wp2_with fail
    go_ret
    exact ⟨rfl, HB1.out⟩
  · have H := Lib.hid hb
    clear hb
    have HX := Lib.hid (two_new w (.cells #[c0, .slice p1 sy.length m1, .slice p2 n2 m2, .slice p3 n3 m3] 166) (.cells #[.int .i64 k, .int .i64 n, .string t, .slice p l m] 38))
    have HS := Lib.hid hs
    clear hs
    go_enter Tryz.func237, Tryz.ntmps237
    go_wp2_with fail
    refine (isText_is _ _ _ _ _ _ _ H.out _).mono ?_
    rintro e w1 ⟨rfl, hb1⟩
    have HB1 := Lib.hid ((HB.out _ _).trans (hb1.mono (by simp; omega)))
    obtain ⟨a0, a1, a2, a3, _, _, _, _, az⟩ := blk4 (blk_below HX.out.1 hb1 (by simp; omega))
    obtain ⟨b0, b1, b2, b3, _, _, _, _, bz⟩ := blk4 (blk_below HX.out.2 hb1 (by simp))
    clear hb1
    go_wp2_with fail
    refine (contains_any _ sy _ _ (HS.out.keep (Keeps.of_below HB1.out))).mono ?_
    rintro e w' ⟨rfl, rfl⟩
    go_wp2_with fail
    go_ret
    exact ⟨rfl, HB1.out⟩


theorem vall_take_succ {f : Va → Bool} {l : List Va} {k : Nat} (h : k < l.length) (hk : (l.take k).all f = true) (hn : f l[k] = true) : (l.take (k + 1)).all f = true := by
  rw [List.take_succ_eq_append_getElem h, List.all_append, hk]; simp [hn]
theorem vall_at_no {f : Va → Bool} {l : List Va} {k : Nat} (h : k < l.length) (hn : f l[k] = false) : l.all f = false := by
  rw [List.all_eq_false]; exact ⟨l[k], List.getElem_mem h, by simp [hn]⟩

/-- impl.fitsRight's contract at the right shapes of so many levels. -/
def FrAt (d : Nat) : Prop := ∀ (t : Sh) (x : Va) (v u : Value) (w : World), partOk d t = true → IsSh w t v → IsVa w x u →
  Calls Tryz.prog 78 #[v, u] w fun e w' => e = .returned (.bool (fitB t x)) ∧ Below w.heap.size w w'

set_option maxHeartbeats 1000000 in
theorem allFit_any (d : Nat) (ih : FrAt d) (s : Sh) (hp : partOk d s = true) (v u : Value) (l : List Va) (w : World) (h : IsSh w s v) (g : IsVas w u l) :
    Calls Tryz.prog 245 #[v, u] w fun e w' => e = .returned (.bool (l.all (fitB s))) ∧ Below w.heap.size w w' := by
  have HS := Lib.hid h
  have HP := Lib.hid hp
  have IH := Lib.hid ih
  obtain ⟨p1, n1, m1, p2, n2, m2, p3, n3, m3, rfl⟩ := h.agg
  obtain ⟨a, cap, rfl, h3, h4, h6⟩ := g
  have H6 := Lib.hid h6
  have HX0 := Lib.hid (Go.Deep.blk_alloc_new w (.cells #[.int .i64 s.kd, .slice p1 n1 m1, .slice p2 n2 m2, .slice p3 n3 m3] 34))
  clear h hp ih h6
  go_enter Tryz.func245, Tryz.ntmps245
  go_wp2_with fail
  go_loopw [9] (fun i wr => ∃ j : Nat, j ≤ l.length ∧ i = .int .i64 j ∧ Hid ((l.take j).all (fitB s) = true) ∧ Hid (Below w.heap.size w wr) ∧ Hid (wr.heap[w.heap.size]? = some (.cells #[.int .i64 s.kd, .slice p1 n1 m1, .slice p2 n2 m2, .slice p3 n3 m3] 34 (0, 0)))) (fun i _ => l.length - (intOf i).toNat)
  case atStart => exact ⟨0, Nat.zero_le _, rfl, rfl, below_alloc _ _, HX0.out⟩
  case round =>
    obtain ⟨j, hj, rfl, HJ, HBr, HX⟩ := hrel
    by_cases hlt : j < l.length
    · obtain ⟨b, off, rfl, c0, c1, c2, c3, g0, g1, g2, g3, g4⟩ := IsVas.at H6.out hlt
      have HKp := Lib.hid (Keeps.of_below HBr.out)
      have k0 := HKp.out _ _ _ g0
      have k1 := HKp.out _ _ _ g1
      have k2 := HKp.out _ _ _ g2
      have k3 := HKp.out _ _ _ g3
      have K4 := Lib.hid (IsVa.keep HKp.out _ _ g4)
      obtain ⟨q3, j3, rfl, rfl, rfl, rfl⟩ := g4.cells
      obtain ⟨a0, a1, a2, a3, _, _, _, _, az⟩ := blk4 HX.out
      have HN := Lib.hid (HBr.out.alloc HBr.out.size (.cells #[.int .i64 l[j].kd, .int .i64 l[j].nn, .string l[j].tx, .slice q3 l[j].it.length j3] 38))
      have HXN := Lib.hid (blk_below HX.out (below_alloc wr (.cells #[.int .i64 l[j].kd, .int .i64 l[j].nn, .string l[j].tx, .slice q3 l[j].it.length j3] 38)) az)
      clear g0 g1 g2 g3 g4
      cases hp : fitB s l[j]
      · have HE := Lib.hid hp
        have HF := Lib.hid (vall_at_no (f := fitB s) hlt hp)
        clear hp
        go_wp2_with fail
        refine (IH.out s l[j] _ _ _ HP.out (IsSh.keep (Keeps.of_below HN.out) _ _ HS.out) (IsVa.keep (keeps_alloc _ _) _ _ K4.out)).mono ?_
        rintro e w3 ⟨rfl, hb3⟩
        rw [HE.out]
        have HB3 := Lib.hid (HN.out.trans (hb3.mono HN.out.size))
        clear hb3
        go_wp2_with fail
        go_ret
        exact ⟨ret_bool HF.out.symm, HB3.out⟩
      · have HE := Lib.hid hp
        have HF := Lib.hid (vall_take_succ (f := fitB s) hlt HJ.out hp)
        clear hp
        go_wp2_with fail
        refine (IH.out s l[j] _ _ _ HP.out (IsSh.keep (Keeps.of_below HN.out) _ _ HS.out) (IsVa.keep (keeps_alloc _ _) _ _ K4.out)).mono ?_
        rintro e w3 ⟨rfl, hb3⟩
        rw [HE.out]
        have HX3 := Lib.hid (blk_below HXN.out hb3 (by simp; omega))
        have HB3 := Lib.hid (HN.out.trans (hb3.mono HN.out.size))
        clear hb3
        go_wp2_with fail
        go_roundw
        case rel => exact ⟨j + 1, hlt, by go_num, HF.out, HB3.out, HX3.out⟩
        case measure => simp [intOf]; omega
    · obtain rfl : j = l.length := by omega
      have HF : Hid (l.all (fitB s) = true) := by have := HJ.out; rwa [List.take_length] at this
      go_wp2_with fail
      go_ret
      exact ⟨ret_bool HF.out.symm, HBr.out⟩
end Go.Proofs.YtphiljhdonnpmaaGreatDoor
