/- Walks: impl.rightWithin, spec.l02Part. -/
import Derived.Test.YtfdhmkmeffgkgaaDoorGKindA
import Derived.Test.YtfdhmkmeffgkgaaDoorGEqA
namespace Go.Proofs.YtfdhmkmeffgkgaaDoor
open Go.RowKit

/-- Right, and no deeper than so. -/
def partOk : Nat → Sh → Bool
  | 0, _ => false
  | d + 1, .mk k sy na su => soundOf k sy na su.length && su.all (partOk d)

theorem enter_of {f : FuncId} {fn : Func} {c : Code} (hf : Tryd.prog.funcs[f]? = some fn) (hname : (fn.name == "runtime.NumGoroutine") = false) (hb : fn.body = some c) (args : Array Value) (w : World) :
    (callFunc f args).run Tryd.prog w = .ok (.enter f args) w := by
  have h1 : fn.name ≠ "runtime.NumGoroutine" := by simpa using hname
  simp [callFunc, hf, h1, hb]

def RwAt (d : Nat) : Prop := ∀ (t : Sh) (v : Value) (w : World), IsSh w t v →
  Calls Tryd.prog 76 #[v, .int .i64 d] w fun e w' => e = .returned (.bool (partOk d t)) ∧ Below w.heap.size w w'

theorem meth_flag (v : Value) (w : World) : (method 226 92 v "loop.example/g00848/impl.sound").run Tryd.prog w = .ok (100, v) w := by kernel_rfl
theorem meth_num (v : Value) (w : World) : (method 226 93 v "loop.example/g00848/impl.sound").run Tryd.prog w = .ok (102, v) w := by kernel_rfl
theorem meth_text (v : Value) (w : World) : (method 226 94 v "loop.example/g00848/impl.sound").run Tryd.prog w = .ok (104, v) w := by kernel_rfl
theorem meth_pick (v : Value) (w : World) : (method 226 95 v "loop.example/g00848/impl.sound").run Tryd.prog w = .ok (106, v) w := by kernel_rfl
theorem meth_maybe (v : Value) (w : World) : (method 226 96 v "loop.example/g00848/impl.sound").run Tryd.prog w = .ok (111, v) w := by kernel_rfl
theorem meth_list (v : Value) (w : World) : (method 226 97 v "loop.example/g00848/impl.sound").run Tryd.prog w = .ok (114, v) w := by kernel_rfl
theorem meth_rec (v : Value) (w : World) : (method 226 98 v "loop.example/g00848/impl.sound").run Tryd.prog w = .ok (116, v) w := by kernel_rfl

theorem enter_flag (args : Array Value) (w : World) : (callFunc 100 args).run Tryd.prog w = .ok (.enter 100 args) w := enter_of Tryd.func100 (by kernel_rfl) rfl args w
theorem enter_num (args : Array Value) (w : World) : (callFunc 102 args).run Tryd.prog w = .ok (.enter 102 args) w := enter_of Tryd.func102 (by kernel_rfl) rfl args w
theorem enter_text (args : Array Value) (w : World) : (callFunc 104 args).run Tryd.prog w = .ok (.enter 104 args) w := enter_of Tryd.func104 (by kernel_rfl) rfl args w
theorem enter_pick (args : Array Value) (w : World) : (callFunc 106 args).run Tryd.prog w = .ok (.enter 106 args) w := enter_of Tryd.func106 (by kernel_rfl) rfl args w
theorem enter_maybe (args : Array Value) (w : World) : (callFunc 111 args).run Tryd.prog w = .ok (.enter 111 args) w := enter_of Tryd.func111 (by kernel_rfl) rfl args w
theorem enter_list (args : Array Value) (w : World) : (callFunc 114 args).run Tryd.prog w = .ok (.enter 114 args) w := enter_of Tryd.func114 (by kernel_rfl) rfl args w
theorem enter_rec (args : Array Value) (w : World) : (callFunc 116 args).run Tryd.prog w = .ok (.enter 116 args) w := enter_of Tryd.func116 (by kernel_rfl) rfl args w
theorem all_take_succ {f : Sh → Bool} {l : List Sh} {k : Nat} (h : k < l.length) (hk : (l.take k).all f = true) (hn : f l[k] = true) : (l.take (k + 1)).all f = true := by
  rw [List.take_succ_eq_append_getElem h, List.all_append, hk]; simp [hn]
theorem all_at_no {f : Sh → Bool} {l : List Sh} {k : Nat} (h : k < l.length) (hn : f l[k] = false) : l.all f = false := by
  rw [List.all_eq_false]; exact ⟨l[k], List.getElem_mem h, by simp [hn]⟩

/-- The call of sound, at a kind that there is, tells no. -/
theorem rw_no (T F : Nat) (d : Nat) (k : Int) (p1 p2 p3 : Option Addr) (n1 n2 n3 m1 m2 m3 : Nat) (w : World)
    (hm : ∀ (v : Value) (w : World), (method 226 T v "loop.example/g00848/impl.sound").run Tryd.prog w = .ok (F, v) w)
    (hF : ∀ (args : Array Value) (w : World), (callFunc F args).run Tryd.prog w = .ok (.enter F args) w)
    (hk : ∀ w, Calls Tryd.prog 80 #[.agg #[.int .i64 k, .slice p1 n1 m1, .slice p2 n2 m2, .slice p3 n3 m3]] w fun e w' => e = .returned (.iface T (.agg #[.int .i64 k, .slice p1 n1 m1, .slice p2 n2 m2, .slice p3 n3 m3])) ∧ Below w.heap.size w w')
    (hs : ∀ w', Keeps w w' → Calls Tryd.prog F #[.agg #[.int .i64 k, .slice p1 n1 m1, .slice p2 n2 m2, .slice p3 n3 m3]] w' fun e w'' => e = .returned (.bool false) ∧ Below w'.heap.size w' w'') :
    Calls Tryd.prog 76 #[.agg #[.int .i64 k, .slice p1 n1 m1, .slice p2 n2 m2, .slice p3 n3 m3], .int .i64 ((d + 1 : Nat) : Int)] w fun e w' => e = .returned (.bool false) ∧ Below w.heap.size w w' := by
  have hd : (((d + 1 : Nat) : Int) == 0) = false := by simp; omega
  have HK := Lib.hid hk
  have HS := Lib.hid hs
  have HB := Lib.hid (below_alloc w)
  clear hk hs
  go_enter Tryd.func76, Tryd.ntmps76
  go_wp2_with fail
  refine (HK.out _).mono ?_
  rintro e w1 ⟨rfl, hb1⟩
  have HB1 := Lib.hid ((HB.out _).trans (hb1.mono (by simp)))
  clear hb1
  go_wp2_with fail
  refine (HS.out _ (Keeps.of_below HB1.out)).mono ?_
  rintro e w2 ⟨rfl, hb2⟩
  have HB2 := Lib.hid (HB1.out.trans (hb2.mono HB1.out.size))
  clear hb2
  go_wp2_with fail
  go_ret
  exact ⟨rfl, HB2.out⟩

set_option maxHeartbeats 1000000 in
/-- .. tells yes: all parts are asked. -/
theorem rw_yes (T F : Nat) (d : Nat) (ih : RwAt d) (hd7 : d ≤ 5) (k : Int) (p1 p2 p3 : Option Addr) (n1 n2 m1 m2 m3 : Nat) (su : List Sh) (w : World) (hsu : IsShs w (.slice p3 su.length m3) su)
    (hm : ∀ (v : Value) (w : World), (method 226 T v "loop.example/g00848/impl.sound").run Tryd.prog w = .ok (F, v) w)
    (hF : ∀ (args : Array Value) (w : World), (callFunc F args).run Tryd.prog w = .ok (.enter F args) w)
    (hk : ∀ w, Calls Tryd.prog 80 #[.agg #[.int .i64 k, .slice p1 n1 m1, .slice p2 n2 m2, .slice p3 su.length m3]] w fun e w' => e = .returned (.iface T (.agg #[.int .i64 k, .slice p1 n1 m1, .slice p2 n2 m2, .slice p3 su.length m3])) ∧ Below w.heap.size w w')
    (hs : ∀ w', Keeps w w' → Calls Tryd.prog F #[.agg #[.int .i64 k, .slice p1 n1 m1, .slice p2 n2 m2, .slice p3 su.length m3]] w' fun e w'' => e = .returned (.bool true) ∧ Below w'.heap.size w' w'') :
    Calls Tryd.prog 76 #[.agg #[.int .i64 k, .slice p1 n1 m1, .slice p2 n2 m2, .slice p3 su.length m3], .int .i64 ((d + 1 : Nat) : Int)] w fun e w' => e = .returned (.bool (su.all (partOk d))) ∧ Below w.heap.size w w' := by
  have hd : (((d + 1 : Nat) : Int) == 0) = false := by simp; omega
  have HK := Lib.hid hk
  have HS := Lib.hid hs
  have IH := Lib.hid ih
  have HB := Lib.hid (below_alloc w)
  obtain ⟨a, cap, he, h3, h4, h6⟩ := hsu
  simp only [Value.slice.injEq] at he
  obtain ⟨rfl, _, rfl⟩ := he
  have H6 := Lib.hid h6
  clear hk hs ih h6
  go_enter Tryd.func76, Tryd.ntmps76
  go_wp2_with fail
  refine (HK.out _).mono ?_
  rintro e w1 ⟨rfl, hb1⟩
  have A1 := Lib.hid (blk_below (Go.Deep.blk_alloc_new w (.cells #[.int .i64 k, .slice p1 n1 m1, .slice p2 n2 m2, .slice p3 su.length m3] 31)) hb1 (by simp))
  have HB1 := Lib.hid ((HB.out _).trans (hb1.mono (by simp)))
  clear hb1
  go_wp2_with fail
  refine (HS.out _ (Keeps.of_below HB1.out)).mono ?_
  rintro e w2 ⟨rfl, hb2⟩
  have A2 := Lib.hid (blk_below A1.out hb2 (blk4 A1.out).2.2.2.2.2.2.2.2)
  have HB2 := Lib.hid (HB1.out.trans (hb2.mono HB1.out.size))
  clear hb2
  obtain ⟨a0, a1, a2, a3, _, _, _, _, az⟩ := blk4 A2.out
  go_wp2_with fail
  clear a0 a1 a2 a3 az
  go_loopw [22] (fun i wr => ∃ j : Nat, j ≤ su.length ∧ i = .int .i64 j ∧ Hid ((su.take j).all (partOk d) = true) ∧ Hid (Below w.heap.size w wr)) (fun i _ => su.length - (intOf i).toNat)
  case atStart => exact ⟨0, Nat.zero_le _, rfl, rfl, HB2.out⟩
  case round =>
    obtain ⟨j, hj, rfl, HJ, HBr⟩ := hrel
    by_cases hlt : j < su.length
    · obtain ⟨b, off, rfl, c0, c1, c2, c3, g0, g1, g2, g3, g4⟩ := IsShs.at H6.out hlt
      have HKp := Lib.hid (Keeps.of_below HBr.out)
      have k0 := HKp.out _ _ _ g0
      have k1 := HKp.out _ _ _ g1
      have k2 := HKp.out _ _ _ g2
      have k3 := HKp.out _ _ _ g3
      have K4 := Lib.hid (IsSh.keep HKp.out _ _ g4)
      obtain ⟨q1, i1, j1, q2, i2, j2, q3, i3, j3, rfl, rfl, rfl, rfl⟩ := g4.cells
      have HA := Lib.hid (HBr.out.alloc HBr.out.size)
      have hd1 : ((d + 1 : Nat) : Int) - 1 = (d : Int) := by omega
      clear g0 g1 g2 g3 g4
      cases hp : partOk d su[j]
      · have HP := Lib.hid hp
        have HN := Lib.hid (all_at_no (f := partOk d) hlt hp)
        clear hp
        go_wp2_with fail
        refine (IH.out su[j] _ _ (IsSh.keep (keeps_alloc _ _) _ _ K4.out)).mono ?_
        rintro e w3 ⟨rfl, hb3⟩
        rw [HP.out]
        have HB3 := Lib.hid ((HA.out _).trans (hb3.mono (HA.out _).size))
        clear hb3
        go_wp2_with fail
        go_ret
        exact ⟨ret_bool HN.out.symm, HB3.out⟩
      · have HP := Lib.hid hp
        have HN := Lib.hid (all_take_succ (f := partOk d) hlt HJ.out hp)
        clear hp
        go_wp2_with fail
        refine (IH.out su[j] _ _ (IsSh.keep (keeps_alloc _ _) _ _ K4.out)).mono ?_
        rintro e w3 ⟨rfl, hb3⟩
        rw [HP.out]
        have HB3 := Lib.hid ((HA.out _).trans (hb3.mono (HA.out _).size))
        clear hb3
        go_wp2_with fail
        go_roundw
        case rel => exact ⟨j + 1, hlt, by go_num, HN.out, HB3.out⟩
        case measure => simp [intOf]; omega
    · obtain rfl : j = su.length := by omega
      have HN : Hid (su.all (partOk d) = true) := by have := HJ.out; rwa [List.take_length] at this
      go_wp2_with fail
      go_ret
      exact ⟨ret_bool HN.out.symm, HBr.out⟩

theorem IsSh.open {w : World} {k : Int} {sy na : List ByteArray} {su : List Sh} {v : Value} (h : IsSh w (.mk k sy na su) v) : ∃ p1 m1 p2 m2 p3 m3, v = .agg #[.int .i64 k, .slice p1 sy.length m1, .slice p2 na.length m2, .slice p3 su.length m3] ∧
    InI64' k ∧ IsStrs w (.slice p1 sy.length m1) sy ∧ IsStrs w (.slice p2 na.length m2) na ∧ IsShs w (.slice p3 su.length m3) su := by
  obtain ⟨vs, vn, vp, rfl, hk, h1, h2, h3⟩ := h.parts
  have g1 := h1
  have g2 := h2
  have g3 := h3
  obtain ⟨_, _, a1, c1, e1, _⟩ := g1
  obtain ⟨_, _, a2, c2, e2, _⟩ := g2
  obtain ⟨a3, c3, e3, _⟩ := g3
  subst e1 e2 e3
  exact ⟨a1, c1, a2, c2, a3, c3, rfl, hk, h1, h2, h3⟩

set_option maxHeartbeats 1000000 in
/-- impl.rightWithin. -/
theorem rw_any (d : Nat) (hd : d ≤ 5) : RwAt d := by
  induction d with
  | zero =>
    intro t v w h
    cases t with | mk k sy na su =>
    obtain ⟨p1, m1, p2, m2, p3, m3, rfl, _⟩ := h.open
    have HR : Hid (partOk 0 (.mk k sy na su) = false) := by show _ = _; rfl
    clear h
    go_enter Tryd.func76, Tryd.ntmps76
    go_wp2_with fail
    go_ret
    exact ⟨ret_bool HR.out.symm, below_alloc _ _⟩
  | succ d ih =>
    intro t v w h
    have ih' := ih (by omega)
    cases t with | mk k sy na su =>
    obtain ⟨p1, m1, p2, m2, p3, m3, rfl, _, h1, h2, h3⟩ := h.open
    have key : ∀ (T F : Nat) (_ : ∀ (v : Value) (w : World), (method 226 T v "loop.example/g00848/impl.sound").run Tryd.prog w = .ok (F, v) w)
        (_ : ∀ (args : Array Value) (w : World), (callFunc F args).run Tryd.prog w = .ok (.enter F args) w)
        (_ : ∀ w, Calls Tryd.prog 80 #[.agg #[.int .i64 k, .slice p1 sy.length m1, .slice p2 na.length m2, .slice p3 su.length m3]] w fun e w' => e = .returned (.iface T (.agg #[.int .i64 k, .slice p1 sy.length m1, .slice p2 na.length m2, .slice p3 su.length m3])) ∧ Below w.heap.size w w')
        (b : Bool) (_ : soundOf k sy na su.length = b) (_ : ∀ w', Keeps w w' → Calls Tryd.prog F #[.agg #[.int .i64 k, .slice p1 sy.length m1, .slice p2 na.length m2, .slice p3 su.length m3]] w' fun e w'' => e = .returned (.bool b) ∧ Below w'.heap.size w' w''),
        Calls Tryd.prog 76 #[.agg #[.int .i64 k, .slice p1 sy.length m1, .slice p2 na.length m2, .slice p3 su.length m3], .int .i64 ((d + 1 : Nat) : Int)] w fun e w' => e = .returned (.bool (partOk (d + 1) (.mk k sy na su))) ∧ Below w.heap.size w w' := by
      intro T F hm hF hk b hb hs
      cases b with
      | false =>
        have e : partOk (d + 1) (.mk k sy na su) = false := by simp [partOk, hb]
        rw [e]
        exact rw_no T F d k _ _ _ _ _ _ _ _ _ w hm hF hk hs
      | true =>
        have e : partOk (d + 1) (.mk k sy na su) = su.all (partOk d) := by simp [partOk, hb]
        rw [e]
        exact rw_yes T F d ih' (by omega) k _ _ _ _ _ _ _ _ su w h3 hm hF hk hs
    by_cases k1 : k = 1
    · subst k1; exact key _ _ meth_flag enter_flag (kindOf_flag _ _ _ _ _ _ _ _ _) _ (by simp [soundOf]) (fun w' _ => flagSound_any _ _ _ _ _ _ _ _ _ _ w')
    by_cases k2 : k = 2
    · subst k2; exact key _ _ meth_num enter_num (kindOf_num _ _ _ _ _ _ _ _ _) _ (by simp [soundOf]) (fun w' _ => numSound_any _ _ _ _ _ _ _ _ _ _ w')
    by_cases k3 : k = 3
    · subst k3; exact key _ _ meth_text enter_text (kindOf_text _ _ _ _ _ _ _ _ _) _ (by simp [soundOf]) (fun w' _ => textSound_any _ _ _ _ _ _ _ _ _ _ w')
    by_cases k4 : k = 4
    · subst k4; exact key _ _ meth_pick enter_pick (kindOf_pick _ _ _ _ _ _ _ _ _) _ (by simp [soundOf]) (fun w' hk => pickSound_any _ _ _ _ _ _ _ _ _ _ w' (h1.keep hk))
    by_cases k5 : k = 5
    · subst k5; exact key _ _ meth_maybe enter_maybe (kindOf_maybe _ _ _ _ _ _ _ _ _) _ (by simp [soundOf]) (fun w' _ => maybeSound_any _ _ _ _ _ _ _ _ _ _ w')
    by_cases k6 : k = 6
    · subst k6; exact key _ _ meth_list enter_list (kindOf_list _ _ _ _ _ _ _ _ _) _ (by simp [soundOf]) (fun w' _ => listSound_any _ _ _ _ _ _ _ _ _ _ w')
    by_cases k7 : k = 7
    · subst k7; exact key _ _ meth_rec enter_rec (kindOf_rec _ _ _ _ _ _ _ _ _) _ (by simp [soundOf]) (fun w' hk => recSound_any _ _ _ _ _ _ _ _ _ _ w' (h2.keep hk))
    have e : partOk (d + 1) (.mk k sy na su) = false := by simp [partOk, soundOf, k1, k2, k3, k4, k5, k6, k7]
    rw [e]
    have hd0 : (((d + 1 : Nat) : Int) == 0) = false := by simp; omega
    have HK := Lib.hid (kindOf_none k k1 k2 k3 k4 k5 k6 k7 p1 p2 p3 sy.length na.length su.length m1 m2 m3)
    have HB := Lib.hid (below_alloc w)
    clear key h h1 h2 h3 ih ih' k1 k2 k3 k4 k5 k6 k7 e
    go_enter Tryd.func76, Tryd.ntmps76
    go_wp2_with fail
    refine (HK.out _).mono ?_
    rintro e w1 ⟨rfl, hb1⟩
    have HB1 := Lib.hid ((HB.out _).trans (hb1.mono (by simp)))
    clear hb1
    go_wp2_with fail
    go_ret
    exact ⟨rfl, HB1.out⟩
end Go.Proofs.YtfdhmkmeffgkgaaDoor
