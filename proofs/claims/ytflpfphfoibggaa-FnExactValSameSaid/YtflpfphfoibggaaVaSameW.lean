/- Plain: are two Vals the same. Walks: impl.ownSame, spec.ValSame. -/
import Derived.Test.YtflpfphfoibggaaEqVaW
import Derived.Test.YtflpfphfoibggaaPartW
namespace Go.Proofs.Ytflpfphfoibggaa
open Go.RowKit

mutual
/-- How many Vals stand in one, it too. -/
def Va.nodes : Va → Nat
  | .mk _ _ _ it => 1 + Va.nodess it
def Va.nodess : List Va → Nat
  | [] => 0
  | x :: l => Va.nodes x + Va.nodess l
end
theorem vnodess_le : ∀ (l : List Va), (∀ x ∈ l, x.nodes ≤ x.sz + 1) → Va.nodess l ≤ Va.szs l + l.length
  | [], _ => by simp [Va.nodess]
  | x :: l, h => by
    have h1 := h x (by simp)
    have h2 := vnodess_le l fun y hy => h y (by simp [hy])
    simp only [Va.nodess, Va.szs, List.length_cons]; omega
theorem vnodes_le : ∀ t : Va, t.nodes ≤ t.sz + 1 := by
  refine Va.ind fun k n t it ih => ?_
  have := vnodess_le it ih
  simp only [Va.nodes, Va.sz]; omega
theorem vnodes_pos (t : Va) : 1 ≤ t.nodes := by cases t; simp only [Va.nodes]; omega

mutual
/-- Are two Vals the same? -/
def vaEq : Va → Va → Bool
  | .mk k n t it, .mk k' n' t' it' => decide (k = k' ∧ n = n' ∧ t = t' ∧ it.length = it'.length) && vasEq it it'
def vasEq : List Va → List Va → Bool
  | [], _ => true
  | x :: l, m => match m with | [] => true | y :: m => vaEq x y && vasEq l m
end
theorem vasEq_zip : ∀ (l m : List Va), vasEq l m = (l.zip m).all fun p => vaEq p.1 p.2
  | [], _ => by simp [vasEq]
  | x :: l, [] => by simp [vasEq]
  | x :: l, y :: m => by simp [vasEq, vasEq_zip l m]
def ownEq (x y : Va) : Bool := decide (x.kd = y.kd ∧ x.nn = y.nn ∧ x.tx = y.tx ∧ x.it.length = y.it.length)
theorem vaEq_is (x y : Va) : vaEq x y = (ownEq x y && vasEq x.it y.it) := by
  cases x; cases y; rfl
theorem vzip_take_succ {l m : List Va} {k : Nat} (h : k < l.length) (h' : k < m.length) (hk : vasEq (l.take k) (m.take k) = true) (hn : vaEq l[k] m[k] = true) : vasEq (l.take (k + 1)) (m.take (k + 1)) = true := by
  rw [vasEq_zip] at *
  rw [List.take_succ_eq_append_getElem h, List.take_succ_eq_append_getElem h', List.zip_append (by simp; omega), List.all_append, hk]
  simpa using hn
theorem vzip_at_no {l m : List Va} {k : Nat} (h : k < l.length) (h' : k < m.length) (hn : vaEq l[k] m[k] = false) : vasEq l m = false := by
  rw [vasEq_zip, List.all_eq_false]
  exact ⟨(l[k], m[k]), List.mem_iff_getElem.2 ⟨k, by simp; omega, by simp⟩, by simp [hn]⟩

set_option maxRecDepth 100000 in
set_option maxHeartbeats 1000000 in
theorem ownSame_any (k n k' n' : Int) (t t' : ByteArray) (p p' : Option Addr) (l m l' m' : Nat) (w : World) :
    Calls Try.prog 56 #[.agg #[.int .i64 k, .int .i64 n, .string t, .slice p l m], .agg #[.int .i64 k', .int .i64 n', .string t', .slice p' l' m']] w fun e w' => e = .returned (.bool (decide (k = k' ∧ n = n' ∧ t = t' ∧ l = l'))) ∧ Below w.heap.size w w' := by
  by_cases e1 : k = k'
  · subst e1
    by_cases e2 : n = n'
    · subst e2
      by_cases e3 : t = t'
      · subst e3
        by_cases e4 : l = l'
        · subst e4
          go_enter Try.func56, Try.ntmps56
          go_wp2_with fail
          go_ret
          exact ⟨ret_bool (by simp), (below_alloc w _).alloc (by simp) _⟩
        · have b4 := int_ne e4
          go_enter Try.func56, Try.ntmps56
          go_wp2_with fail
          go_ret
          exact ⟨ret_bool (by simp [e4]), (below_alloc w _).alloc (by simp) _⟩
      · have b3 := ba_ne e3
        go_enter Try.func56, Try.ntmps56
        go_wp2_with fail
        go_ret
        exact ⟨ret_bool (by simp [e3]), (below_alloc w _).alloc (by simp) _⟩
    · have b2 : (n == n') = false := by simpa using e2
      go_enter Try.func56, Try.ntmps56
      go_wp2_with fail
      go_ret
      exact ⟨ret_bool (by simp [e2]), (below_alloc w _).alloc (by simp) _⟩
  · have b1 : (k == k') = false := by simpa using e1
    go_enter Try.func56, Try.ntmps56
    go_wp2_with fail
    go_ret
    exact ⟨ret_bool (by simp [e1]), (below_alloc w _).alloc (by simp) _⟩
theorem own_is (x y : Va) (v u : Value) (w : World) (h : IsVa w x v) (g : IsVa w y u) :
    Calls Try.prog 56 #[v, u] w fun e w' => e = .returned (.bool (ownEq x y)) ∧ Below w.heap.size w w' := by
  obtain ⟨p, m, rfl⟩ := h.agg
  obtain ⟨p', m', rfl⟩ := g.agg
  exact ownSame_any _ _ _ _ _ _ _ _ _ _ _ _ w

/-- spec.ValSame's contract. -/
def VsAt (x : Va) : Prop := ∀ (y : Va) (v u : Value) (w : World), IsVa w x v → IsVa w y u →
  Calls Try.prog 28 #[v, u] w fun e w' => e = .returned (.bool (vaEq x y)) ∧ Below w.heap.size w w'

set_option maxRecDepth 100000 in
set_option maxHeartbeats 1000000 in
theorem vsame_no (k n k' n' : Int) (t t' : ByteArray) (p p' : Option Addr) (l m l' m' : Nat) (w : World) (hne : decide (k = k' ∧ n = n' ∧ t = t' ∧ l = l') = false) :
    Calls Try.prog 28 #[.agg #[.int .i64 k, .int .i64 n, .string t, .slice p l m], .agg #[.int .i64 k', .int .i64 n', .string t', .slice p' l' m']] w fun e w' => e = .returned (.bool false) ∧ Below w.heap.size w w' := by
  by_cases e1 : k = k'
  · subst e1
    by_cases e2 : n = n'
    · subst e2
      by_cases e3 : t = t'
      · subst e3
        have e4 : ¬ l = l' := by simpa using hne
        have b4 := int_bne e4
        clear hne
        go_enter Try.func28, Try.ntmps28
        go_wp2_with fail
        go_ret
        exact ⟨rfl, (below_alloc w _).alloc (by simp) _⟩
      · have b3 := ba_ne' e3
        have b5 : ¬ t.toList = t'.toList := fun e => e3 (ba_list.1 e)
        clear hne
        go_enter Try.func28, Try.ntmps28
        go_wp2_with fail
        go_ret
        exact ⟨rfl, (below_alloc w _).alloc (by simp) _⟩
    · have b2 : (n != n') = true := by simpa using e2
      clear hne
      go_enter Try.func28, Try.ntmps28
      go_wp2_with fail
      go_ret
      exact ⟨rfl, (below_alloc w _).alloc (by simp) _⟩
  · have b1 : (k != k') = true := by simpa using e1
    clear hne
    go_enter Try.func28, Try.ntmps28
    go_wp2_with fail
    go_ret
    exact ⟨rfl, (below_alloc w _).alloc (by simp) _⟩

set_option maxRecDepth 100000 in
set_option maxHeartbeats 2000000 in
theorem vsame_yes (k n : Int) (t : ByteArray) (it it' : List Va) (ih : ∀ x ∈ it, VsAt x) (hl : it.length = it'.length) (v u : Value) (w : World) (h : IsVa w (.mk k n t it) v) (g : IsVa w (.mk k n t it') u) :
    Calls Try.prog 28 #[v, u] w fun e w' => e = .returned (.bool (vasEq it it')) ∧ Below w.heap.size w w' := by
  obtain ⟨p, m, rfl, _, _, _, h3⟩ := h.open
  obtain ⟨q, j, rfl, _, _, _, g3⟩ := g.open
  obtain ⟨a, cap, he, hh3, hh4, h6⟩ := h3
  simp only [Value.slice.injEq] at he
  obtain ⟨rfl, _, rfl⟩ := he
  obtain ⟨a', cap', he', gg3, gg4, g6⟩ := g3
  simp only [Value.slice.injEq] at he'
  obtain ⟨rfl, _, rfl⟩ := he'
  have H6 := Lib.hid h6
  have G6 := Lib.hid g6
  have IH := Lib.hid ih
  have HL := Lib.hid hl
  have b4 : ((it.length : Int) != (it'.length : Int)) = false := by simp [hl]
  have HB0 := Lib.hid ((below_alloc w (.cells #[.int .i64 k, .int .i64 n, .string t, .slice p it.length m] 43)).alloc (by simp) (.cells #[.int .i64 k, .int .i64 n, .string t, .slice q it'.length j] 43))
  obtain ⟨n0, n1⟩ := two_new w (.cells #[.int .i64 k, .int .i64 n, .string t, .slice p it.length m] 43) (.cells #[.int .i64 k, .int .i64 n, .string t, .slice q it'.length j] 43)
  have A0 := Lib.hid n0
  have B0 := Lib.hid n1
  clear h g h6 g6 ih hl n0 n1
  go_enter Try.func28, Try.ntmps28
  go_wp2_with fail
  go_loopw [5] (fun i wr => ∃ j' : Nat, j' ≤ it.length ∧ i = .int .i64 j' ∧ Hid (vasEq (it.take j') (it'.take j') = true) ∧ Hid (Below w.heap.size w wr) ∧ Hid (wr.heap[w.heap.size]? = some (.cells #[.int .i64 k, .int .i64 n, .string t, .slice p it.length m] 43 (0, 0)))
     ∧ Hid (wr.heap[w.heap.size + 1]? = some (.cells #[.int .i64 k, .int .i64 n, .string t, .slice q it'.length j] 43 (0, 0)))) (fun i _ => it.length - (intOf i).toNat)
  case atStart => exact ⟨0, Nat.zero_le _, rfl, by show _ = _; simp [vasEq], HB0.out, A0.out, B0.out⟩
  case round =>
    obtain ⟨i, hj, rfl, HJ, HBr, HA, HC⟩ := hrel
    obtain ⟨a0, a1, a2, a3, _, _, _, _, az⟩ := blk4 HA.out
    obtain ⟨d0, d1, d2, d3, _, _, _, _, dz⟩ := blk4 HC.out
    by_cases hlt : i < it.length
    · have hm : i < it'.length := by have := HL.out; omega
      obtain ⟨b, off, rfl, c0, c1, c2, c3, s0, s1, s2, s3, s4⟩ := IsVas.at H6.out hlt
      obtain ⟨b', off', rfl, e0, e1, e2, e3, r0, r1, r2, r3, r4⟩ := IsVas.at G6.out hm
      have HKp := Lib.hid (Keeps.of_below HBr.out)
      have k0 := HKp.out _ _ _ s0
      have k1 := HKp.out _ _ _ s1
      have k2 := HKp.out _ _ _ s2
      have k3 := HKp.out _ _ _ s3
      have K4 := Lib.hid (IsVa.keep HKp.out _ _ s4)
      have l0 := HKp.out _ _ _ r0
      have l1 := HKp.out _ _ _ r1
      have l2 := HKp.out _ _ _ r2
      have l3 := HKp.out _ _ _ r3
      have L4 := Lib.hid (IsVa.keep HKp.out _ _ r4)
      clear s0 s1 s2 s3 s4 r0 r1 r2 r3 r4
      cases hp : vaEq it[i] it'[i]
      · have HP := Lib.hid hp
        have HN := Lib.hid (vzip_at_no hlt hm hp)
        clear hp
        go_wp2_with fail
        go_still_tail 10, (by kernel_rfl)
        change wpList _ _ _ _ _ wr.drew
        go_wp2_with fail
        refine (IH.out it[i] (List.getElem_mem hlt) it'[i] _ _ _ (IsVa.keep keeps_drew _ _ K4.out) (IsVa.keep keeps_drew _ _ L4.out)).mono ?_
        rintro e w3 ⟨rfl, hb3⟩
        rw [HP.out]
        have HB3 := Lib.hid (HBr.out.drew.trans (hb3.mono HBr.out.size))
        clear hb3 a0 a1 a2 a3 az d0 d1 d2 d3 dz k0 k1 k2 k3 l0 l1 l2 l3
        go_wp2_with fail
        go_ret
        exact ⟨ret_bool HN.out.symm, HB3.out⟩
      · have HP := Lib.hid hp
        have HN := Lib.hid (vzip_take_succ hlt hm HJ.out hp)
        clear hp
        go_wp2_with fail
        go_still_tail 10, (by kernel_rfl)
        change wpList _ _ _ _ _ wr.drew
        go_wp2_with fail
        refine (IH.out it[i] (List.getElem_mem hlt) it'[i] _ _ _ (IsVa.keep keeps_drew _ _ K4.out) (IsVa.keep keeps_drew _ _ L4.out)).mono ?_
        rintro e w3 ⟨rfl, hb3⟩
        rw [HP.out]
        have HB3 := Lib.hid (HBr.out.drew.trans (hb3.mono HBr.out.size))
        have HA3 := Lib.hid (blk_below (w := wr.drew) HA.out hb3 az)
        have HC3 := Lib.hid (blk_below (w := wr.drew) HC.out hb3 dz)
        clear hb3 a0 a1 a2 a3 az d0 d1 d2 d3 dz k0 k1 k2 k3 l0 l1 l2 l3
        go_wp2_with fail
        go_roundw
        case rel => exact ⟨i + 1, hlt, by go_num, HN.out, HB3.out, HA3.out, HC3.out⟩
        case measure => simp [intOf]; omega
    · obtain rfl : i = it.length := by omega
      have HN : Hid (vasEq it it' = true) := by have := HJ.out; rwa [List.take_length, HL.out, List.take_length] at this
      go_wp2_with fail
      go_ret
      exact ⟨ret_bool HN.out.symm, HBr.out⟩

/-- spec.ValSame. -/
theorem specVSame_any : ∀ x, VsAt x := by
  refine Va.ind fun k n t it ih y v u w h g => ?_
  cases y with | mk k' n' t' it' =>
  cases hf : ownEq (.mk k n t it) (.mk k' n' t' it')
  · have e : vaEq (.mk k n t it) (.mk k' n' t' it') = false := by rw [vaEq_is, hf]; rfl
    rw [e]
    obtain ⟨p, m, rfl⟩ := h.agg
    obtain ⟨p', m', rfl⟩ := g.agg
    exact vsame_no _ _ _ _ _ _ _ _ _ _ _ _ w hf
  · have e : vaEq (.mk k n t it) (.mk k' n' t' it') = vasEq it it' := by rw [vaEq_is, hf]; rfl
    rw [e]
    obtain ⟨rfl, rfl, rfl, hl⟩ := of_decide_eq_true hf
    exact vsame_yes _ _ _ it it' ih hl v u w h g
theorem specVSame_is (x y : Va) (b : Bool) (hb : vaEq x y = b) (v u : Value) (w : World) (h : IsVa w x v) (g : IsVa w y u) :
    Calls Try.prog 28 #[v, u] w fun e w' => e = .returned (.bool b) ∧ Below w.heap.size w w' := by
  subst hb; exact specVSame_any x y v u w h g
end Go.Proofs.Ytflpfphfoibggaa
