/- Walks: spec.l02Copy. -/
import Derived.Test.YtfdhmkmeffgkgaaDoorGCopyShW
import Derived.Test.YtfdhmkmeffgkgaaDoorGStA
import Derived.Test.YtfdhmkmeffgkgaaDoorGLooseP
namespace Go.Proofs.YtfdhmkmeffgkgaaDoor
open Go.RowKit

theorem own_empty {w : World} {base b : Nat} (h : w.heap[b]? = some (.cells #[] 9 (0, 0))) (hb : base ≤ b) : OwnStrs w base (.slice (some ⟨b, 0, none⟩) 0 0) [] :=
  ⟨by simp, rfl, .inr ⟨b, 0, #[], rfl, hb, h, Nat.le_refl _, by decide, rfl, rfl⟩⟩

set_option maxRecDepth 100000 in
/-- append(v, u...), u strings, as a step of a drawn region. -/
theorem step_strs {ops : Array Oper} {o : Oper} {a : Act} {K : Act → World → Prop} {Q : Exit → Act → World → Prop} {E : Prop} (W : World) (hgd : o.guard = none) (s x : Operand)
    (ho : o.op = .call { callee := .builtin .append, args := #[s, x], argTypes := #[22, 22] })
    (base : Nat) (v u : Value) (l m : List ByteArray) (hs : a.eval s = v) (hown : OwnStrs W base v l) (hx : a.eval x = u) (hu : IsStrs W u m)
    (hl : l.length + m.length ≤ 1048576) (hbase : base ≤ W.heap.size)
    (h : ∀ p' n' m' w', OwnStrs w' base (.slice p' n' m') (l ++ m) → Only (blkOf v) W w' → (∀ q ∈ blkOf (.slice p' n' m'), q ∈ blkOf v ∨ W.heap.size ≤ q) → K (a.put o.dst (.slice p' n' m')) w') :
    if Region.wanted o (yielded ops a.tmps) = true then Oper.wp Tryd.prog o a W K Q else E := by
  have hw : Region.wanted o (yielded ops a.tmps) = true := by simp [Region.wanted, hgd]
  rw [if_pos hw]
  obtain ⟨i0, hi, hz0, hz1, hz2⟩ := info_parts info_str
  obtain ⟨h1, h2, ad, cap, rfl, h3, h4, h6⟩ := hu
  cases ad with
  | none =>
    rcases h6 with rfl | ⟨b, off, he, _⟩
    · have hx' : a.eval x = .slice none 0 cap := hx
      have hrun := run_append_nil (w := W) base 22 o.type 9 i0 1 cap Tryd.underlying22 hi v l.length (l.map Value.string) hown.2
      obtain ⟨p, n, m, rfl⟩ := hown.slice
      unfold Oper.wp
      simp [execOp, ho, resolve, invoke, builtin, hs, hx', hrun, Result.andThen]
      exact h p n m W (by simpa using hown) (Only.refl _ _) (fun q hq => .inl hq)
    · cases he
  | some ad =>
    refine wp_append_own_at s x _ ho base 9 i0 _ 1 16 Tryd.underlying22 hi hz0 hz1 hz2 rfl (by decide) v l.length (l.map Value.string) hs hown.2 ad m.length cap (m.map Value.string) hx (by simp) ?_ ?_ (by unfold maxLen; omega) (by omega) hbase ?_
    · intro j y hj
      rcases h6 with rfl | ⟨b, off, he, hst⟩
      · simp at hj
      · cases he
        have hjl : j < m.length := by have := (List.getElem?_eq_some_iff.1 hj).1; simpa using this
        have := hst j hjl
        have hadd : (⟨b, off, none⟩ : Addr).add j = ⟨b, off + j, none⟩ := by unfold Addr.add; split <;> simp_all
        rw [hadd, this]
        rw [List.getElem?_map, List.getElem?_eq_getElem hjl] at hj
        simpa using hj
    · intro y hy
      obtain ⟨z, _, rfl⟩ := List.mem_map.1 hy
      rfl
    · intro v' w' hv hg hat
      obtain ⟨p', cap', rfl⟩ := own_slice' hv
      refine h p' _ cap' w' ⟨fun s hs => ?_, by rw [List.length_append, List.map_append]; exact hv⟩ ⟨hg.os, hg.tape, hg.output, hg.size, fun q hq hne => hg.block q hq fun e => hne ((ownBlock_blk hown.2 q).1 e.symm)⟩ fun q hq => ?_
      · rcases List.mem_append.1 hs with hs | hs
        · exact hown.1 s hs
        · exact h2 s hs
      · have e := (ownBlock_blk hv q).2 hq
        rcases hat with ha | ha
        · rw [ha] at e; exact .inl ((ownBlock_blk hown.2 q).1 e)
        · rw [ha] at e
          right
          have := Option.some.inj e
          omega

set_option maxRecDepth 100000 in
/-- .. to an empty row in block b, in a world behind W0. -/
theorem step_fill {ops : Array Oper} {o : Oper} {a : Act} {K : Act → World → Prop} {Q : Exit → Act → World → Prop} {E : Prop} (W W0 : World) (hb : Below W0.heap.size W0 W) (hgd : o.guard = none) (s x : Operand)
    (ho : o.op = .call { callee := .builtin .append, args := #[s, x], argTypes := #[22, 22] })
    (b : Nat) (u : Value) (m : List ByteArray) (hs : a.eval s = .slice (some ⟨b, 0, none⟩) 0 0) (hB : W0.heap.size ≤ b) (he : W.heap[b]? = some (.cells #[] 9 (0, 0))) (hx : a.eval x = u) (hu : ∀ w', Below W0.heap.size W0 w' → IsStrs w' u m)
    (hl : m.length ≤ 1048576)
    (h : ∀ p' n' m' w', OwnStrs w' W0.heap.size (.slice p' n' m') m → Only [b] W w' → (∀ q ∈ blkOf (.slice p' n' m'), q = b ∨ W.heap.size ≤ q) → Below W0.heap.size W0 w' → K (a.put o.dst (.slice p' n' m')) w') :
    if Region.wanted o (yielded ops a.tmps) = true then Oper.wp Tryd.prog o a W K Q else E := by
  refine step_strs W hgd s x ho W0.heap.size _ u [] m hs (own_empty he hB) hx (hu _ hb) (by simpa using hl) hb.size fun p' n' m' w' h1 h2 h3 => ?_
  have h2' : Only [b] W w' := h2
  exact h p' n' m' w' (by simpa using h1) h2' (fun q hq => (h3 q hq).imp (fun h => by simpa [blkOf] using h) id) (hb.trans (h2'.below hb.size (by simpa using hB)))

theorem at_world {ops : Array Oper} {o : Oper} {a : Act} {K : Act → World → Prop} {Q : Exit → Act → World → Prop} {E : Prop} (W : World) (h : if Region.wanted o (yielded ops a.tmps) = true then Oper.wp Tryd.prog o a W K Q else E) :
    if Region.wanted o (yielded ops a.tmps) = true then Oper.wp Tryd.prog o a W K Q else E := h
theorem az_step {w1 w2 : World} {b b2 : Nat} {v1 v2 : Value} {c : Obj} (h : w1.heap[b]? = some c ∧ b ∉ blkOf v1) (hy : Only [b2] w1 w2) (hq : ∀ q ∈ blkOf v2, q = b2 ∨ w1.heap.size ≤ q) (hne : b ≠ b2) :
    w2.heap[b]? = some c ∧ b ∉ blkOf v1 ∧ b ∉ blkOf v2 := by
  have hz := (Array.getElem?_eq_some_iff.1 h.1).1
  exact ⟨(hy.block b hz (by simpa using hne)).trans h.1, h.2, fun hx => by have := hq _ hx; omega⟩
theorem az_step2 {w1 w2 : World} {b b2 : Nat} {v1 v2 : Value} {c d : Obj} (h : w1.heap[b]? = some c ∧ b ∉ blkOf v1) (hy : Only [b2] (w1.alloc d) w2) (hq : ∀ q ∈ blkOf v2, q = b2 ∨ (w1.alloc d).heap.size ≤ q) (hne : b ≠ b2) :
    w2.heap[b]? = some c ∧ b ∉ blkOf v1 ∧ b ∉ blkOf v2 := by
  have hz := (Array.getElem?_eq_some_iff.1 h.1).1
  exact az_step ⟨((below_alloc w1 d).block b hz).trans h.1, h.2⟩ hy hq hne

theorem co_cut3 {k : Int} {sy na : List ByteArray} {u w2 : World} {b : Nat} {p1 p2 : Option Addr} {n1 m1 n2 m2 : Nat} {d0 d1 d2 d3 : Value} (h1 : OwnStrs w2 u.heap.size (.slice p1 n1 m1) sy) (h2 : OwnStrs w2 u.heap.size (.slice p2 n2 m2) na)
    (hd : ∀ q, q ∈ blkOf (.slice p1 n1 m1) → q ∈ blkOf (.slice p2 n2 m2) → False) (hu : Below u.heap.size u w2) (hz : w2.heap[b]? = some (.cells #[d0, d1, d2, d3] 31 (0, 0))) (hn1 : b ∉ blkOf (.slice p1 n1 m1)) (hn2 : b ∉ blkOf (.slice p2 n2 m2)) (hub : u.heap.size ≤ b) :
    CoCut k sy na u (.pointer (some ⟨b, 0, none⟩)) (putS w2 b (.int .i64 k) (.slice p1 n1 m1) (.slice p2 n2 m2) (.slice none 0 0)) := by
  have e : ∀ g, g ≠ b → (putS w2 b (.int .i64 k) (.slice p1 n1 m1) (.slice p2 n2 m2) (.slice none 0 0)).heap[g]? = w2.heap[g]? := fun g hg => putS_other _ _ _ _ _ _ hg
  exact ⟨_, _, _, _, _, _, _, rfl, hub, putS_blk hz _ _ _ _, ⟨h1.1, own_block h1.2 fun g hg => e g fun h => hn1 (h ▸ hg)⟩, ⟨h2.1, own_block h2.2 fun g hg => e g fun h => hn2 (h ▸ hg)⟩,
    co_nodup (fun g hg h => hn1 (h ▸ hg)) (fun g hg h => hn2 (h ▸ hg)) (fun g hg q hq h => hd g hg (h ▸ hq)), putS_below hu hub _ _ _ _⟩
theorem co_cut4 {k : Int} {sy na : List ByteArray} {u w2 : World} {p1 p2 : Option Addr} {n1 m1 n2 m2 : Nat} (h1 : OwnStrs w2 u.heap.size (.slice p1 n1 m1) sy) (h2 : OwnStrs w2 u.heap.size (.slice p2 n2 m2) na)
    (hd : ∀ q, q ∈ blkOf (.slice p1 n1 m1) → q ∈ blkOf (.slice p2 n2 m2) → False) (hu : Below u.heap.size u w2) :
    CoCut k sy na u (.pointer (some ⟨w2.heap.size, 0, none⟩)) (w2.alloc (.cells #[.int .i64 k, .slice p1 n1 m1, .slice p2 n2 m2, .slice none 0 0] 31)) := by
  have l1 := blkOf_own h1.2
  have l2 := blkOf_own h2.2
  exact ⟨_, _, _, _, _, _, _, rfl, hu.size, Go.Deep.blk_alloc_new _ _, h1.block (below_alloc _ _), h2.block (below_alloc _ _),
    co_nodup (fun g hg => by have := l1 g hg; omega) (fun g hg => by have := l2 g hg; omega) (fun g hg q hq h => hd g hg (h ▸ hq)), hu.alloc hu.size _⟩

/-- spec.l02Copy's contract at the shapes of so many levels. -/
def ClAt (d : Nat) : Prop := ∀ (t : Sh) (v : Value) (w : World), looseOk d t = true → IsSh w t v → Calls Tryd.prog 53 #[v] w (ToPost t w)

set_option maxRecDepth 100000 in
set_option maxHeartbeats 20000000 in
theorem cs_gen (d : Nat) (ih : ClAt d) (k : Int) (sy na : List ByteArray) (su : List Sh) (v : Value) (w : World) (q : (sy.length ≤ 7 ∧ ∀ s ∈ sy, s.size ≤ 8) ∧ (na.length ≤ 7 ∧ ∀ s ∈ na, s.size ≤ 8) ∧ su.length ≤ 7) (hp : su.all (looseOk d) = true) (h : IsSh w (.mk k sy na su) v) :
    Calls Tryd.prog 53 #[v] w (ToPost (.mk k sy na su) w) := by
  obtain ⟨p1, m1, p2, m2, p3, m3, rfl, hk, h1, h2, h3⟩ := h.open
  obtain ⟨⟨q1, q2⟩, ⟨q3, q4⟩, h6⟩ := q
  obtain ⟨a3, cap3, e3, _, hc3, g3⟩ := h3
  simp only [Value.slice.injEq] at e3
  obtain ⟨rfl, _, rfl⟩ := e3
  obtain ⟨W0, hW⟩ : ∃ W0, W0 = (w.alloc (.cells #[.int .i64 k, .slice p1 sy.length m1, .slice p2 na.length m2, .slice p3 su.length m3] 31)).alloc (.cells #[.int .i64 0, .slice none 0 0, .slice none 0 0, .slice none 0 0] 31) := ⟨_, rfl⟩
  obtain ⟨x0, x1⟩ := two_new w (.cells #[.int .i64 k, .slice p1 sy.length m1, .slice p2 na.length m2, .slice p3 su.length m3] 31) (.cells #[.int .i64 0, .slice none 0 0, .slice none 0 0, .slice none 0 0] 31)
  have hb : Below w.heap.size w W0 := by rw [hW]; exact (below_alloc w _).alloc (by simp) _
  have hWs : W0.heap.size = w.heap.size + 1 + 1 := by rw [hW]; simp
  rw [← hW] at x0 x1
  have X0 := Lib.hid x0
  have X1 := Lib.hid x1
  have H1 := Lib.hid (h1.keep (Keeps.of_below hb))
  have H2 := Lib.hid (h2.keep (Keeps.of_below hb))
  have H3 := Lib.hid g3
  have HK := Lib.hid hk
  have HP := Lib.hid hp
  have IH := Lib.hid ih
  have HB := Lib.hid hb
  have HW := Lib.hid hW
  have HWS := Lib.hid hWs
  have HL1 : Hid (sy.length ≤ 8001) := by show _ ≤ _; omega
  have HL2 : Hid (na.length ≤ 8001) := by show _ ≤ _; omega
  have HS1 : Hid (∀ s ∈ sy, s.size ≤ 1099511627776) := fun s hs => by have := q2 s hs; omega
  have HS2 : Hid (∀ s ∈ na, s.size ≤ 1099511627776) := fun s hs => by have := q4 s hs; omega
  clear g3 hp ih hb x0 x1 hW hWs h1 h2 h hk q1 q2 q3 q4
  obtain ⟨a0, a1, a2, a3', _, _, _, _, az⟩ := blk4 X0.out
  have HSK : Hid (∀ w', Below W0.heap.size W0 w' → (w'.cell? ⟨w.heap.size, 0, none⟩ = some (.int .i64 k) ∧ w'.cell? ⟨w.heap.size, 1, none⟩ = some (.slice p1 sy.length m1) ∧ w'.cell? ⟨w.heap.size, 2, none⟩ = some (.slice p2 na.length m2))) := fun w' hb' => by
    have kk : ∀ b o c, b < W0.heap.size → W0.cell? ⟨b, o, none⟩ = some c → w'.cell? ⟨b, o, none⟩ = some c := fun b o c hlt hc => by rw [hb'.cell (p := ⟨b, o, none⟩) hlt]; exact hc
    exact ⟨kk _ _ _ az a0, kk _ _ _ az a1, kk _ _ _ az a2⟩
  have HK1 := Lib.hid (fun (w' : World) (hb : Below W0.heap.size W0 w') => H1.out.keep (Keeps.of_below hb))
  have HK2 := Lib.hid (fun (w' : World) (hb : Below W0.heap.size W0 w') => H2.out.keep (Keeps.of_below hb))
  clear a0 a1 a2 a3' az
  go_enter Tryd.func53, Tryd.ntmps53
  go_upto_region 1 with fail
  rw [← HW.out]
  go_cut [3] (fun x wc => Hid (CoCut k sy na W0 x wc))
  case first =>
    go_region_held3 (fun w' => w'.cell? ⟨w.heap.size, 0, none⟩ = some (.int .i64 k) ∧ w'.cell? ⟨w.heap.size, 1, none⟩ = some (.slice p1 sy.length m1) ∧ w'.cell? ⟨w.heap.size, 2, none⟩ = some (.slice p2 na.length m2))
      (first
        | with_reducible exact HSK.out _ (Below.refl _ W0).drew
        | with_reducible exact HSK.out _ ((Below.refl _ W0).alloc (Nat.le_refl _) _).drew
        | with_reducible exact HSK.out _ (((below_alloc _ _).alloc (by simp) _).drew)
        | with_reducible exact HSK.out _ ((((below_alloc _ _).alloc (by simp) _).alloc (by simp; omega) _).drew)
        | with_reducible exact HSK.out _ BB1.out
        | with_reducible exact HSK.out _ BB2.out
        | with_reducible exact HSK.out _ (BB1.out.alloc BB1.out.size _)
        | with_reducible exact HSK.out _ ((BB1.out.alloc BB1.out.size _).alloc (by have := BB1.out.size; simp; omega) _)
        | with_reducible exact HSK.out _ (BB2.out.alloc BB2.out.size _)
        | exact HSK.out _ (putS_below BB2.out (by have := BB1.out.size; omega) _ _ _ _))
      (first
        | ((with_reducible refine at_world (W0.alloc (.cells #[] 9)).drew ?_); refine step_fill (W0.alloc (.cells #[] 9)).drew W0 (below_alloc _ _).drew rfl _ _ rfl (W0.heap.size) (Value.slice p1 sy.length m1) sy rfl (by omega) (Go.Deep.blk_alloc_new _ _) rfl HK1.out (by have := HL1.out; omega) ?_; intro r1 i1 j1 w1 ho hy hq hb; have BB1 := Lib.hid hb; have O1 := Lib.hid ho; have Q1 := Lib.hid hq; have Y1 := Lib.hid hy; have L1 := Lib.hid (fun q (hx : q ∈ blkOf (.slice r1 i1 j1)) => (blkOf_own ho.2 q hx).2); clear ho hy hq hb)
        | ((with_reducible refine at_world ((W0.alloc (.cells #[] 9)).alloc (.cells #[] 9)).drew ?_); refine step_fill ((W0.alloc (.cells #[] 9)).alloc (.cells #[] 9)).drew W0 ((below_alloc _ _).alloc (by simp) _).drew rfl _ _ rfl (W0.heap.size) (Value.slice p1 sy.length m1) sy rfl (by omega) ((two_new _ _ _).1) rfl HK1.out (by have := HL1.out; omega) ?_; intro r1 i1 j1 w1 ho hy hq hb; have BB1 := Lib.hid hb; have O1 := Lib.hid ho; have Q1 := Lib.hid hq; have Y1 := Lib.hid hy; have L1 := Lib.hid (fun q (hx : q ∈ blkOf (.slice r1 i1 j1)) => (blkOf_own ho.2 q hx).2); clear ho hy hq hb)
        | ((with_reducible refine at_world (((W0.alloc (.cells #[] 9)).alloc (.cells #[] 9)).alloc (.cells #[.int .i64 0, .slice none 0 0, .slice none 0 0, .slice none 0 0] 31)).drew ?_); refine step_fill (((W0.alloc (.cells #[] 9)).alloc (.cells #[] 9)).alloc (.cells #[.int .i64 0, .slice none 0 0, .slice none 0 0, .slice none 0 0] 31)).drew W0 (((below_alloc _ _).alloc (by simp) _).alloc (by simp; omega) _).drew rfl _ _ rfl (W0.heap.size) (Value.slice p1 sy.length m1) sy rfl (by omega) ((three_new _ _ _ _).1) rfl HK1.out (by have := HL1.out; omega) ?_; intro r1 i1 j1 w1 ho hy hq hb; have BB1 := Lib.hid hb; have O1 := Lib.hid ho; have Q1 := Lib.hid hq; have Y1 := Lib.hid hy; have L1 := Lib.hid (fun q (hx : q ∈ blkOf (.slice r1 i1 j1)) => (blkOf_own ho.2 q hx).2); have AZ := Lib.hid (And.intro (show w1.heap[W0.heap.size + 1 + 1]? = some (.cells #[.int .i64 0, .slice none 0 0, .slice none 0 0, .slice none 0 0] 31 (0, 0)) from (hy.block _ (by simp; try omega) (by first | (simp; done) | (simp; omega) | omega)).trans ((three_new _ _ _ _).2.2)) (show W0.heap.size + 1 + 1 ∉ blkOf (.slice r1 i1 j1) from fun hx => by have a := hq _ hx; first | (simp at a; omega) | (simp at a; done))); clear ho hy hq hb)
        | ((with_reducible refine at_world ((W0.alloc (.cells #[] 9)).alloc (.cells #[.int .i64 0, .slice none 0 0, .slice none 0 0, .slice none 0 0] 31)).drew ?_); refine step_fill ((W0.alloc (.cells #[] 9)).alloc (.cells #[.int .i64 0, .slice none 0 0, .slice none 0 0, .slice none 0 0] 31)).drew W0 ((below_alloc _ _).alloc (by simp) _).drew rfl _ _ rfl (W0.heap.size) (Value.slice p1 sy.length m1) sy rfl (by omega) ((two_new _ _ _).1) rfl HK1.out (by have := HL1.out; omega) ?_; intro r1 i1 j1 w1 ho hy hq hb; have BB1 := Lib.hid hb; have O1 := Lib.hid ho; have Q1 := Lib.hid hq; have Y1 := Lib.hid hy; have L1 := Lib.hid (fun q (hx : q ∈ blkOf (.slice r1 i1 j1)) => (blkOf_own ho.2 q hx).2); have AZ := Lib.hid (And.intro (show w1.heap[W0.heap.size + 1]? = some (.cells #[.int .i64 0, .slice none 0 0, .slice none 0 0, .slice none 0 0] 31 (0, 0)) from (hy.block _ (by simp; try omega) (by first | (simp; done) | (simp; omega) | omega)).trans ((two_new _ _ _).2)) (show W0.heap.size + 1 ∉ blkOf (.slice r1 i1 j1) from fun hx => by have a := hq _ hx; first | (simp at a; omega) | (simp at a; done))); clear ho hy hq hb)
        | ((with_reducible refine at_world (((W0.alloc (.cells #[] 9)).alloc (.cells #[.int .i64 0, .slice none 0 0, .slice none 0 0, .slice none 0 0] 31)).alloc (.cells #[] 9)).drew ?_); refine step_fill (((W0.alloc (.cells #[] 9)).alloc (.cells #[.int .i64 0, .slice none 0 0, .slice none 0 0, .slice none 0 0] 31)).alloc (.cells #[] 9)).drew W0 (((below_alloc _ _).alloc (by simp) _).alloc (by simp; omega) _).drew rfl _ _ rfl (W0.heap.size) (Value.slice p1 sy.length m1) sy rfl (by omega) ((three_new _ _ _ _).1) rfl HK1.out (by have := HL1.out; omega) ?_; intro r1 i1 j1 w1 ho hy hq hb; have BB1 := Lib.hid hb; have O1 := Lib.hid ho; have Q1 := Lib.hid hq; have Y1 := Lib.hid hy; have L1 := Lib.hid (fun q (hx : q ∈ blkOf (.slice r1 i1 j1)) => (blkOf_own ho.2 q hx).2); have AZ := Lib.hid (And.intro (show w1.heap[W0.heap.size + 1]? = some (.cells #[.int .i64 0, .slice none 0 0, .slice none 0 0, .slice none 0 0] 31 (0, 0)) from (hy.block _ (by simp; try omega) (by first | (simp; done) | (simp; omega) | omega)).trans ((three_new _ _ _ _).2.1)) (show W0.heap.size + 1 ∉ blkOf (.slice r1 i1 j1) from fun hx => by have a := hq _ hx; first | (simp at a; omega) | (simp at a; done))); clear ho hy hq hb)
        | ((with_reducible refine at_world ((W0.alloc (.cells #[] 9)).alloc (.cells #[] 9)).drew ?_); refine step_fill ((W0.alloc (.cells #[] 9)).alloc (.cells #[] 9)).drew W0 ((below_alloc _ _).alloc (by simp) _).drew rfl _ _ rfl (W0.heap.size + 1) (Value.slice p1 sy.length m1) sy rfl (by omega) ((two_new _ _ _).2) rfl HK1.out (by have := HL1.out; omega) ?_; intro r1 i1 j1 w1 ho hy hq hb; have BB1 := Lib.hid hb; have O1 := Lib.hid ho; have Q1 := Lib.hid hq; have Y1 := Lib.hid hy; have L1 := Lib.hid (fun q (hx : q ∈ blkOf (.slice r1 i1 j1)) => (blkOf_own ho.2 q hx).2); clear ho hy hq hb)
        | ((with_reducible refine at_world (((W0.alloc (.cells #[] 9)).alloc (.cells #[] 9)).alloc (.cells #[.int .i64 0, .slice none 0 0, .slice none 0 0, .slice none 0 0] 31)).drew ?_); refine step_fill (((W0.alloc (.cells #[] 9)).alloc (.cells #[] 9)).alloc (.cells #[.int .i64 0, .slice none 0 0, .slice none 0 0, .slice none 0 0] 31)).drew W0 (((below_alloc _ _).alloc (by simp) _).alloc (by simp; omega) _).drew rfl _ _ rfl (W0.heap.size + 1) (Value.slice p1 sy.length m1) sy rfl (by omega) ((three_new _ _ _ _).2.1) rfl HK1.out (by have := HL1.out; omega) ?_; intro r1 i1 j1 w1 ho hy hq hb; have BB1 := Lib.hid hb; have O1 := Lib.hid ho; have Q1 := Lib.hid hq; have Y1 := Lib.hid hy; have L1 := Lib.hid (fun q (hx : q ∈ blkOf (.slice r1 i1 j1)) => (blkOf_own ho.2 q hx).2); have AZ := Lib.hid (And.intro (show w1.heap[W0.heap.size + 1 + 1]? = some (.cells #[.int .i64 0, .slice none 0 0, .slice none 0 0, .slice none 0 0] 31 (0, 0)) from (hy.block _ (by simp; try omega) (by first | (simp; done) | (simp; omega) | omega)).trans ((three_new _ _ _ _).2.2)) (show W0.heap.size + 1 + 1 ∉ blkOf (.slice r1 i1 j1) from fun hx => by have a := hq _ hx; first | (simp at a; omega) | (simp at a; done))); clear ho hy hq hb)
        | ((with_reducible refine at_world (((W0.alloc (.cells #[] 9)).alloc (.cells #[.int .i64 0, .slice none 0 0, .slice none 0 0, .slice none 0 0] 31)).alloc (.cells #[] 9)).drew ?_); refine step_fill (((W0.alloc (.cells #[] 9)).alloc (.cells #[.int .i64 0, .slice none 0 0, .slice none 0 0, .slice none 0 0] 31)).alloc (.cells #[] 9)).drew W0 (((below_alloc _ _).alloc (by simp) _).alloc (by simp; omega) _).drew rfl _ _ rfl (W0.heap.size + 1 + 1) (Value.slice p1 sy.length m1) sy rfl (by omega) ((three_new _ _ _ _).2.2) rfl HK1.out (by have := HL1.out; omega) ?_; intro r1 i1 j1 w1 ho hy hq hb; have BB1 := Lib.hid hb; have O1 := Lib.hid ho; have Q1 := Lib.hid hq; have Y1 := Lib.hid hy; have L1 := Lib.hid (fun q (hx : q ∈ blkOf (.slice r1 i1 j1)) => (blkOf_own ho.2 q hx).2); have AZ := Lib.hid (And.intro (show w1.heap[W0.heap.size + 1]? = some (.cells #[.int .i64 0, .slice none 0 0, .slice none 0 0, .slice none 0 0] 31 (0, 0)) from (hy.block _ (by simp; try omega) (by first | (simp; done) | (simp; omega) | omega)).trans ((three_new _ _ _ _).2.1)) (show W0.heap.size + 1 ∉ blkOf (.slice r1 i1 j1) from fun hx => by have a := hq _ hx; first | (simp at a; omega) | (simp at a; done))); clear ho hy hq hb)
        | ((with_reducible refine at_world ((W0.alloc (.cells #[.int .i64 0, .slice none 0 0, .slice none 0 0, .slice none 0 0] 31)).alloc (.cells #[] 9)).drew ?_); refine step_fill ((W0.alloc (.cells #[.int .i64 0, .slice none 0 0, .slice none 0 0, .slice none 0 0] 31)).alloc (.cells #[] 9)).drew W0 ((below_alloc _ _).alloc (by simp) _).drew rfl _ _ rfl (W0.heap.size + 1) (Value.slice p1 sy.length m1) sy rfl (by omega) ((two_new _ _ _).2) rfl HK1.out (by have := HL1.out; omega) ?_; intro r1 i1 j1 w1 ho hy hq hb; have BB1 := Lib.hid hb; have O1 := Lib.hid ho; have Q1 := Lib.hid hq; have Y1 := Lib.hid hy; have L1 := Lib.hid (fun q (hx : q ∈ blkOf (.slice r1 i1 j1)) => (blkOf_own ho.2 q hx).2); have AZ := Lib.hid (And.intro (show w1.heap[W0.heap.size]? = some (.cells #[.int .i64 0, .slice none 0 0, .slice none 0 0, .slice none 0 0] 31 (0, 0)) from (hy.block _ (by simp; try omega) (by first | (simp; done) | (simp; omega) | omega)).trans ((two_new _ _ _).1)) (show W0.heap.size ∉ blkOf (.slice r1 i1 j1) from fun hx => by have a := hq _ hx; first | (simp at a; omega) | (simp at a; done))); clear ho hy hq hb)
        | ((with_reducible refine at_world (((W0.alloc (.cells #[.int .i64 0, .slice none 0 0, .slice none 0 0, .slice none 0 0] 31)).alloc (.cells #[] 9)).alloc (.cells #[] 9)).drew ?_); refine step_fill (((W0.alloc (.cells #[.int .i64 0, .slice none 0 0, .slice none 0 0, .slice none 0 0] 31)).alloc (.cells #[] 9)).alloc (.cells #[] 9)).drew W0 (((below_alloc _ _).alloc (by simp) _).alloc (by simp; omega) _).drew rfl _ _ rfl (W0.heap.size + 1) (Value.slice p1 sy.length m1) sy rfl (by omega) ((three_new _ _ _ _).2.1) rfl HK1.out (by have := HL1.out; omega) ?_; intro r1 i1 j1 w1 ho hy hq hb; have BB1 := Lib.hid hb; have O1 := Lib.hid ho; have Q1 := Lib.hid hq; have Y1 := Lib.hid hy; have L1 := Lib.hid (fun q (hx : q ∈ blkOf (.slice r1 i1 j1)) => (blkOf_own ho.2 q hx).2); have AZ := Lib.hid (And.intro (show w1.heap[W0.heap.size]? = some (.cells #[.int .i64 0, .slice none 0 0, .slice none 0 0, .slice none 0 0] 31 (0, 0)) from (hy.block _ (by simp; try omega) (by first | (simp; done) | (simp; omega) | omega)).trans ((three_new _ _ _ _).1)) (show W0.heap.size ∉ blkOf (.slice r1 i1 j1) from fun hx => by have a := hq _ hx; first | (simp at a; omega) | (simp at a; done))); clear ho hy hq hb)
        | ((with_reducible refine at_world (((W0.alloc (.cells #[.int .i64 0, .slice none 0 0, .slice none 0 0, .slice none 0 0] 31)).alloc (.cells #[] 9)).alloc (.cells #[] 9)).drew ?_); refine step_fill (((W0.alloc (.cells #[.int .i64 0, .slice none 0 0, .slice none 0 0, .slice none 0 0] 31)).alloc (.cells #[] 9)).alloc (.cells #[] 9)).drew W0 (((below_alloc _ _).alloc (by simp) _).alloc (by simp; omega) _).drew rfl _ _ rfl (W0.heap.size + 1 + 1) (Value.slice p1 sy.length m1) sy rfl (by omega) ((three_new _ _ _ _).2.2) rfl HK1.out (by have := HL1.out; omega) ?_; intro r1 i1 j1 w1 ho hy hq hb; have BB1 := Lib.hid hb; have O1 := Lib.hid ho; have Q1 := Lib.hid hq; have Y1 := Lib.hid hy; have L1 := Lib.hid (fun q (hx : q ∈ blkOf (.slice r1 i1 j1)) => (blkOf_own ho.2 q hx).2); have AZ := Lib.hid (And.intro (show w1.heap[W0.heap.size]? = some (.cells #[.int .i64 0, .slice none 0 0, .slice none 0 0, .slice none 0 0] 31 (0, 0)) from (hy.block _ (by simp; try omega) (by first | (simp; done) | (simp; omega) | omega)).trans ((three_new _ _ _ _).1)) (show W0.heap.size ∉ blkOf (.slice r1 i1 j1) from fun hx => by have a := hq _ hx; first | (simp at a; omega) | (simp at a; done))); clear ho hy hq hb)
        | (have g9 := AZ; clear g9; (with_reducible refine at_world w1 ?_); refine step_fill w1 W0 BB1.out rfl _ _ rfl (W0.heap.size + 1) (Value.slice p2 na.length m2) na rfl (by have := BB1.out.size; omega) (((Y1.out.block _ (by simp; try omega) (by first | (simp; done) | (simp; omega) | omega)).trans ((three_new _ _ _ _).2.1))) rfl HK2.out (by have := HL2.out; omega) ?_; intro r2 i2 j2 w2 ho hy hq hb; have BB2 := Lib.hid hb; have O2 := Lib.hid ho; have D12 := Lib.hid (fun q (h1 : q ∈ blkOf (.slice r1 i1 j1)) (h2 : q ∈ blkOf (.slice r2 i2 j2)) => (show False by have a := Q1.out q h1; have b := L1.out q h1; have c := hq q h2; have d := Y1.out.size; simp at a c d; omega)); have O12 := Lib.hid (show OwnStrs w2 W0.heap.size (.slice r1 i1 j1) sy from ⟨O1.out.1, own_block O1.out.2 fun q hx => by have a := Q1.out q hx; have b := L1.out q hx; have d := Y1.out.size; simp at a d; exact hy.block q (by omega) (by simp; omega)⟩); have AZ2 := Lib.hid (az_step AZ.out hy hq (by have d := (Array.getElem?_eq_some_iff.1 AZ.out.1).1; omega)); obtain ⟨_, _, _, _, _, _, _, _, _⟩ := blk4 AZ2.out.1; clear ho hy hq hb)
        | (have g9 := AZ; clear g9; (with_reducible refine at_world w1 ?_); refine step_fill w1 W0 BB1.out rfl _ _ rfl (W0.heap.size + 1 + 1) (Value.slice p2 na.length m2) na rfl (by have := BB1.out.size; omega) (((Y1.out.block _ (by simp; try omega) (by first | (simp; done) | (simp; omega) | omega)).trans ((three_new _ _ _ _).2.2))) rfl HK2.out (by have := HL2.out; omega) ?_; intro r2 i2 j2 w2 ho hy hq hb; have BB2 := Lib.hid hb; have O2 := Lib.hid ho; have D12 := Lib.hid (fun q (h1 : q ∈ blkOf (.slice r1 i1 j1)) (h2 : q ∈ blkOf (.slice r2 i2 j2)) => (show False by have a := Q1.out q h1; have b := L1.out q h1; have c := hq q h2; have d := Y1.out.size; simp at a c d; omega)); have O12 := Lib.hid (show OwnStrs w2 W0.heap.size (.slice r1 i1 j1) sy from ⟨O1.out.1, own_block O1.out.2 fun q hx => by have a := Q1.out q hx; have b := L1.out q hx; have d := Y1.out.size; simp at a d; exact hy.block q (by omega) (by simp; omega)⟩); have AZ2 := Lib.hid (az_step AZ.out hy hq (by have d := (Array.getElem?_eq_some_iff.1 AZ.out.1).1; omega)); obtain ⟨_, _, _, _, _, _, _, _, _⟩ := blk4 AZ2.out.1; clear ho hy hq hb)
        | (have g9 := AZ; clear g9; (with_reducible refine at_world (w1.alloc (.cells #[] 9)) ?_); refine step_fill (w1.alloc (.cells #[] 9)) W0 (BB1.out.alloc BB1.out.size _) rfl _ _ rfl (w1.heap.size) (Value.slice p2 na.length m2) na rfl (by have := BB1.out.size; omega) (Go.Deep.blk_alloc_new _ _) rfl HK2.out (by have := HL2.out; omega) ?_; intro r2 i2 j2 w2 ho hy hq hb; have BB2 := Lib.hid hb; have O2 := Lib.hid ho; have D12 := Lib.hid (fun q (h1 : q ∈ blkOf (.slice r1 i1 j1)) (h2 : q ∈ blkOf (.slice r2 i2 j2)) => (show False by have a := Q1.out q h1; have b := L1.out q h1; have c := hq q h2; have d := Y1.out.size; simp at a c d; omega)); have O12 := Lib.hid (show OwnStrs w2 W0.heap.size (.slice r1 i1 j1) sy from ⟨O1.out.1, own_block O1.out.2 fun q hx => by have a := Q1.out q hx; have b := L1.out q hx; have d := Y1.out.size; simp at a d; exact (hy.block q (by simp; omega) (by simp; omega)).trans ((below_alloc _ _).block q b)⟩); have AZ2 := Lib.hid (az_step2 AZ.out hy hq (by have d := (Array.getElem?_eq_some_iff.1 AZ.out.1).1; omega)); obtain ⟨_, _, _, _, _, _, _, _, _⟩ := blk4 AZ2.out.1; clear ho hy hq hb)
        | (have g9 := AZ; clear g9; (with_reducible refine at_world w1 ?_); refine step_fill w1 W0 BB1.out rfl _ _ rfl (W0.heap.size) (Value.slice p2 na.length m2) na rfl (by have := BB1.out.size; omega) (((Y1.out.block _ (by simp; try omega) (by first | (simp; done) | (simp; omega) | omega)).trans ((three_new _ _ _ _).1))) rfl HK2.out (by have := HL2.out; omega) ?_; intro r2 i2 j2 w2 ho hy hq hb; have BB2 := Lib.hid hb; have O2 := Lib.hid ho; have D12 := Lib.hid (fun q (h1 : q ∈ blkOf (.slice r1 i1 j1)) (h2 : q ∈ blkOf (.slice r2 i2 j2)) => (show False by have a := Q1.out q h1; have b := L1.out q h1; have c := hq q h2; have d := Y1.out.size; simp at a c d; omega)); have O12 := Lib.hid (show OwnStrs w2 W0.heap.size (.slice r1 i1 j1) sy from ⟨O1.out.1, own_block O1.out.2 fun q hx => by have a := Q1.out q hx; have b := L1.out q hx; have d := Y1.out.size; simp at a d; exact hy.block q (by omega) (by simp; omega)⟩); have AZ2 := Lib.hid (az_step AZ.out hy hq (by have d := (Array.getElem?_eq_some_iff.1 AZ.out.1).1; omega)); obtain ⟨_, _, _, _, _, _, _, _, _⟩ := blk4 AZ2.out.1; clear ho hy hq hb)
        | (have g9 := AZ; clear g9; (with_reducible refine at_world w1 ?_); refine step_fill w1 W0 BB1.out rfl _ _ rfl (W0.heap.size) (Value.slice p2 na.length m2) na rfl (by have := BB1.out.size; omega) (((Y1.out.block _ (by simp; try omega) (by first | (simp; done) | (simp; omega) | omega)).trans ((three_new _ _ _ _).1))) rfl HK2.out (by have := HL2.out; omega) ?_; intro r2 i2 j2 w2 ho hy hq hb; have BB2 := Lib.hid hb; have O2 := Lib.hid ho; have D12 := Lib.hid (fun q (h1 : q ∈ blkOf (.slice r1 i1 j1)) (h2 : q ∈ blkOf (.slice r2 i2 j2)) => (show False by have a := Q1.out q h1; have b := L1.out q h1; have c := hq q h2; have d := Y1.out.size; simp at a c d; omega)); have O12 := Lib.hid (show OwnStrs w2 W0.heap.size (.slice r1 i1 j1) sy from ⟨O1.out.1, own_block O1.out.2 fun q hx => by have a := Q1.out q hx; have b := L1.out q hx; have d := Y1.out.size; simp at a d; exact hy.block q (by omega) (by simp; omega)⟩); have AZ2 := Lib.hid (az_step AZ.out hy hq (by have d := (Array.getElem?_eq_some_iff.1 AZ.out.1).1; omega)); obtain ⟨_, _, _, _, _, _, _, _, _⟩ := blk4 AZ2.out.1; clear ho hy hq hb)
        | (have g9 := AZ; clear g9; (with_reducible refine at_world w1 ?_); refine step_fill w1 W0 BB1.out rfl _ _ rfl (W0.heap.size + 1 + 1) (Value.slice p2 na.length m2) na rfl (by have := BB1.out.size; omega) (((Y1.out.block _ (by simp; try omega) (by first | (simp; done) | (simp; omega) | omega)).trans ((three_new _ _ _ _).2.2))) rfl HK2.out (by have := HL2.out; omega) ?_; intro r2 i2 j2 w2 ho hy hq hb; have BB2 := Lib.hid hb; have O2 := Lib.hid ho; have D12 := Lib.hid (fun q (h1 : q ∈ blkOf (.slice r1 i1 j1)) (h2 : q ∈ blkOf (.slice r2 i2 j2)) => (show False by have a := Q1.out q h1; have b := L1.out q h1; have c := hq q h2; have d := Y1.out.size; simp at a c d; omega)); have O12 := Lib.hid (show OwnStrs w2 W0.heap.size (.slice r1 i1 j1) sy from ⟨O1.out.1, own_block O1.out.2 fun q hx => by have a := Q1.out q hx; have b := L1.out q hx; have d := Y1.out.size; simp at a d; exact hy.block q (by omega) (by simp; omega)⟩); have AZ2 := Lib.hid (az_step AZ.out hy hq (by have d := (Array.getElem?_eq_some_iff.1 AZ.out.1).1; omega)); obtain ⟨_, _, _, _, _, _, _, _, _⟩ := blk4 AZ2.out.1; clear ho hy hq hb)
        | (have g9 := AZ; clear g9; (with_reducible refine at_world w1 ?_); refine step_fill w1 W0 BB1.out rfl _ _ rfl (W0.heap.size + 1) (Value.slice p2 na.length m2) na rfl (by have := BB1.out.size; omega) (((Y1.out.block _ (by simp; try omega) (by first | (simp; done) | (simp; omega) | omega)).trans ((three_new _ _ _ _).2.1))) rfl HK2.out (by have := HL2.out; omega) ?_; intro r2 i2 j2 w2 ho hy hq hb; have BB2 := Lib.hid hb; have O2 := Lib.hid ho; have D12 := Lib.hid (fun q (h1 : q ∈ blkOf (.slice r1 i1 j1)) (h2 : q ∈ blkOf (.slice r2 i2 j2)) => (show False by have a := Q1.out q h1; have b := L1.out q h1; have c := hq q h2; have d := Y1.out.size; simp at a c d; omega)); have O12 := Lib.hid (show OwnStrs w2 W0.heap.size (.slice r1 i1 j1) sy from ⟨O1.out.1, own_block O1.out.2 fun q hx => by have a := Q1.out q hx; have b := L1.out q hx; have d := Y1.out.size; simp at a d; exact hy.block q (by omega) (by simp; omega)⟩); have AZ2 := Lib.hid (az_step AZ.out hy hq (by have d := (Array.getElem?_eq_some_iff.1 AZ.out.1).1; omega)); obtain ⟨_, _, _, _, _, _, _, _, _⟩ := blk4 AZ2.out.1; clear ho hy hq hb)
        | ((with_reducible refine at_world w1 ?_); refine step_fill w1 W0 BB1.out rfl _ _ rfl (W0.heap.size + 1) (Value.slice p2 na.length m2) na rfl (by have := BB1.out.size; omega) (((Y1.out.block _ (by simp; try omega) (by first | (simp; done) | (simp; omega) | omega)).trans ((two_new _ _ _).2))) rfl HK2.out (by have := HL2.out; omega) ?_; intro r2 i2 j2 w2 ho hy hq hb; have BB2 := Lib.hid hb; have O2 := Lib.hid ho; have D12 := Lib.hid (fun q (h1 : q ∈ blkOf (.slice r1 i1 j1)) (h2 : q ∈ blkOf (.slice r2 i2 j2)) => (show False by have a := Q1.out q h1; have b := L1.out q h1; have c := hq q h2; have d := Y1.out.size; simp at a c d; omega)); have O12 := Lib.hid (show OwnStrs w2 W0.heap.size (.slice r1 i1 j1) sy from ⟨O1.out.1, own_block O1.out.2 fun q hx => by have a := Q1.out q hx; have b := L1.out q hx; have d := Y1.out.size; simp at a d; exact hy.block q (by omega) (by simp; omega)⟩); clear ho hy hq hb)
        | ((with_reducible refine at_world (w1.alloc (.cells #[.int .i64 0, .slice none 0 0, .slice none 0 0, .slice none 0 0] 31)) ?_); refine step_fill (w1.alloc (.cells #[.int .i64 0, .slice none 0 0, .slice none 0 0, .slice none 0 0] 31)) W0 (BB1.out.alloc BB1.out.size _) rfl _ _ rfl (W0.heap.size + 1) (Value.slice p2 na.length m2) na rfl (by have := BB1.out.size; omega) ((blk_below ((Y1.out.block _ (by simp; try omega) (by first | (simp; done) | (simp; omega) | omega)).trans ((two_new _ _ _).2)) (below_alloc _ _) (by have := Y1.out.size; simp at this; omega))) rfl HK2.out (by have := HL2.out; omega) ?_; intro r2 i2 j2 w2 ho hy hq hb; have BB2 := Lib.hid hb; have O2 := Lib.hid ho; have D12 := Lib.hid (fun q (h1 : q ∈ blkOf (.slice r1 i1 j1)) (h2 : q ∈ blkOf (.slice r2 i2 j2)) => (show False by have a := Q1.out q h1; have b := L1.out q h1; have c := hq q h2; have d := Y1.out.size; simp at a c d; omega)); have O12 := Lib.hid (show OwnStrs w2 W0.heap.size (.slice r1 i1 j1) sy from ⟨O1.out.1, own_block O1.out.2 fun q hx => by have a := Q1.out q hx; have b := L1.out q hx; have d := Y1.out.size; simp at a d; exact (hy.block q (by simp; omega) (by simp; omega)).trans ((below_alloc _ _).block q b)⟩); have AZ2 := Lib.hid (And.intro (show w2.heap[w1.heap.size]? = some (.cells #[.int .i64 0, .slice none 0 0, .slice none 0 0, .slice none 0 0] 31 (0, 0)) from (hy.block _ (by simp; try omega) (by have d := Y1.out.size; simp at d; first | omega | (simp; omega) | (simp; done))).trans (Go.Deep.blk_alloc_new _ _)) (And.intro (show w1.heap.size ∉ blkOf (.slice r1 i1 j1) from fun hx => by have c := L1.out _ hx; omega) (show w1.heap.size ∉ blkOf (.slice r2 i2 j2) from fun hx => by have a := hq _ hx; have d := Y1.out.size; first | (simp at a d; omega) | (simp at a d; done) | (simp at a; omega) | (simp at a; done)))); obtain ⟨_, _, _, _, _, _, _, _, _⟩ := blk4 AZ2.out.1; clear ho hy hq hb)
        | ((with_reducible refine at_world (w1.alloc (.cells #[] 9)) ?_); refine step_fill (w1.alloc (.cells #[] 9)) W0 (BB1.out.alloc BB1.out.size _) rfl _ _ rfl (w1.heap.size) (Value.slice p2 na.length m2) na rfl (by have := BB1.out.size; omega) (Go.Deep.blk_alloc_new _ _) rfl HK2.out (by have := HL2.out; omega) ?_; intro r2 i2 j2 w2 ho hy hq hb; have BB2 := Lib.hid hb; have O2 := Lib.hid ho; have D12 := Lib.hid (fun q (h1 : q ∈ blkOf (.slice r1 i1 j1)) (h2 : q ∈ blkOf (.slice r2 i2 j2)) => (show False by have a := Q1.out q h1; have b := L1.out q h1; have c := hq q h2; have d := Y1.out.size; simp at a c d; omega)); have O12 := Lib.hid (show OwnStrs w2 W0.heap.size (.slice r1 i1 j1) sy from ⟨O1.out.1, own_block O1.out.2 fun q hx => by have a := Q1.out q hx; have b := L1.out q hx; have d := Y1.out.size; simp at a d; exact (hy.block q (by simp; omega) (by simp; omega)).trans ((below_alloc _ _).block q b)⟩); clear ho hy hq hb)
        | ((with_reducible refine at_world ((w1.alloc (.cells #[] 9)).alloc (.cells #[.int .i64 0, .slice none 0 0, .slice none 0 0, .slice none 0 0] 31)) ?_); refine step_fill ((w1.alloc (.cells #[] 9)).alloc (.cells #[.int .i64 0, .slice none 0 0, .slice none 0 0, .slice none 0 0] 31)) W0 ((BB1.out.alloc BB1.out.size _).alloc (by have := BB1.out.size; simp; omega) _) rfl _ _ rfl (w1.heap.size) (Value.slice p2 na.length m2) na rfl (by have := BB1.out.size; omega) ((two_new _ _ _).1) rfl HK2.out (by have := HL2.out; omega) ?_; intro r2 i2 j2 w2 ho hy hq hb; have BB2 := Lib.hid hb; have O2 := Lib.hid ho; have D12 := Lib.hid (fun q (h1 : q ∈ blkOf (.slice r1 i1 j1)) (h2 : q ∈ blkOf (.slice r2 i2 j2)) => (show False by have a := Q1.out q h1; have b := L1.out q h1; have c := hq q h2; have d := Y1.out.size; simp at a c d; omega)); have O12 := Lib.hid (show OwnStrs w2 W0.heap.size (.slice r1 i1 j1) sy from ⟨O1.out.1, own_block O1.out.2 fun q hx => by have a := Q1.out q hx; have b := L1.out q hx; have d := Y1.out.size; simp at a d; exact (hy.block q (by simp; omega) (by simp; omega)).trans (((below_alloc _ _).alloc (by simp) _).block q b)⟩); have AZ2 := Lib.hid (And.intro (show w2.heap[w1.heap.size + 1]? = some (.cells #[.int .i64 0, .slice none 0 0, .slice none 0 0, .slice none 0 0] 31 (0, 0)) from (hy.block _ (by simp; try omega) (by have d := Y1.out.size; simp at d; first | omega | (simp; omega) | (simp; done))).trans ((two_new _ _ _).2)) (And.intro (show w1.heap.size + 1 ∉ blkOf (.slice r1 i1 j1) from fun hx => by have c := L1.out _ hx; omega) (show w1.heap.size + 1 ∉ blkOf (.slice r2 i2 j2) from fun hx => by have a := hq _ hx; have d := Y1.out.size; first | (simp at a d; omega) | (simp at a d; done) | (simp at a; omega) | (simp at a; done)))); obtain ⟨_, _, _, _, _, _, _, _, _⟩ := blk4 AZ2.out.1; clear ho hy hq hb)
        | ((with_reducible refine at_world ((w1.alloc (.cells #[.int .i64 0, .slice none 0 0, .slice none 0 0, .slice none 0 0] 31)).alloc (.cells #[] 9)) ?_); refine step_fill ((w1.alloc (.cells #[.int .i64 0, .slice none 0 0, .slice none 0 0, .slice none 0 0] 31)).alloc (.cells #[] 9)) W0 ((BB1.out.alloc BB1.out.size _).alloc (by have := BB1.out.size; simp; omega) _) rfl _ _ rfl (w1.heap.size + 1) (Value.slice p2 na.length m2) na rfl (by have := BB1.out.size; omega) ((two_new _ _ _).2) rfl HK2.out (by have := HL2.out; omega) ?_; intro r2 i2 j2 w2 ho hy hq hb; have BB2 := Lib.hid hb; have O2 := Lib.hid ho; have D12 := Lib.hid (fun q (h1 : q ∈ blkOf (.slice r1 i1 j1)) (h2 : q ∈ blkOf (.slice r2 i2 j2)) => (show False by have a := Q1.out q h1; have b := L1.out q h1; have c := hq q h2; have d := Y1.out.size; simp at a c d; omega)); have O12 := Lib.hid (show OwnStrs w2 W0.heap.size (.slice r1 i1 j1) sy from ⟨O1.out.1, own_block O1.out.2 fun q hx => by have a := Q1.out q hx; have b := L1.out q hx; have d := Y1.out.size; simp at a d; exact (hy.block q (by simp; omega) (by simp; omega)).trans (((below_alloc _ _).alloc (by simp) _).block q b)⟩); have AZ2 := Lib.hid (And.intro (show w2.heap[w1.heap.size]? = some (.cells #[.int .i64 0, .slice none 0 0, .slice none 0 0, .slice none 0 0] 31 (0, 0)) from (hy.block _ (by simp; try omega) (by have d := Y1.out.size; simp at d; first | omega | (simp; omega) | (simp; done))).trans ((two_new _ _ _).1)) (And.intro (show w1.heap.size ∉ blkOf (.slice r1 i1 j1) from fun hx => by have c := L1.out _ hx; omega) (show w1.heap.size ∉ blkOf (.slice r2 i2 j2) from fun hx => by have a := hq _ hx; have d := Y1.out.size; first | (simp at a d; omega) | (simp at a d; done) | (simp at a; omega) | (simp at a; done)))); obtain ⟨_, _, _, _, _, _, _, _, _⟩ := blk4 AZ2.out.1; clear ho hy hq hb)
        | ((with_reducible refine at_world w1 ?_); refine step_fill w1 W0 BB1.out rfl _ _ rfl (W0.heap.size) (Value.slice p2 na.length m2) na rfl (by have := BB1.out.size; omega) (((Y1.out.block _ (by simp; try omega) (by first | (simp; done) | (simp; omega) | omega)).trans ((two_new _ _ _).1))) rfl HK2.out (by have := HL2.out; omega) ?_; intro r2 i2 j2 w2 ho hy hq hb; have BB2 := Lib.hid hb; have O2 := Lib.hid ho; have D12 := Lib.hid (fun q (h1 : q ∈ blkOf (.slice r1 i1 j1)) (h2 : q ∈ blkOf (.slice r2 i2 j2)) => (show False by have a := Q1.out q h1; have b := L1.out q h1; have c := hq q h2; have d := Y1.out.size; simp at a c d; omega)); have O12 := Lib.hid (show OwnStrs w2 W0.heap.size (.slice r1 i1 j1) sy from ⟨O1.out.1, own_block O1.out.2 fun q hx => by have a := Q1.out q hx; have b := L1.out q hx; have d := Y1.out.size; simp at a d; exact hy.block q (by omega) (by simp; omega)⟩); clear ho hy hq hb)
        | ((with_reducible refine at_world (w1.alloc (.cells #[.int .i64 0, .slice none 0 0, .slice none 0 0, .slice none 0 0] 31)) ?_); refine step_fill (w1.alloc (.cells #[.int .i64 0, .slice none 0 0, .slice none 0 0, .slice none 0 0] 31)) W0 (BB1.out.alloc BB1.out.size _) rfl _ _ rfl (W0.heap.size) (Value.slice p2 na.length m2) na rfl (by have := BB1.out.size; omega) ((blk_below ((Y1.out.block _ (by simp; try omega) (by first | (simp; done) | (simp; omega) | omega)).trans ((two_new _ _ _).1)) (below_alloc _ _) (by have := Y1.out.size; simp at this; omega))) rfl HK2.out (by have := HL2.out; omega) ?_; intro r2 i2 j2 w2 ho hy hq hb; have BB2 := Lib.hid hb; have O2 := Lib.hid ho; have D12 := Lib.hid (fun q (h1 : q ∈ blkOf (.slice r1 i1 j1)) (h2 : q ∈ blkOf (.slice r2 i2 j2)) => (show False by have a := Q1.out q h1; have b := L1.out q h1; have c := hq q h2; have d := Y1.out.size; simp at a c d; omega)); have O12 := Lib.hid (show OwnStrs w2 W0.heap.size (.slice r1 i1 j1) sy from ⟨O1.out.1, own_block O1.out.2 fun q hx => by have a := Q1.out q hx; have b := L1.out q hx; have d := Y1.out.size; simp at a d; exact (hy.block q (by simp; omega) (by simp; omega)).trans ((below_alloc _ _).block q b)⟩); have AZ2 := Lib.hid (And.intro (show w2.heap[w1.heap.size]? = some (.cells #[.int .i64 0, .slice none 0 0, .slice none 0 0, .slice none 0 0] 31 (0, 0)) from (hy.block _ (by simp; try omega) (by have d := Y1.out.size; simp at d; first | omega | (simp; omega) | (simp; done))).trans (Go.Deep.blk_alloc_new _ _)) (And.intro (show w1.heap.size ∉ blkOf (.slice r1 i1 j1) from fun hx => by have c := L1.out _ hx; omega) (show w1.heap.size ∉ blkOf (.slice r2 i2 j2) from fun hx => by have a := hq _ hx; have d := Y1.out.size; first | (simp at a d; omega) | (simp at a d; done) | (simp at a; omega) | (simp at a; done)))); obtain ⟨_, _, _, _, _, _, _, _, _⟩ := blk4 AZ2.out.1; clear ho hy hq hb)
        | fail)
    all_goals
      go_wp2_with fail
      go_meet
      first
        | (have g := AZ2; exact co_cut3 O12.out O2.out D12.out BB2.out g.out.1 g.out.2.1 g.out.2.2 (by have := BB1.out.size; omega))
        | exact co_cut4 O12.out O2.out D12.out BB2.out
  case rest =>
    rename World => W
    obtain ⟨gv, r1, i1, j1, r2, i2, j2, rfl, hgv, hgb, hs1, hs2, hnd, hbW⟩ := hcut.out
    have hgz : gv < W.heap.size := (Array.getElem?_eq_some_iff.1 hgb).1
    have Y0 := Lib.hid (blk_below X0.out hbW (Array.getElem?_eq_some_iff.1 X0.out).1)
    have Y1 := Lib.hid (blk_below X1.out hbW (Array.getElem?_eq_some_iff.1 X1.out).1)
    have HBW := Lib.hid (HB.out.trans (hbW.mono HB.out.size))
    have HWW := Lib.hid hbW.size
    have HGV := Lib.hid hgv
    have HS1' := Lib.hid hs1
    have HS2' := Lib.hid hs2
    have HND := Lib.hid hnd
    have HI0 : Hid (CpInv W W gv k (.slice r1 i1 j1) (.slice r2 i2 j2) su 0 none 0 [] []) := ⟨hgb, World.ownsRow_nil _ _ _ _, by simp [OwnAll], by simp [blkOf], Only.refl _ _, hgz⟩
    clear hgv hgb hs1 hs2 hnd hbW hcut hgz
    obtain ⟨a0, a1, a2, a3', _, _, _, _, az⟩ := blk4 Y0.out
    go_wp2_with fail
    go_loopw [4] (fun i wr => ∃ (j : Nat) (p : Option Addr) (cap : Nat) (cs : List Value) (F : List Nat), j ≤ su.length ∧ i = .int .i64 j ∧ Hid (CpInv W wr gv k (.slice r1 i1 j1) (.slice r2 i2 j2) su j p cap cs F)) (fun i _ => su.length - (intOf i).toNat)
    case atStart => exact ⟨0, none, 0, [], [], Nat.zero_le _, rfl, HI0.out⟩
    case round =>
      clear a0 a1 a2 a3' az
      obtain ⟨j, p, cap, cs, F, hj, rfl, HI⟩ := hrel
      obtain ⟨i1', _, _, _, i5, _⟩ := HI.out
      have HR := Lib.hid (show wr.heap[w.heap.size + 1]? = _ from (i5.block _ (by have := HWW.out; have := HWS.out; omega) (by intro h; have := List.mem_singleton.1 h; have := HGV.out; have := HWS.out; omega)).trans Y1.out)
      have HV := Lib.hid i1'
      have HBr : Hid (Below w.heap.size w wr) := HBW.out.trans (i5.below (by have := HWW.out; have := HWS.out; omega) (by have := HGV.out; have := HWS.out; simp; omega))
      clear i1' i5
      obtain ⟨b0, b1, b2, b3, f0, f1, f2, f3, bz⟩ := blk4 HV.out
      have HS := Lib.hid (show wr.heap[w.heap.size]? = _ from (HI.out.2.2.2.2.1.block _ (by have := HWW.out; have := HWS.out; omega) (by intro h; have := List.mem_singleton.1 h; have := HGV.out; have := HWS.out; omega)).trans Y0.out)
      obtain ⟨a0, a1, a2, a3', _, _, _, _, az⟩ := blk4 HS.out
      by_cases hlt : j < su.length
      · obtain ⟨b, off, rfl, c0, c1, c2, c3, s0, s1, s2, s3, s4⟩ := IsShs.at H3.out hlt
        have hKp := Keeps.of_below HBr.out
        have k0 := hKp _ _ _ s0
        have k1 := hKp _ _ _ s1
        have k2 := hKp _ _ _ s2
        have k3 := hKp _ _ _ s3
        obtain ⟨q1, i1', y1, q2, i2', y2, q3, i3, y3, rfl, rfl, rfl, rfl⟩ := s4.cells
        have K4 := Lib.hid (IsSh.keep hKp _ _ s4)
        have HPj := Lib.hid (List.all_eq_true.1 HP.out su[j] (List.getElem_mem hlt))
        clear s0 s1 s2 s3 s4 hKp
        go_wp2_with fail
        go_region_law (first
          | (go_simp; go_at_call 53; refine (IH.out su[j] _ _ HPj.out (IsSh.keep keeps_drew _ _ K4.out)).mono ?_; rintro e w1 ⟨c0, c1, c2, c3, F1, rfl, ho1, hn1, hb1⟩; obtain ⟨x1, y1', z1, x2, y2', z2, x3, y3', z3, rfl, rfl, rfl, rfl⟩ := (OwnSh.is _ _ _ ho1).cells; have HO1 := Lib.hid ho1; have HN1 := Lib.hid hn1; have HB1 := Lib.hid (show Below wr.heap.size wr w1 from (Below.refl _ wr).drew.trans hb1); obtain ⟨_, _, _, _, _, _, _, _, _⟩ := blk4 (blk_below (w := wr) HV.out HB1.out bz); obtain ⟨_, _, _, _, _, _, _, _, _⟩ := blk4 (blk_below (w := wr) HS.out HB1.out az); clear ho1 hn1 hb1)
          | (refine step_shp w1 rfl _ _ rfl W.heap.size p j cap cs _ _ _ _ _ _ _ _ _ _ rfl (own_block HI.out.2.1 fun q hq => HB1.out.block q (blkOf_own HI.out.2.1 q hq).2) rfl (by omega) (Nat.le_trans HI.out.2.2.2.2.1.size HB1.out.size) ?_; intro p' cap' w2 ho2 hy2 hp2; have HO2 := Lib.hid ho2; have HY2 := Lib.hid hy2; have HP2 := Lib.hid hp2; have hv2 := blk_below (w := wr) HV.out HB1.out bz; rw [← hy2.block _ (Array.getElem?_eq_some_iff.1 hv2).1 (fun hx => by have := blkOf_own HI.out.2.1 _ hx; have := HI.out.2.2.2.2.2; omega)] at hv2; obtain ⟨_, _, _, _, _, _, _, _, _⟩ := blk4 hv2; clear ho2 hy2 hp2 hv2))
        all_goals
          have HI2 := Lib.hid (cp_step HI.out hlt HO1.out HN1.out HB1.out HO2.out HY2.out HP2.out)
          clear b0 b1 b2 b3 f0 f1 f2 f3 bz k0 k1 k2 k3 a0 a1 a2 a3' az
          go_wp2_with fail
          go_roundw
          case rel => exact ⟨j + 1, p', cap', _, _, hlt, by go_num, HI2.out⟩
          case measure => simp [intOf]; omega
      · obtain rfl : j = su.length := by omega
        obtain ⟨r0, r1', r2', r3, e0, e1, e2, e3, rz⟩ := blk4 HR.out
        go_wp2_with fail
        refine bodyPost_ret (v := .agg #[.int .i64 k, .slice r1 i1 j1, .slice r2 i2 j2, .slice p su.length cap]) (by simp [results, Tryd.results53, go_sem, *]) rfl ?_
        exact co_post HK.out HI.out HBr.out HS1'.out HS2'.out HND.out (by have := HWS.out; omega) HWW.out

theorem cl_step (d : Nat) (ih : ClAt d) : ClAt (d + 1) := by
  intro t v w hp h
  cases t with | mk k sy na su =>
  simp only [looseOk, Bool.and_eq_true, decide_eq_true_eq] at hp
  exact cs_gen d ih k sy na su v w hp.1 hp.2 h
theorem cl_any : ∀ d : Nat, ClAt d
  | 0 => fun t v w hp _ => by cases t; simp [looseOk] at hp
  | d + 1 => cl_step d (cl_any d)

/-- spec.l02Copy's contract at the right shapes of so many levels. -/
def CsAt (d : Nat) : Prop := ∀ (t : Sh) (v : Value) (w : World), partOk d t = true → IsSh w t v → Calls Tryd.prog 53 #[v] w (ToPost t w)
/-- spec.l02Copy. -/
theorem cs_any (d : Nat) : CsAt d := fun t v w hp h => cl_any d t v w (part_loose hp) h
/-- .. of what has nothing. -/
theorem cs_zero (k : Int) (v : Value) (w : World) (h : IsSh w (.mk k [] [] []) v) : Calls Tryd.prog 53 #[v] w (ToPost (.mk k [] [] []) w) :=
  cs_gen 0 (cl_any 0) k [] [] [] v w ⟨⟨by simp, by simp⟩, ⟨by simp, by simp⟩, by simp⟩ rfl h
end Go.Proofs.YtfdhmkmeffgkgaaDoor
