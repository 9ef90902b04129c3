/- The pile of impl.ShapeSame: rows of two shapes. -/
import Derived.Test.YtflpfphfoibggaaMapW
import Derived.Test.YtflpfphfoibggaaNodesW
namespace Go.Proofs.Ytflpfphfoibggaa
open Go.RowKit

/-- Two shapes on the pile: their cells, and the blocks of the first. -/
structure Row where
  x : Sh
  y : Sh
  p1 : Option Addr
  n1 : Nat
  m1 : Nat
  p2 : Option Addr
  n2 : Nat
  m2 : Nat
  p3 : Option Addr
  m3 : Nat
  q1 : Option Addr
  i1 : Nat
  j1 : Nat
  q2 : Option Addr
  i2 : Nat
  j2 : Nat
  q3 : Option Addr
  j3 : Nat
  f : List Nat
def Row.vx (r : Row) : Value := .agg #[.int .i64 r.x.kd, .slice r.p1 r.n1 r.m1, .slice r.p2 r.n2 r.m2, .slice r.p3 r.x.su.length r.m3]
def Row.vy (r : Row) : Value := .agg #[.int .i64 r.y.kd, .slice r.q1 r.i1 r.j1, .slice r.q2 r.i2 r.j2, .slice r.q3 r.y.su.length r.j3]
def Row.cells (r : Row) : List Value := [.int .i64 r.x.kd, .slice r.p1 r.n1 r.m1, .slice r.p2 r.n2 r.m2, .slice r.p3 r.x.su.length r.m3, .int .i64 r.y.kd, .slice r.q1 r.i1 r.j1, .slice r.q2 r.i2 r.j2, .slice r.q3 r.y.su.length r.j3]
def RowOk (w : World) (r : Row) : Prop := OwnSh w 0 r.x r.vx r.f ∧ IsSh w r.y r.vy
/-- How many shapes stand on the left of the pile. -/
def rowsN (l : List Row) : Nat := (l.map fun r => r.x.nodes).sum

theorem nodes_pos (t : Sh) : 1 ≤ t.nodes := by cases t; simp only [Sh.nodes]; omega
theorem rowsN_ge : ∀ (l : List Row), l.length ≤ rowsN l
  | [] => Nat.zero_le _
  | a :: l => by
    have := rowsN_ge l
    have := nodes_pos a.x
    simp only [rowsN, List.map_cons, List.sum_cons, List.length_cons] at *
    omega
/-- Two new blocks. -/
def Two (w w' : World) (g7 g8 : Nat) (o7 o8 : Obj) : Prop :=
  g7 ≠ g8 ∧ w.heap.size ≤ g7 ∧ w.heap.size ≤ g8 ∧ w'.heap[g7]? = some o7 ∧ w'.heap[g8]? = some o8 ∧ Below w.heap.size w w'
theorem two_meet1 (w : World) (o7 o8 : Obj) : Two w ((w.alloc o7).alloc o8).drew w.heap.size (w.heap.size + 1) o7 o8 := by
  obtain ⟨h1, h2⟩ := two_new w o7 o8
  exact ⟨by omega, Nat.le_refl _, by omega, h1, h2, ((below_alloc w o7).alloc (by simp) o8).drew⟩
theorem two_meet2 (w : World) (o7 o8 : Obj) : Two w ((w.alloc o8).alloc o7).drew (w.heap.size + 1) w.heap.size o7 o8 := by
  obtain ⟨h1, h2⟩ := two_new w o8 o7
  exact ⟨by omega, by omega, Nat.le_refl _, h2, h1, ((below_alloc w o8).alloc (by simp) o7).drew⟩
theorem rows_len : ∀ (l : List Row), (l.flatMap (·.cells)).length = l.length * 8
  | [] => rfl
  | a :: l => by
    rw [List.flatMap_cons, List.length_append, rows_len l]
    simp only [Row.cells, List.length_cons, List.length_nil]; omega
/-- The cells of the pile's top. -/
theorem pile_top {w : World} {B g : Nat} {cap : Nat} {init : List Row} {r : Row} (h : w.ownsRow B 72 8 (.slice (some ⟨g, 0, none⟩) (init.length + 1) cap) (init.length + 1) ((init ++ [r]).flatMap (·.cells))) :
    ∀ j (hj : j < 8), w.cell? ⟨g, init.length * 8 + j, none⟩ = some (r.cells[j]'(by simp [Row.cells]; omega)) := by
  intro j hj
  rcases h.2 with ⟨hv, _⟩ | ⟨g', cap', cur, hv, _, hg, hn, hc, hsz, ht⟩
  · cases hv
  · simp only [Value.slice.injEq, Option.some.injEq, Addr.mk.injEq] at hv
    obtain ⟨⟨rfl, _⟩, _, rfl⟩ := hv
    have e1 : (cur.toList.take ((init.length + 1) * 8))[init.length * 8 + j]? = cur.toList[init.length * 8 + j]? := List.getElem?_take_of_lt (by omega)
    have e2 := rows_len init
    rw [ht, List.flatMap_append, List.getElem?_append_right (by omega), e2] at e1
    have e3 : init.length * 8 + j - init.length * 8 = j := by omega
    rw [e3] at e1
    have e4 : ([r].flatMap (·.cells))[j]? = some (r.cells[j]'(by simp [Row.cells]; omega)) := by
      simp only [List.flatMap_cons, List.flatMap_nil, List.append_nil]
      exact List.getElem?_eq_getElem _
    rw [e4] at e1
    simp [World.cell?, hg, ← Array.getElem?_toList, ← e1]


/-- The children of two shapes, as rows. -/
theorem children_of {w : World} {b : Nat} : ∀ (l m : List Sh) (cs : List Value) (F : List Nat) (o : Nat), OwnAll w 0 l cs F → ShAt w b o m → l.length = m.length →
    ∃ ch : List Row, ch.length = l.length ∧ (∀ c ∈ ch, RowOk w c) ∧ (ch.all fun c => shEq c.x c.y) = shsEq l m ∧ rowsN ch = Sh.nodess l ∧ ch.flatMap (·.f) = F ∧
      ∀ i (h : i < ch.length), cs[i * 4]? = some (.int .i64 ch[i].x.kd) ∧ cs[i * 4 + 1]? = some (.slice ch[i].p1 ch[i].n1 ch[i].m1) ∧ cs[i * 4 + 2]? = some (.slice ch[i].p2 ch[i].n2 ch[i].m2) ∧ cs[i * 4 + 3]? = some (.slice ch[i].p3 ch[i].x.su.length ch[i].m3) ∧
        w.cell? ⟨b, o + i * 4, none⟩ = some (.int .i64 ch[i].y.kd) ∧ w.cell? ⟨b, o + i * 4 + 1, none⟩ = some (.slice ch[i].q1 ch[i].i1 ch[i].j1) ∧ w.cell? ⟨b, o + i * 4 + 2, none⟩ = some (.slice ch[i].q2 ch[i].i2 ch[i].j2) ∧ w.cell? ⟨b, o + i * 4 + 3, none⟩ = some (.slice ch[i].q3 ch[i].y.su.length ch[i].j3)
  | [], [], cs, F, o, h, _, _ => by
    simp only [OwnAll] at h
    obtain ⟨rfl, rfl⟩ := h
    exact ⟨[], rfl, by simp, by simp [shsEq], rfl, rfl, fun i h => by cases h⟩
  | [], y :: m, _, _, _, _, _, hl => by cases hl
  | x :: l, [], _, _, _, _, _, hl => by cases hl
  | x :: l, y :: m, cs, F, o, h, hm, hl => by
    simp only [OwnAll] at h
    simp only [ShAt] at hm
    obtain ⟨c0, c1, c2, c3, cs', F1, F2, rfl, h1, h2, rfl⟩ := h
    obtain ⟨⟨e0, e1, e2, e3, g0, g1, g2, g3, g4⟩, hm⟩ := hm
    obtain ⟨ch, hlen, hok, heq, hn, hf, hcell⟩ := children_of l m cs' F2 (o + 4) h2 hm (by simpa using hl)
    cases x with | mk k sy na su =>
    cases y with | mk k' sy' na' su' =>
    obtain ⟨p1, m1, p2, m2, p3, m3, hv, _⟩ := (OwnSh.is _ _ _ h1).open
    obtain ⟨q1, j1, q2, j2, q3, j3, hu, _⟩ := g4.open
    simp only [Value.agg.injEq, Array.mk.injEq, List.cons.injEq, and_true] at hv hu
    obtain ⟨rfl, rfl, rfl, rfl⟩ := hv
    obtain ⟨rfl, rfl, rfl, rfl⟩ := hu
    refine ⟨⟨.mk k sy na su, .mk k' sy' na' su', p1, sy.length, m1, p2, na.length, m2, p3, m3, q1, sy'.length, j1, q2, na'.length, j2, q3, j3, F1⟩ :: ch, by simp [hlen], ?_, by simp [shsEq, heq], ?_, by simp [hf], ?_⟩
    · intro c hc
      rcases List.mem_cons.1 hc with rfl | hc
      · exact ⟨h1, g4⟩
      · exact hok c hc
    · simp only [rowsN, List.map_cons, List.sum_cons, Sh.nodess] at hn ⊢
      rw [hn]
    · intro i hi
      cases i with
      | zero => exact ⟨rfl, rfl, rfl, rfl, by simpa [Sh.kd] using g0, by simpa using g1, by simpa using g2, by simpa [Sh.su] using g3⟩
      | succ i =>
        have hc := hcell i (by simpa using hi)
        have e4 : (i + 1) * 4 = i * 4 + 4 := by omega
        have e5 : o + (i * 4 + 4) = o + 4 + i * 4 := by omega
        simpa [e4, e5] using hc

/-- What the row of a record, or a list, gives: its children, and the block that they stand in. -/
theorem Row.kids {w : World} {r : Row} (h : RowOk w r) (hl : r.x.su.length = r.y.su.length) (h0 : ¬ r.x.su.length = 0) :
    ∃ (gx by' oy : Nat) (ch : List Row), r.p3 = some ⟨gx, 0, none⟩ ∧ r.q3 = some ⟨by', oy, none⟩ ∧ PlainB w gx ∧ ch.length = r.x.su.length ∧ (∀ c ∈ ch, RowOk w c) ∧ (ch.all fun c => shEq c.x c.y) = shsEq r.x.su r.y.su ∧ r.x.nodes = 1 + rowsN ch ∧
      List.Sublist (gx :: ch.flatMap (·.f)) r.f ∧
      ∀ i (h : i < ch.length), w.cell? ⟨gx, i * 4, none⟩ = some (.int .i64 ch[i].x.kd) ∧ w.cell? ⟨gx, i * 4 + 1, none⟩ = some (.slice ch[i].p1 ch[i].n1 ch[i].m1) ∧ w.cell? ⟨gx, i * 4 + 2, none⟩ = some (.slice ch[i].p2 ch[i].n2 ch[i].m2) ∧ w.cell? ⟨gx, i * 4 + 3, none⟩ = some (.slice ch[i].p3 ch[i].x.su.length ch[i].m3) ∧
        w.cell? ⟨by', oy + i * 4, none⟩ = some (.int .i64 ch[i].y.kd) ∧ w.cell? ⟨by', oy + i * 4 + 1, none⟩ = some (.slice ch[i].q1 ch[i].i1 ch[i].j1) ∧ w.cell? ⟨by', oy + i * 4 + 2, none⟩ = some (.slice ch[i].q2 ch[i].i2 ch[i].j2) ∧ w.cell? ⟨by', oy + i * 4 + 3, none⟩ = some (.slice ch[i].q3 ch[i].y.su.length ch[i].j3) := by
  obtain ⟨h1, h2⟩ := h
  unfold Row.vx at h1
  unfold Row.vy at h2
  obtain ⟨x, y, p1, n1, m1, p2, n2, m2, p3, m3, q1, i1, j1, q2, i2, j2, q3, j3, f⟩ := r
  cases x with | mk k sy na su =>
  cases y with | mk k' sy' na' su' =>
  simp only [Sh.su, Sh.kd] at *
  obtain ⟨vs, vn, vp, cs, Fs, hv, _, _, _, h4, h5, hF⟩ := h1.parts
  simp only [Value.agg.injEq, Array.mk.injEq, List.cons.injEq, and_true] at hv
  obtain ⟨_, _, _, rfl⟩ := hv
  rcases h4.2 with ⟨hv, h0'⟩ | ⟨gx, cap, cur, hv, _, hg, hn, _, hsz, ht⟩
  · exact absurd h0' h0
  · simp only [Value.slice.injEq] at hv
    obtain ⟨rfl, _, rfl⟩ := hv
    obtain ⟨vs', vn', vp', hu, _, _, _, a, cap', hvp, _, _, h6⟩ := h2.parts
    simp only [Value.agg.injEq, Array.mk.injEq, List.cons.injEq, and_true] at hu
    obtain ⟨_, _, _, rfl⟩ := hu
    simp only [Value.slice.injEq] at hvp
    obtain ⟨rfl, _, rfl⟩ := hvp
    rcases h6 with h6 | ⟨by', oy, rfl, h6⟩
    · rw [h6] at hl; exact absurd hl h0
    · obtain ⟨ch, hlen, hok, heq, hrn, hf, hcell⟩ := children_of su su' cs Fs oy h5 h6 hl
      refine ⟨gx, by', oy, ch, rfl, rfl, ⟨_, _, hg⟩, hlen, hok, heq, by rw [hrn]; simp only [Sh.nodes], ?_, fun i hi => ?_⟩
      · rw [hf, hF]
        refine List.Sublist.trans ?_ (List.sublist_append_right _ _)
        exact List.Sublist.trans (by simp [blkOf]) (List.sublist_append_right _ _)
      · obtain ⟨k0, k1, k2, k3, k4, k5, k6, k7⟩ := hcell i hi
        have key : ∀ j c, cs[j]? = some c → w.cell? ⟨gx, j, none⟩ = some c := fun j c hj => by
          have hlt : j < cs.length := (List.getElem?_eq_some_iff.1 hj).1
          have hcl := h4.1
          have e : (cur.toList.take (su.length * 4))[j]? = cur.toList[j]? := List.getElem?_take_of_lt (by omega)
          rw [ht, hj] at e
          simp [World.cell?, hg, ← Array.getElem?_toList, ← e]
        exact ⟨key _ _ k0, key _ _ k1, key _ _ k2, key _ _ k3, k4, k5, k6, k7⟩
end Go.Proofs.Ytflpfphfoibggaa
