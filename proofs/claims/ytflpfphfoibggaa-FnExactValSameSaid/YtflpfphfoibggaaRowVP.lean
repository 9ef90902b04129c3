/- The pile of impl.ValSame: rows of two shapes. -/
import Derived.Test.YtflpfphfoibggaaMapVW
namespace Go.Proofs.Ytflpfphfoibggaa.vs
open Go.RowKit

/-- Two shapes on the pile: their cells, and the blocks of the first. -/
structure Row where
  x : Va
  y : Va
  p3 : Option Addr
  m3 : Nat
  q3 : Option Addr
  j3 : Nat
  f : List Nat
def Row.vx (r : Row) : Value := .agg #[.int .i64 r.x.kd, .int .i64 r.x.nn, .string r.x.tx, .slice r.p3 r.x.it.length r.m3]
def Row.vy (r : Row) : Value := .agg #[.int .i64 r.y.kd, .int .i64 r.y.nn, .string r.y.tx, .slice r.q3 r.y.it.length r.j3]
def Row.cells (r : Row) : List Value := [.int .i64 r.x.kd, .int .i64 r.x.nn, .string r.x.tx, .slice r.p3 r.x.it.length r.m3, .int .i64 r.y.kd, .int .i64 r.y.nn, .string r.y.tx, .slice r.q3 r.y.it.length r.j3]
def RowOk (w : World) (r : Row) : Prop := OwnVa w 0 r.x r.vx r.f ∧ IsVa w r.y r.vy
/-- How many shapes stand on the left of the pile. -/
def rowsN (l : List Row) : Nat := (l.map fun r => r.x.nodes).sum

theorem nodes_pos (t : Va) : 1 ≤ t.nodes := vnodes_pos t
theorem rowsN_ge : ∀ (l : List Row), l.length ≤ rowsN l
  | [] => Nat.zero_le _
  | a :: l => by
    have := rowsN_ge l
    have := nodes_pos a.x
    simp only [rowsN, List.map_cons, List.sum_cons, List.length_cons] at *
    omega
/-- Two new blocks. -/
def Two (w w' : World) (g7 g8 : Nat) (o7 o8 : Obj) : Prop :=
  g7 ≠ g8 ∧ w.heap.size ≤ g7 ∧ w.heap.size ≤ g8 ∧ w'.heap[g7]? = some o7 ∧ w'.heap[g8]? = some o8 ∧ Below w.heap.size w w'
theorem two_meet1 (w : World) (o7 o8 : Obj) : Two w ((w.alloc o7).alloc o8).drew w.heap.size (w.heap.size + 1) o7 o8 := by
  obtain ⟨h1, h2⟩ := two_new w o7 o8
  exact ⟨by omega, Nat.le_refl _, by omega, h1, h2, ((below_alloc w o7).alloc (by simp) o8).drew⟩
theorem two_meet2 (w : World) (o7 o8 : Obj) : Two w ((w.alloc o8).alloc o7).drew (w.heap.size + 1) w.heap.size o7 o8 := by
  obtain ⟨h1, h2⟩ := two_new w o8 o7
  exact ⟨by omega, by omega, Nat.le_refl _, h2, h1, ((below_alloc w o8).alloc (by simp) o7).drew⟩
theorem rows_len : ∀ (l : List Row), (l.flatMap (·.cells)).length = l.length * 8
  | [] => rfl
  | a :: l => by
    rw [List.flatMap_cons, List.length_append, rows_len l]
    simp only [Row.cells, List.length_cons, List.length_nil]; omega
/-- The cells of the pile's top. -/
theorem pile_top {w : World} {B g : Nat} {cap : Nat} {init : List Row} {r : Row} (h : w.ownsRow B 86 8 (.slice (some ⟨g, 0, none⟩) (init.length + 1) cap) (init.length + 1) ((init ++ [r]).flatMap (·.cells))) :
    ∀ j (hj : j < 8), w.cell? ⟨g, init.length * 8 + j, none⟩ = some (r.cells[j]'(by simp [Row.cells]; omega)) := by
  intro j hj
  rcases h.2 with ⟨hv, _⟩ | ⟨g', cap', cur, hv, _, hg, hn, hc, hsz, ht⟩
  · cases hv
  · simp only [Value.slice.injEq, Option.some.injEq, Addr.mk.injEq] at hv
    obtain ⟨⟨rfl, _⟩, _, rfl⟩ := hv
    have e1 : (cur.toList.take ((init.length + 1) * 8))[init.length * 8 + j]? = cur.toList[init.length * 8 + j]? := List.getElem?_take_of_lt (by omega)
    have e2 := rows_len init
    rw [ht, List.flatMap_append, List.getElem?_append_right (by omega), e2] at e1
    have e3 : init.length * 8 + j - init.length * 8 = j := by omega
    rw [e3] at e1
    have e4 : ([r].flatMap (·.cells))[j]? = some (r.cells[j]'(by simp [Row.cells]; omega)) := by
      simp only [List.flatMap_cons, List.flatMap_nil, List.append_nil]
      exact List.getElem?_eq_getElem _
    rw [e4] at e1
    simp [World.cell?, hg, ← Array.getElem?_toList, ← e1]


/-- The children of two shapes, as rows. -/
theorem children_of {w : World} {b : Nat} : ∀ (l m : List Va) (cs : List Value) (F : List Nat) (o : Nat), OwnVas w 0 l cs F → VaAt w b o m → l.length = m.length →
    ∃ ch : List Row, ch.length = l.length ∧ (∀ c ∈ ch, RowOk w c) ∧ (ch.all fun c => vaEq c.x c.y) = vasEq l m ∧ rowsN ch = Va.nodess l ∧ ch.flatMap (·.f) = F ∧
      ∀ i (h : i < ch.length), cs[i * 4]? = some (.int .i64 ch[i].x.kd) ∧ cs[i * 4 + 1]? = some (.int .i64 ch[i].x.nn) ∧ cs[i * 4 + 2]? = some (.string ch[i].x.tx) ∧ cs[i * 4 + 3]? = some (.slice ch[i].p3 ch[i].x.it.length ch[i].m3) ∧
        w.cell? ⟨b, o + i * 4, none⟩ = some (.int .i64 ch[i].y.kd) ∧ w.cell? ⟨b, o + i * 4 + 1, none⟩ = some (.int .i64 ch[i].y.nn) ∧ w.cell? ⟨b, o + i * 4 + 2, none⟩ = some (.string ch[i].y.tx) ∧ w.cell? ⟨b, o + i * 4 + 3, none⟩ = some (.slice ch[i].q3 ch[i].y.it.length ch[i].j3)
  | [], [], cs, F, o, h, _, _ => by
    simp only [OwnVas] at h
    obtain ⟨rfl, rfl⟩ := h
    exact ⟨[], rfl, by simp, by simp [vasEq], rfl, rfl, fun i h => by cases h⟩
  | [], y :: m, _, _, _, _, _, hl => by cases hl
  | x :: l, [], _, _, _, _, _, hl => by cases hl
  | x :: l, y :: m, cs, F, o, h, hm, hl => by
    simp only [OwnVas] at h
    simp only [VaAt] at hm
    obtain ⟨c0, c1, c2, c3, cs', F1, F2, rfl, h1, h2, rfl⟩ := h
    obtain ⟨⟨e0, e1, e2, e3, g0, g1, g2, g3, g4⟩, hm⟩ := hm
    obtain ⟨ch, hlen, hok, heq, hn, hf, hcell⟩ := children_of l m cs' F2 (o + 4) h2 hm (by simpa using hl)
    cases x with | mk k n t it =>
    cases y with | mk k' n' t' it' =>
    obtain ⟨p3, m3, hv, _⟩ := (OwnVa.is _ _ _ h1).open
    obtain ⟨q3, j3, hu, _⟩ := g4.open
    simp only [Value.agg.injEq, Array.mk.injEq, List.cons.injEq, and_true] at hv hu
    obtain ⟨rfl, rfl, rfl, rfl⟩ := hv
    obtain ⟨rfl, rfl, rfl, rfl⟩ := hu
    refine ⟨⟨.mk k n t it, .mk k' n' t' it', p3, m3, q3, j3, F1⟩ :: ch, by simp [hlen], ?_, by simp [vasEq, heq], ?_, by simp [hf], ?_⟩
    · intro c hc
      rcases List.mem_cons.1 hc with rfl | hc
      · exact ⟨h1, g4⟩
      · exact hok c hc
    · simp only [rowsN, List.map_cons, List.sum_cons, Va.nodess] at hn ⊢
      rw [hn]
    · intro i hi
      cases i with
      | zero => exact ⟨rfl, rfl, rfl, rfl, by simpa [Va.kd] using g0, by simpa [Va.nn] using g1, by simpa [Va.tx] using g2, by simpa [Va.it] using g3⟩
      | succ i =>
        have hc := hcell i (by simpa using hi)
        have e4 : (i + 1) * 4 = i * 4 + 4 := by omega
        have e5 : o + (i * 4 + 4) = o + 4 + i * 4 := by omega
        simpa [e4, e5] using hc

/-- What the row of a record, or a list, gives: its children, and the block that they stand in. -/
theorem Row.kids {w : World} {r : Row} (h : RowOk w r) (hl : r.x.it.length = r.y.it.length) (h0 : ¬ r.x.it.length = 0) :
    ∃ (gx by' oy : Nat) (ch : List Row), r.p3 = some ⟨gx, 0, none⟩ ∧ r.q3 = some ⟨by', oy, none⟩ ∧ PlainB w gx ∧ ch.length = r.x.it.length ∧ (∀ c ∈ ch, RowOk w c) ∧ (ch.all fun c => vaEq c.x c.y) = vasEq r.x.it r.y.it ∧ r.x.nodes = 1 + rowsN ch ∧
      List.Sublist (gx :: ch.flatMap (·.f)) r.f ∧
      ∀ i (h : i < ch.length), w.cell? ⟨gx, i * 4, none⟩ = some (.int .i64 ch[i].x.kd) ∧ w.cell? ⟨gx, i * 4 + 1, none⟩ = some (.int .i64 ch[i].x.nn) ∧ w.cell? ⟨gx, i * 4 + 2, none⟩ = some (.string ch[i].x.tx) ∧ w.cell? ⟨gx, i * 4 + 3, none⟩ = some (.slice ch[i].p3 ch[i].x.it.length ch[i].m3) ∧
        w.cell? ⟨by', oy + i * 4, none⟩ = some (.int .i64 ch[i].y.kd) ∧ w.cell? ⟨by', oy + i * 4 + 1, none⟩ = some (.int .i64 ch[i].y.nn) ∧ w.cell? ⟨by', oy + i * 4 + 2, none⟩ = some (.string ch[i].y.tx) ∧ w.cell? ⟨by', oy + i * 4 + 3, none⟩ = some (.slice ch[i].q3 ch[i].y.it.length ch[i].j3) := by
  obtain ⟨h1, h2⟩ := h
  unfold Row.vx at h1
  unfold Row.vy at h2
  obtain ⟨x, y, p3, m3, q3, j3, f⟩ := r
  cases x with | mk k n t su =>
  cases y with | mk k' n' t' su' =>
  simp only [Va.it, Va.kd, Va.nn, Va.tx] at *
  obtain ⟨vp, cs, Fs, hv, _, _, _, h4, h5, hF⟩ := h1.parts
  simp only [Value.agg.injEq, Array.mk.injEq, List.cons.injEq, and_true] at hv
  obtain ⟨_, _, _, rfl⟩ := hv
  rcases h4.2 with ⟨hv, h0'⟩ | ⟨gx, cap, cur, hv, _, hg, hn, _, hsz, ht⟩
  · exact absurd h0' h0
  · simp only [Value.slice.injEq] at hv
    obtain ⟨rfl, _, rfl⟩ := hv
    obtain ⟨vp', hu, _, _, _, a, cap', hvp, _, _, h6⟩ := h2.parts
    simp only [Value.agg.injEq, Array.mk.injEq, List.cons.injEq, and_true] at hu
    obtain ⟨_, _, _, rfl⟩ := hu
    simp only [Value.slice.injEq] at hvp
    obtain ⟨rfl, _, rfl⟩ := hvp
    rcases h6 with h6 | ⟨by', oy, rfl, h6⟩
    · rw [h6] at hl; exact absurd hl h0
    · obtain ⟨ch, hlen, hok, heq, hrn, hf, hcell⟩ := children_of su su' cs Fs oy h5 h6 hl
      refine ⟨gx, by', oy, ch, rfl, rfl, ⟨_, _, hg⟩, hlen, hok, heq, by rw [hrn]; simp only [Va.nodes], ?_, fun i hi => ?_⟩
      · rw [hf, hF]
        simp [blkOf]
      · obtain ⟨k0, k1, k2, k3, k4, k5, k6, k7⟩ := hcell i hi
        have key : ∀ j c, cs[j]? = some c → w.cell? ⟨gx, j, none⟩ = some c := fun j c hj => by
          have hlt : j < cs.length := (List.getElem?_eq_some_iff.1 hj).1
          have hcl := h4.1
          have e : (cur.toList.take (su.length * 4))[j]? = cur.toList[j]? := List.getElem?_take_of_lt (by omega)
          rw [ht, hj] at e
          simp [World.cell?, hg, ← Array.getElem?_toList, ← e]
        exact ⟨key _ _ k0, key _ _ k1, key _ _ k2, key _ _ k3, k4, k5, k6, k7⟩
end Go.Proofs.Ytflpfphfoibggaa.vs
