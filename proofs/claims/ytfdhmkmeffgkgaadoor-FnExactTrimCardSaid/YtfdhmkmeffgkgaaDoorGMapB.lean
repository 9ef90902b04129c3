/- The map of impl.sameThroughout at shapes: what is looked up, and what comes in. · Walks: impl.countOf, spec.l02Nodes, impl.NodesOf, spec.NodesOf. · The pile of impl.ShapeSame: rows of two shapes. · Walks: impl.sameThroughout at shapes. -/
import Derived.Test.YtfdhmkmeffgkgaaDoorGMapA
import Derived.Laws.StructEq
import Derived.LaidEqlPtr
import Derived.Laws.IdiomMaps
import Derived.Test.YtfdhmkmeffgkgaaDoorGPartB
import Derived.Test.YtfdhmkmeffgkgaaDoorGShaO
import Derived.Deep.LoopGhost
import Derived.Deep.RegionWith
import Derived.IntWalk
import Derived.Deep.RegionLaw
import Derived.Deep.DeepCutAuto
import Derived.RegionTactic
import Derived.BigRegion
namespace Go.Proofs.YtfdhmkmeffgkgaaDoor
open Go.RowKit

/-- A key: two places, and how many. -/
def keyV (a b : Addr) (n : Nat) : Value := .agg #[.pointer (some a), .pointer (some b), .int .i64 n]
/-- A block of the call's own making, none of it frozen. -/
def PlainB (w : World) (g : Nat) : Prop := ∃ c t, w.heap[g]? = some (.cells c t (0, 0))

theorem key_no (w : World) (a a' b b' : Addr) (n n' : Nat) (hne : a ≠ a') (ha : PlainB w a.block) (ha' : PlainB w a'.block) :
    (Op.equal 104 (keyV a b n) (keyV a' b' n')).run Tryd.prog w = .ok false w := by
  obtain ⟨c, t, hc⟩ := ha
  obtain ⟨c', t', hc'⟩ := ha'
  unfold Op.equal Op.maxDepth keyV
  rw [run_equalIn_struct w 9999 104 _ _ (by kernel_rfl) (by kernel_rfl)]
  have hsz : (Tryd.prog.info? 31).map (·.size) = some 4 := by kernel_rfl
  obtain ⟨j, hj, hjs⟩ := Option.map_eq_some_iff.1 hsz
  have h48' : ∀ d : Nat, (Op.equalIn (d + 1) 102 (.pointer (some a)) (.pointer (some a'))).run Tryd.prog w = .ok false w := fun d => by
    simp [Op.equalIn, run_underlying Tryd.underlying102, sizeOf, typeInfo, hj, hjs, run_sameAddr_other w hne hc hc']
  have h48 := h48' 9998
  clear h48'
  have hp1 : ∀ (x y z : Value), (part 102 #[x, y, z] 0).run Tryd.prog w = .ok x w := fun _ _ _ => by kernel_rfl
  simp only [Program.fieldsOf, Tryd.underlying104]
  simp [Op.eqFields, hp1, h48]

/-- What the keys of the map are good for: their first places lie in the blocks M. -/
def KeysIn (w : World) (es : List MapEntry) (M : List Nat) : Prop :=
  ∀ e ∈ es, ∃ g b n, e.key = keyV ⟨g, 0, none⟩ b n ∧ g ∈ M ∧ PlainB w g

theorem find_no (w : World) (g : Nat) (b : Addr) (n : Nat) (hp : PlainB w g) : ∀ (es : List MapEntry) (M : List Nat) (i : Nat), KeysIn w es M → g ∉ M →
    (Instr.findAsking 104 (keyV ⟨g, 0, none⟩ b n) es i).run Tryd.prog w = .ok none w
  | [], _, _, _, _ => by simp [Instr.findAsking]
  | e :: es, M, i, h, hg => by
    obtain ⟨g', b', n', he, hm, hpl⟩ := h e (by simp)
    have hne : (⟨g, 0, none⟩ : Addr) ≠ ⟨g', 0, none⟩ := fun h => hg (by cases h; exact hm)
    have hk := key_no w ⟨g, 0, none⟩ ⟨g', 0, none⟩ b b' n n' hne hp hpl
    unfold Instr.findAsking
    simp [he, hk, find_no w g b n hp es M (i + 1) (fun e he => h e (by simp [he])) hg]

theorem findKey_no (w : World) (g : Nat) (b : Addr) (n : Nat) (hp : PlainB w g) (es : List MapEntry) (M : List Nat) (h : KeysIn w es M) (hg : g ∉ M) :
    (Instr.findKey 104 (keyV ⟨g, 0, none⟩ b n) es).run Tryd.prog w = .ok none w := by
  have hf := find_no w g b n hp es M 0 h hg
  unfold Instr.findKey
  cases es with
  | nil => simp [run_underlying Tryd.underlying104, Instr.findNow]
  | cons e es => simp [run_underlying Tryd.underlying104, Instr.findNow, Instr.sameNow, hf]

theorem check_key (w : World) (b0 : Bool) (a b : Addr) (n : Nat) : (Instr.checkKey b0 10000 104 (keyV a b n)).run Tryd.prog w = .ok () w := by
  kernel_rfl

/-- The world with another map in block b. -/
def mapPut (w : World) (b : Nat) (o : Obj) : World := { w with heap := w.heap.setIfInBounds b o }
theorem mapPut_same (w : World) (b : Nat) (o : Obj) (h : b < w.heap.size) : (mapPut w b o).heap[b]? = some o := by
  show (w.heap.setIfInBounds b o)[b]? = _
  simp [h]
theorem mapPut_other (w : World) (b g : Nat) (o : Obj) (h : g ≠ b) : (mapPut w b o).heap[g]? = w.heap[g]? := by
  show (w.heap.setIfInBounds b o)[g]? = _
  rw [Array.getElem?_setIfInBounds, if_neg (fun e => h e.symm)]
theorem mapPut_size (w : World) (b : Nat) (o : Obj) : (mapPut w b o).heap.size = w.heap.size := by
  show (w.heap.setIfInBounds b o).size = _
  simp
theorem mapPut_below {B : Nat} {a w : World} (h : Below B a w) {b : Nat} (hb : B ≤ b) (o : Obj) : Below B a (mapPut w b o) :=
  h.trans ⟨rfl, rfl, rfl, Nat.le_of_eq (mapPut_size _ _ _).symm, fun k hk => mapPut_other _ _ _ _ (by omega)⟩

theorem lookup_no (w : World) (mb g : Nat) (b : Addr) (n : Nat) (es : Array MapEntry) (clock : Nat) (M : List Nat) (hm : w.heap[mb]? = some (.map es clock)) (hp : PlainB w g) (h : KeysIn w es.toList M) (hg : g ∉ M) :
    (Instr.lookup 101 (.map (some mb)) (keyV ⟨g, 0, none⟩ b n) false).run Tryd.prog w = .ok (.bool false) w := by
  have hz : (zeroValue 4).run Tryd.prog w = .ok (.bool false) w := by kernel_rfl
  unfold Instr.lookup
  simp [run_underlying Tryd.underlying101, MapKept.run_getObj_map hm, check_key, findKey_no w g b n hp es.toList M h hg, hz]

theorem update_no (w : World) (mb g : Nat) (b : Addr) (n : Nat) (v : Value) (es : Array MapEntry) (clock : Nat) (M : List Nat) (hm : w.heap[mb]? = some (.map es clock)) (hp : PlainB w g) (h : KeysIn w es.toList M) (hg : g ∉ M) :
    (Instr.mapUpdate 101 (.map (some mb)) (keyV ⟨g, 0, none⟩ b n) v).run Tryd.prog w = .ok () (mapPut w mb (.map (es.push { key := keyV ⟨g, 0, none⟩ b n, val := v, born := clock }) (clock + 1))) := by
  unfold Instr.mapUpdate
  simp [run_underlying Tryd.underlying101, MapKept.run_getObj_map hm, check_key, findKey_no w g b n hp es.toList M h hg, MapKept.run_setObj_map _ hm, mapPut]
end Go.Proofs.YtfdhmkmeffgkgaaDoor
namespace Go.Proofs.YtfdhmkmeffgkgaaDoor
open Go.RowKit

mutual
/-- How many shapes stand in one, it too. -/
def Sh.nodes : Sh → Nat
  | .mk _ _ _ su => 1 + Sh.nodess su
def Sh.nodess : List Sh → Nat
  | [] => 0
  | x :: l => Sh.nodes x + Sh.nodess l
end
theorem nodess_take (l : List Sh) (k : Nat) (h : k < l.length) : Sh.nodess (l.take (k + 1)) = Sh.nodess (l.take k) + l[k].nodes := by
  induction l generalizing k with
  | nil => cases h
  | cons x l ih =>
    cases k with
    | zero => simp [Sh.nodess]
    | succ k => simp only [List.take_succ_cons, Sh.nodess, List.getElem_cons_succ]; rw [ih k (by simpa using h)]; omega
theorem nodess_take_le (l : List Sh) (k : Nat) : Sh.nodess (l.take k) ≤ Sh.nodess l := by
  induction l generalizing k with
  | nil => simp [Sh.nodess]
  | cons x l ih =>
    cases k with
    | zero => simp [Sh.nodess]
    | succ k => simp only [List.take_succ_cons, Sh.nodess]; have := ih k; omega
theorem nodess_le : ∀ (l : List Sh), (∀ x ∈ l, x.nodes ≤ x.sz + 1) → Sh.nodess l ≤ Sh.szs l + l.length
  | [], _ => by simp [Sh.nodess]
  | x :: l, h => by
    have h1 := h x (by simp)
    have h2 := nodess_le l fun y hy => h y (by simp [hy])
    simp only [Sh.nodess, Sh.szs, List.length_cons]; omega
theorem nodes_le : ∀ t : Sh, t.nodes ≤ t.sz + 1 := by
  refine Sh.ind fun k sy na su ih => ?_
  have := nodess_le su ih
  simp only [Sh.nodes, Sh.sz]; omega

/-- What NodesOf tells. -/
def nodesOf (t : Sh) : Int := if rightB t = true then t.nodes else 0

end Go.Proofs.YtfdhmkmeffgkgaaDoor
namespace Go.Proofs.YtfdhmkmeffgkgaaDoor
open Go.RowKit

/-- Two shapes on the pile: their cells, and the blocks of the first. -/
structure Row where
  x : Sh
  y : Sh
  p1 : Option Addr
  n1 : Nat
  m1 : Nat
  p2 : Option Addr
  n2 : Nat
  m2 : Nat
  p3 : Option Addr
  m3 : Nat
  q1 : Option Addr
  i1 : Nat
  j1 : Nat
  q2 : Option Addr
  i2 : Nat
  j2 : Nat
  q3 : Option Addr
  j3 : Nat
  f : List Nat
def Row.vx (r : Row) : Value := .agg #[.int .i64 r.x.kd, .slice r.p1 r.n1 r.m1, .slice r.p2 r.n2 r.m2, .slice r.p3 r.x.su.length r.m3]
def Row.vy (r : Row) : Value := .agg #[.int .i64 r.y.kd, .slice r.q1 r.i1 r.j1, .slice r.q2 r.i2 r.j2, .slice r.q3 r.y.su.length r.j3]
def Row.cells (r : Row) : List Value := [.int .i64 r.x.kd, .slice r.p1 r.n1 r.m1, .slice r.p2 r.n2 r.m2, .slice r.p3 r.x.su.length r.m3, .int .i64 r.y.kd, .slice r.q1 r.i1 r.j1, .slice r.q2 r.i2 r.j2, .slice r.q3 r.y.su.length r.j3]
def RowOk (w : World) (r : Row) : Prop := OwnSh w 0 r.x r.vx r.f ∧ IsSh w r.y r.vy
/-- How many shapes stand on the left of the pile. -/
def rowsN (l : List Row) : Nat := (l.map fun r => r.x.nodes).sum

theorem nodes_pos (t : Sh) : 1 ≤ t.nodes := by cases t; simp only [Sh.nodes]; omega
theorem rowsN_ge : ∀ (l : List Row), l.length ≤ rowsN l
  | [] => Nat.zero_le _
  | a :: l => by
    have := rowsN_ge l
    have := nodes_pos a.x
    simp only [rowsN, List.map_cons, List.sum_cons, List.length_cons] at *
    omega
/-- Two new blocks. -/
def Two (w w' : World) (g7 g8 : Nat) (o7 o8 : Obj) : Prop :=
  g7 ≠ g8 ∧ w.heap.size ≤ g7 ∧ w.heap.size ≤ g8 ∧ w'.heap[g7]? = some o7 ∧ w'.heap[g8]? = some o8 ∧ Below w.heap.size w w'
theorem two_meet1 (w : World) (o7 o8 : Obj) : Two w ((w.alloc o7).alloc o8).drew w.heap.size (w.heap.size + 1) o7 o8 := by
  obtain ⟨h1, h2⟩ := two_new w o7 o8
  exact ⟨by omega, Nat.le_refl _, by omega, h1, h2, ((below_alloc w o7).alloc (by simp) o8).drew⟩
theorem two_meet2 (w : World) (o7 o8 : Obj) : Two w ((w.alloc o8).alloc o7).drew (w.heap.size + 1) w.heap.size o7 o8 := by
  obtain ⟨h1, h2⟩ := two_new w o8 o7
  exact ⟨by omega, by omega, Nat.le_refl _, h2, h1, ((below_alloc w o8).alloc (by simp) o7).drew⟩
theorem rows_len : ∀ (l : List Row), (l.flatMap (·.cells)).length = l.length * 8
  | [] => rfl
  | a :: l => by
    rw [List.flatMap_cons, List.length_append, rows_len l]
    simp only [Row.cells, List.length_cons, List.length_nil]; omega
/-- The cells of the pile's top. -/
theorem pile_top {w : World} {B g : Nat} {cap : Nat} {init : List Row} {r : Row} (h : w.ownsRow B 99 8 (.slice (some ⟨g, 0, none⟩) (init.length + 1) cap) (init.length + 1) ((init ++ [r]).flatMap (·.cells))) :
    ∀ j (hj : j < 8), w.cell? ⟨g, init.length * 8 + j, none⟩ = some (r.cells[j]'(by simp [Row.cells]; omega)) := by
  intro j hj
  rcases h.2 with ⟨hv, _⟩ | ⟨g', cap', cur, hv, _, hg, hn, hc, hsz, ht⟩
  · cases hv
  · simp only [Value.slice.injEq, Option.some.injEq, Addr.mk.injEq] at hv
    obtain ⟨⟨rfl, _⟩, _, rfl⟩ := hv
    have e1 : (cur.toList.take ((init.length + 1) * 8))[init.length * 8 + j]? = cur.toList[init.length * 8 + j]? := List.getElem?_take_of_lt (by omega)
    have e2 := rows_len init
    rw [ht, List.flatMap_append, List.getElem?_append_right (by omega), e2] at e1
    have e3 : init.length * 8 + j - init.length * 8 = j := by omega
    rw [e3] at e1
    have e4 : ([r].flatMap (·.cells))[j]? = some (r.cells[j]'(by simp [Row.cells]; omega)) := by
      simp only [List.flatMap_cons, List.flatMap_nil, List.append_nil]
      exact List.getElem?_eq_getElem _
    rw [e4] at e1
    simp [World.cell?, hg, ← Array.getElem?_toList, ← e1]


/-- The children of two shapes, as rows. -/
theorem children_of {w : World} {b : Nat} : ∀ (l m : List Sh) (cs : List Value) (F : List Nat) (o : Nat), OwnAll w 0 l cs F → ShAt w b o m → l.length = m.length →
    ∃ ch : List Row, ch.length = l.length ∧ (∀ c ∈ ch, RowOk w c) ∧ (ch.all fun c => shEq c.x c.y) = shsEq l m ∧ rowsN ch = Sh.nodess l ∧ ch.flatMap (·.f) = F ∧
      ∀ i (h : i < ch.length), cs[i * 4]? = some (.int .i64 ch[i].x.kd) ∧ cs[i * 4 + 1]? = some (.slice ch[i].p1 ch[i].n1 ch[i].m1) ∧ cs[i * 4 + 2]? = some (.slice ch[i].p2 ch[i].n2 ch[i].m2) ∧ cs[i * 4 + 3]? = some (.slice ch[i].p3 ch[i].x.su.length ch[i].m3) ∧
        w.cell? ⟨b, o + i * 4, none⟩ = some (.int .i64 ch[i].y.kd) ∧ w.cell? ⟨b, o + i * 4 + 1, none⟩ = some (.slice ch[i].q1 ch[i].i1 ch[i].j1) ∧ w.cell? ⟨b, o + i * 4 + 2, none⟩ = some (.slice ch[i].q2 ch[i].i2 ch[i].j2) ∧ w.cell? ⟨b, o + i * 4 + 3, none⟩ = some (.slice ch[i].q3 ch[i].y.su.length ch[i].j3)
  | [], [], cs, F, o, h, _, _ => by
    simp only [OwnAll] at h
    obtain ⟨rfl, rfl⟩ := h
    exact ⟨[], rfl, by simp, by simp [shsEq], rfl, rfl, fun i h => by cases h⟩
  | [], y :: m, _, _, _, _, _, hl => by cases hl
  | x :: l, [], _, _, _, _, _, hl => by cases hl
  | x :: l, y :: m, cs, F, o, h, hm, hl => by
    simp only [OwnAll] at h
    simp only [ShAt] at hm
    obtain ⟨c0, c1, c2, c3, cs', F1, F2, rfl, h1, h2, rfl⟩ := h
    obtain ⟨⟨e0, e1, e2, e3, g0, g1, g2, g3, g4⟩, hm⟩ := hm
    obtain ⟨ch, hlen, hok, heq, hn, hf, hcell⟩ := children_of l m cs' F2 (o + 4) h2 hm (by simpa using hl)
    cases x with | mk k sy na su =>
    cases y with | mk k' sy' na' su' =>
    obtain ⟨p1, m1, p2, m2, p3, m3, hv, _⟩ := (OwnSh.is _ _ _ h1).open
    obtain ⟨q1, j1, q2, j2, q3, j3, hu, _⟩ := g4.open
    simp only [Value.agg.injEq, Array.mk.injEq, List.cons.injEq, and_true] at hv hu
    obtain ⟨rfl, rfl, rfl, rfl⟩ := hv
    obtain ⟨rfl, rfl, rfl, rfl⟩ := hu
    refine ⟨⟨.mk k sy na su, .mk k' sy' na' su', p1, sy.length, m1, p2, na.length, m2, p3, m3, q1, sy'.length, j1, q2, na'.length, j2, q3, j3, F1⟩ :: ch, by simp [hlen], ?_, by simp [shsEq, heq], ?_, by simp [hf], ?_⟩
    · intro c hc
      rcases List.mem_cons.1 hc with rfl | hc
      · exact ⟨h1, g4⟩
      · exact hok c hc
    · simp only [rowsN, List.map_cons, List.sum_cons, Sh.nodess] at hn ⊢
      rw [hn]
    · intro i hi
      cases i with
      | zero => exact ⟨rfl, rfl, rfl, rfl, by simpa [Sh.kd] using g0, by simpa using g1, by simpa using g2, by simpa [Sh.su] using g3⟩
      | succ i =>
        have hc := hcell i (by simpa using hi)
        have e4 : (i + 1) * 4 = i * 4 + 4 := by omega
        have e5 : o + (i * 4 + 4) = o + 4 + i * 4 := by omega
        simpa [e4, e5] using hc

/-- What the row of a record, or a list, gives: its children, and the block that they stand in. -/
theorem Row.kids {w : World} {r : Row} (h : RowOk w r) (hl : r.x.su.length = r.y.su.length) (h0 : ¬ r.x.su.length = 0) :
    ∃ (gx by' oy : Nat) (ch : List Row), r.p3 = some ⟨gx, 0, none⟩ ∧ r.q3 = some ⟨by', oy, none⟩ ∧ PlainB w gx ∧ ch.length = r.x.su.length ∧ (∀ c ∈ ch, RowOk w c) ∧ (ch.all fun c => shEq c.x c.y) = shsEq r.x.su r.y.su ∧ r.x.nodes = 1 + rowsN ch ∧
      List.Sublist (gx :: ch.flatMap (·.f)) r.f ∧
      ∀ i (h : i < ch.length), w.cell? ⟨gx, i * 4, none⟩ = some (.int .i64 ch[i].x.kd) ∧ w.cell? ⟨gx, i * 4 + 1, none⟩ = some (.slice ch[i].p1 ch[i].n1 ch[i].m1) ∧ w.cell? ⟨gx, i * 4 + 2, none⟩ = some (.slice ch[i].p2 ch[i].n2 ch[i].m2) ∧ w.cell? ⟨gx, i * 4 + 3, none⟩ = some (.slice ch[i].p3 ch[i].x.su.length ch[i].m3) ∧
        w.cell? ⟨by', oy + i * 4, none⟩ = some (.int .i64 ch[i].y.kd) ∧ w.cell? ⟨by', oy + i * 4 + 1, none⟩ = some (.slice ch[i].q1 ch[i].i1 ch[i].j1) ∧ w.cell? ⟨by', oy + i * 4 + 2, none⟩ = some (.slice ch[i].q2 ch[i].i2 ch[i].j2) ∧ w.cell? ⟨by', oy + i * 4 + 3, none⟩ = some (.slice ch[i].q3 ch[i].y.su.length ch[i].j3) := by
  obtain ⟨h1, h2⟩ := h
  unfold Row.vx at h1
  unfold Row.vy at h2
  obtain ⟨x, y, p1, n1, m1, p2, n2, m2, p3, m3, q1, i1, j1, q2, i2, j2, q3, j3, f⟩ := r
  cases x with | mk k sy na su =>
  cases y with | mk k' sy' na' su' =>
  simp only [Sh.su, Sh.kd] at *
  obtain ⟨vs, vn, vp, cs, Fs, hv, _, _, _, h4, h5, hF⟩ := h1.parts
  simp only [Value.agg.injEq, Array.mk.injEq, List.cons.injEq, and_true] at hv
  obtain ⟨_, _, _, rfl⟩ := hv
  rcases h4.2 with ⟨hv, h0'⟩ | ⟨gx, cap, cur, hv, _, hg, hn, _, hsz, ht⟩
  · exact absurd h0' h0
  · simp only [Value.slice.injEq] at hv
    obtain ⟨rfl, _, rfl⟩ := hv
    obtain ⟨vs', vn', vp', hu, _, _, _, a, cap', hvp, _, _, h6⟩ := h2.parts
    simp only [Value.agg.injEq, Array.mk.injEq, List.cons.injEq, and_true] at hu
    obtain ⟨_, _, _, rfl⟩ := hu
    simp only [Value.slice.injEq] at hvp
    obtain ⟨rfl, _, rfl⟩ := hvp
    rcases h6 with h6 | ⟨by', oy, rfl, h6⟩
    · rw [h6] at hl; exact absurd hl h0
    · obtain ⟨ch, hlen, hok, heq, hrn, hf, hcell⟩ := children_of su su' cs Fs oy h5 h6 hl
      refine ⟨gx, by', oy, ch, rfl, rfl, ⟨_, _, hg⟩, hlen, hok, heq, by rw [hrn]; simp only [Sh.nodes], ?_, fun i hi => ?_⟩
      · rw [hf, hF]
        refine List.Sublist.trans ?_ (List.sublist_append_right _ _)
        exact List.Sublist.trans (by simp [blkOf]) (List.sublist_append_right _ _)
      · obtain ⟨k0, k1, k2, k3, k4, k5, k6, k7⟩ := hcell i hi
        have key : ∀ j c, cs[j]? = some c → w.cell? ⟨gx, j, none⟩ = some c := fun j c hj => by
          have hlt : j < cs.length := (List.getElem?_eq_some_iff.1 hj).1
          have hcl := h4.1
          have e : (cur.toList.take (su.length * 4))[j]? = cur.toList[j]? := List.getElem?_take_of_lt (by omega)
          rw [ht, hj] at e
          simp [World.cell?, hg, ← Array.getElem?_toList, ← e]
        exact ⟨key _ _ k0, key _ _ k1, key _ _ k2, key _ _ k3, k4, k5, k6, k7⟩
end Go.Proofs.YtfdhmkmeffgkgaaDoor
namespace Go.Proofs.YtfdhmkmeffgkgaaDoor
open Go.RowKit

/-- A new block. -/
def New9 (w w' : World) (g : Nat) (o : Obj) : Prop := w.heap.size ≤ g ∧ w'.heap[g]? = some o ∧ Below w.heap.size w w'
theorem new9 (w : World) (o : Obj) : New9 w (w.alloc o).drew w.heap.size o := ⟨Nat.le_refl _, Go.Deep.blk_alloc_new w o, (below_alloc w o).drew⟩
theorem blk3 {w : World} {b : Nat} {T : TypeId} {c0 c1 c2 : Value} (h : w.heap[b]? = some (.cells #[c0, c1, c2] T (0, 0))) :
    w.cell? ⟨b, 0, none⟩ = some c0 ∧ w.cell? ⟨b, 1, none⟩ = some c1 ∧ w.cell? ⟨b, 2, none⟩ = some c2 := by
  refine ⟨?_, ?_, ?_⟩ <;> simp [World.cell?, h]
theorem PlainB.below {w w' : World} {g : Nat} (h : PlainB w g) (hb : Below w.heap.size w w') : PlainB w' g := by
  obtain ⟨c, t, h⟩ := h
  exact ⟨c, t, blk_below h hb (Array.getElem?_eq_some_iff.1 h).1⟩
theorem KeysIn.below {w w' : World} {es : List MapEntry} {M : List Nat} (h : KeysIn w es M) (hb : Below w.heap.size w w') : KeysIn w' es M := fun e he => by
  obtain ⟨g, b, n, h1, h2, h3⟩ := h e he
  exact ⟨g, b, n, h1, h2, h3.below hb⟩
/-- What holds at each round's head, of all but the pile's slice. -/
def SameInv (t u : Sh) (w wr : World) (rows : List Row) (M : List Nat) : Prop :=
  (∀ r ∈ rows, RowOk w r) ∧ (rows.flatMap (·.f) ++ M).Nodup ∧ (shEq t u = rows.all fun r => shEq r.x r.y) ∧
  (∃ es clock, wr.heap[w.heap.size + 1 + 1 + 1]? = some (.map es clock) ∧ KeysIn w es.toList M) ∧ Below w.heap.size w wr ∧ rowsN rows ≤ 1048577

theorem own_slice {w : World} {B T sz n : Nat} {v : Value} {xs : List Value} (h : w.ownsRow B T sz v n xs) : ∃ p cap, v = .slice p n cap := by
  rcases h.2 with ⟨rfl, rfl⟩ | ⟨g, cap, cur, rfl, _⟩
  · exact ⟨none, 0, rfl⟩
  · exact ⟨_, _, rfl⟩
/-- A row without its last element. -/
theorem own_pop {w : World} {B T sz n cap g : Nat} {xs ys : List Value} (h : w.ownsRow B T sz (.slice (some ⟨g, 0, none⟩) (n + 1) cap) (n + 1) (xs ++ ys)) (hx : xs.length = n * sz) : w.ownsRow B T sz (.slice (some ⟨g, 0, none⟩) n cap) n xs := by
  refine ⟨hx, ?_⟩
  rcases h.2 with ⟨hv, _⟩ | ⟨g', cap', cur, hv, hb, hg, hn, hc, hsz, ht⟩
  · cases hv
  · simp only [Value.slice.injEq, Option.some.injEq, Addr.mk.injEq] at hv
    obtain ⟨⟨rfl, _⟩, _, rfl⟩ := hv
    refine .inr ⟨_, _, cur, rfl, hb, hg, by omega, hc, hsz, ?_⟩
    have := congrArg (List.take (n * sz)) ht
    rw [List.take_take, List.take_append_of_le_length (by omega), List.take_of_length_le (l := xs) (by omega), Nat.min_eq_left (Nat.mul_le_mul_right _ (by omega))] at this
    exact this
theorem own_cap {w : World} {B T sz n cap g : Nat} {xs : List Value} (h : w.ownsRow B T sz (.slice (some ⟨g, 0, none⟩) n cap) n xs) : n ≤ cap ∧ B ≤ g ∧ ∃ cur, w.heap[g]? = some (.cells cur T (0, 0)) := by
  rcases h.2 with ⟨hv, _⟩ | ⟨g', cap', cur, hv, hb, hg, hn, _⟩
  · cases hv
  · simp only [Value.slice.injEq, Option.some.injEq, Addr.mk.injEq] at hv
    obtain ⟨⟨rfl, _⟩, _, rfl⟩ := hv
    exact ⟨hn, hb, cur, hg⟩
theorem own_below {w w' : World} {B T sz n : Nat} {v : Value} {xs : List Value} (h : w.ownsRow B T sz v n xs) (hb : Below w.heap.size w w') : w'.ownsRow B T sz v n xs :=
  own_block h fun g hg => hb.block g (blkOf_own h g hg).2
theorem info_pair : (Tryd.prog.info? 99).map (fun i => (i.zero, i.size, i.bytes)) = some (some (.agg #[.int .i64 0, .slice none 0 0, .slice none 0 0, .slice none 0 0, .int .i64 0, .slice none 0 0, .slice none 0 0, .slice none 0 0]), 8, 160) := by kernel_rfl

/-- append(pile, row), the row in a new block. -/
theorem step_row {ops : Array Oper} {o : Oper} {a : Act} {K : Act → World → Prop} {Q : Exit → Act → World → Prop} {E : Prop} (W : World) (hgd : o.guard = none) (s x : Operand)
    (ho : o.op = .call { callee := .builtin .append, args := #[s, x], argTypes := #[100, 100] })
    (B : Nat) (p : Option Addr) (n cap : Nat) (xs : List Value) (c : Row) (hs : a.eval s = .slice p n cap) (hown : W.ownsRow B 99 8 (.slice p n cap) n xs) (hx : a.eval x = .slice (some ⟨W.heap.size, 0, none⟩) 1 1)
    (hn : n ≤ 4000000) (hB : B ≤ W.heap.size)
    (h : ∀ p' cap' w', w'.ownsRow B 99 8 (.slice p' (n + 1) cap') (n + 1) (xs ++ c.cells) → (∀ w0, Below B w0 W → Below B w0 w') → (∀ (q : Nat) (ob : Obj), W.heap[q]? = some ob → (∀ cur, ob ≠ .cells cur 99 (0, 0)) → w'.heap[q]? = some ob) → K (a.put o.dst (.slice p' (n + 1) cap')) w') :
    if Region.wanted o (yielded ops a.tmps) = true then Oper.wp Tryd.prog o a (W.alloc (.cells #[.int .i64 c.x.kd, .slice c.p1 c.n1 c.m1, .slice c.p2 c.n2 c.m2, .slice c.p3 c.x.su.length c.m3, .int .i64 c.y.kd, .slice c.q1 c.i1 c.j1, .slice c.q2 c.i2 c.j2, .slice c.q3 c.y.su.length c.j3] 99)).drew K Q else E := by
  have hw : Region.wanted o (yielded ops a.tmps) = true := by simp [Region.wanted, hgd]
  rw [if_pos hw]
  obtain ⟨i0, hi, hz0, hz1, hz2⟩ := info_parts info_pair
  have hnew := Go.Deep.blk_alloc_new W (.cells #[.int .i64 c.x.kd, .slice c.p1 c.n1 c.m1, .slice c.p2 c.n2 c.m2, .slice c.p3 c.x.su.length c.m3, .int .i64 c.y.kd, .slice c.q1 c.i1 c.j1, .slice c.q2 c.i2 c.j2, .slice c.q3 c.y.su.length c.j3] 99)
  have hown' : World.ownsRow (W.alloc (.cells #[.int .i64 c.x.kd, .slice c.p1 c.n1 c.m1, .slice c.p2 c.n2 c.m2, .slice c.p3 c.x.su.length c.m3, .int .i64 c.y.kd, .slice c.q1 c.i1 c.j1, .slice c.q2 c.i2 c.j2, .slice c.q3 c.y.su.length c.j3] 99)).drew B 99 8 (.slice p n cap) n xs := own_below hown ((below_alloc _ _).drew)
  refine wp_append_own _ s x _ ho B 99 i0 _ 8 160 Tryd.underlying100 hi hz0 hz1 hz2 rfl (by decide) _ n xs hs hown' ⟨W.heap.size, 0, none⟩ 1 1 c.cells hx rfl ?_ ?_ (by unfold maxLen; omega) (by omega) (by show B ≤ (W.alloc _).heap.size; simp; omega) ?_
  · intro j u hj
    rw [plain_add, Nat.zero_add]
    have : (W.alloc (.cells #[.int .i64 c.x.kd, .slice c.p1 c.n1 c.m1, .slice c.p2 c.n2 c.m2, .slice c.p3 c.x.su.length c.m3, .int .i64 c.y.kd, .slice c.q1 c.i1 c.j1, .slice c.q2 c.i2 c.j2, .slice c.q3 c.y.su.length c.j3] 99)).drew.cell? ⟨W.heap.size, j, none⟩ = c.cells[j]? := by
      show (W.alloc _).cell? _ = _
      simp only [World.cell?, hnew, Row.cells]
      simp
    rw [this, hj]
  · intro u hu
    simp only [Row.cells, List.mem_cons, List.not_mem_nil, or_false] at hu
    rcases hu with rfl | rfl | rfl | rfl | rfl | rfl | rfl | rfl <;> rfl
  · intro v' w' hv hg _
    obtain ⟨p', cap', rfl⟩ := own_slice hv
    have hrow : ∀ k, (Value.slice p n cap).ownBlock = some k → B ≤ k ∧ ∃ cur, W.heap[k]? = some (.cells cur 99 (0, 0)) := fun k hk => by
      rcases hown.2 with ⟨hv, _⟩ | ⟨g, cap'', cur, hv, hb, hgg, _⟩
      · rw [hv] at hk; cases hk
      · rw [hv] at hk
        simp [Value.ownBlock] at hk
        subst hk
        exact ⟨hb, cur, hgg⟩
    refine h p' cap' w' hv (fun w0 h0 => ?_) fun q ob hq hne => ?_
    · exact ((h0.alloc hB _).drew).grown hg (by show B ≤ (W.alloc _).heap.size; simp; omega) fun k hk => (hrow k hk).1
    · have hlt := (Array.getElem?_eq_some_iff.1 hq).1
      rw [hg.block q (by show q < (W.alloc _).heap.size; simp; omega) (fun e => by
        obtain ⟨cur, hc⟩ := (hrow q e.symm).2
        rw [hq] at hc
        exact hne cur (Option.some.inj hc))]
      show (W.alloc _).heap[q]? = _
      rw [Below.heap_alloc _ _ _ hlt]; exact hq

theorem nodup_kids {init r : List Nat} {gx : Nat} {F M : List Nat} (h : (init ++ r ++ M).Nodup) (hs : List.Sublist (gx :: F) r) : (init ++ F ++ (gx :: M)).Nodup ∧ gx ∉ M := by
  have h1 : ((init ++ (gx :: F)) ++ M).Nodup := h.sublist ((List.Sublist.append (List.Sublist.append (List.Sublist.refl _) hs) (List.Sublist.refl _)))
  have hp : (init ++ F ++ (gx :: M)).Perm ((init ++ (gx :: F)) ++ M) := by
    rw [List.append_assoc, List.append_assoc]
    refine List.Perm.append_left _ ?_
    rw [List.cons_append]
    exact List.perm_middle
  refine ⟨hp.nodup_iff.2 h1, fun hm => ?_⟩
  rw [List.nodup_append] at h1
  exact h1.2.2 gx (by simp) gx hm rfl

theorem same_skip {t u : Sh} {w wr w2 : World} {init : List Row} {r : Row} {M : List Nat} (h : SameInv t u w wr (init ++ [r]) M) (hf : fieldsEq r.x r.y = true) (hz : r.x.su.length = 0) (hb : Below wr.heap.size wr w2) : SameInv t u w w2 init M := by
  obtain ⟨h1, h2, h3, ⟨es, clock, h4, h5⟩, h6, h7⟩ := h
  have hr : shEq r.x r.y = true := by
    rw [shEq_is, hf]
    rw [show r.x.su = [] from List.eq_nil_of_length_eq_zero hz]
    simp [shsEq]
  refine ⟨fun c hc => h1 c (by simp [hc]), ?_, ?_, ⟨es, clock, blk_below h4 hb (Array.getElem?_eq_some_iff.1 h4).1, h5⟩, h6.trans (hb.mono h6.size), ?_⟩
  · refine h2.sublist ?_
    rw [List.flatMap_append]
    exact List.Sublist.append (List.sublist_append_left _ _) (List.Sublist.refl _)
  · rw [h3, List.all_append]; simp [hr]
  · have := h7
    simp only [rowsN, List.map_append, List.sum_append] at this ⊢
    omega

theorem four_below (w : World) (o1 o2 o3 o4 : Obj) : Below w.heap.size w ((((w.alloc o1).alloc o2).alloc o3).alloc o4) :=
  (((below_alloc w o1).alloc (by simp) o2).alloc (by simp; omega) o3).alloc (by simp; omega) o4
theorem four_map (w : World) (o1 o2 o3 : Obj) : ((((w.alloc o1).alloc o2).alloc o3).alloc (.map #[] 0)).heap[w.heap.size + 1 + 1 + 1]? = some (.map #[] 0) := by
  have := Go.Deep.blk_alloc_new (((w.alloc o1).alloc o2).alloc o3) (.map #[] 0)
  simpa using this
theorem own_first (w : World) (o1 o2 : Obj) (r : Row) :
    ((((w.alloc o1).alloc o2).alloc (.cells #[.int .i64 r.x.kd, .slice r.p1 r.n1 r.m1, .slice r.p2 r.n2 r.m2, .slice r.p3 r.x.su.length r.m3, .int .i64 r.y.kd, .slice r.q1 r.i1 r.j1, .slice r.q2 r.i2 r.j2, .slice r.q3 r.y.su.length r.j3] 99)).alloc (.map #[] 0)).ownsRow w.heap.size 99 8 (.slice (some ⟨w.heap.size + 1 + 1, 0, none⟩) 1 1) 1 ([r].flatMap (·.cells)) := by
  refine ⟨rfl, .inr ⟨w.heap.size + 1 + 1, 1, #[.int .i64 r.x.kd, .slice r.p1 r.n1 r.m1, .slice r.p2 r.n2 r.m2, .slice r.p3 r.x.su.length r.m3, .int .i64 r.y.kd, .slice r.q1 r.i1 r.j1, .slice r.q2 r.i2 r.j2, .slice r.q3 r.y.su.length r.j3], rfl, by omega, ?_, Nat.le_refl _, by decide, rfl, rfl⟩⟩
  rw [Below.heap_alloc _ _ _ (by simp)]
  exact (three_new w o1 o2 _).2.2
theorem KeysIn.push {w : World} {es : Array MapEntry} {M : List Nat} {gx n clock : Nat} {b : Addr} {v : Value} (h : KeysIn w es.toList M) (hp : PlainB w gx) : KeysIn w (es.push { key := keyV ⟨gx, 0, none⟩ b n, val := v, born := clock }).toList (gx :: M) := by
  intro e he
  rw [Array.toList_push, List.mem_append] at he
  rcases he with he | he
  · obtain ⟨g, b', n', h1, h2, h3⟩ := h e he
    exact ⟨g, b', n', h1, by simp [h2], h3⟩
  · simp at he
    subst he
    exact ⟨gx, b, n, rfl, by simp, hp⟩
theorem same_push {t u : Sh} {w wr wq : World} {init ch : List Row} {r : Row} {M : List Nat} {gx : Nat} (h : SameInv t u w wr (init ++ [r]) M) (hf : fieldsEq r.x r.y = true) (hck : ∀ c ∈ ch, RowOk w c) (hce : (ch.all fun c => shEq c.x c.y) = shsEq r.x.su r.y.su) (hcn : r.x.nodes = 1 + rowsN ch)
    (hnd : (init.flatMap (·.f) ++ ch.flatMap (·.f) ++ (gx :: M)).Nodup) (hm : ∃ es clock, wq.heap[w.heap.size + 1 + 1 + 1]? = some (.map es clock) ∧ KeysIn w es.toList (gx :: M)) (hb : Below w.heap.size w wq) : SameInv t u w wq (init ++ ch) (gx :: M) := by
  obtain ⟨h1, h2, h3, _, h6, h7⟩ := h
  refine ⟨fun c hc => ?_, ?_, ?_, hm, hb, ?_⟩
  · rcases List.mem_append.1 hc with hc | hc
    · exact h1 c (by simp [hc])
    · exact hck c hc
  · rw [List.flatMap_append]; exact hnd
  · rw [h3, List.all_append, List.all_append]
    simp [hce, shEq_is r.x r.y, hf]
  · simp only [rowsN, List.map_append, List.sum_append, List.map_cons, List.sum_cons, List.map_nil, List.sum_nil] at *
    omega

theorem parts_any (c0 : Value) (p1 p2 p3 : Option Addr) (n1 n2 n3 m1 m2 m3 : Nat) (w : World) :
    Calls Tryd.prog 83 #[.agg #[c0, .slice p1 n1 m1, .slice p2 n2 m2, .slice p3 n3 m3]] w fun e w' => e = .returned (.slice p3 n3 m3) ∧ Below w.heap.size w w' := by
  go_enter Tryd.func83, Tryd.ntmps83
  go_wp2_with fail
  go_ret
  exact ⟨rfl, below_alloc _ _⟩

set_option maxRecDepth 100000 in
set_option maxHeartbeats 2000000 in
theorem thru_any (r0 : Row) (w : World) (hr : RowOk w r0) (hF : r0.f.Nodup) (hn : r0.x.nodes ≤ 1048577) :
    Calls Tryd.prog 81 #[r0.vx, r0.vy, .func (.func 82) #[] #[], .func (.func 83) #[] #[]] w fun e w' => e = .returned (.bool (shEq r0.x r0.y)) ∧ Below w.heap.size w w' := by
  have HR := Lib.hid hr
  have HF := Lib.hid hF
  unfold Row.vx Row.vy
  have hmm := @run_makeMap Tryd.prog
  clear hr hF
  go_enter Tryd.func81, Tryd.ntmps81
  go_wp2_with fail
  go_loopg [9] r0.x.nodes (fun k v wr => ∃ (rows : List Row) (M : List Nat) (p : Option Addr) (cap : Nat), v = .slice p rows.length cap ∧ Hid (SameInv r0.x r0.y w wr rows M) ∧ Hid (wr.ownsRow w.heap.size 99 8 (.slice p rows.length cap) rows.length (rows.flatMap (·.cells))) ∧ Hid (rowsN rows = k))
  case atStart =>
    refine ⟨[r0], [], some ⟨w.heap.size + 1 + 1, 0, none⟩, 1, rfl, ?_, ?_, by show _ = _; simp [rowsN]⟩
    · refine ⟨fun c hc => ?_, ?_, ?_, ⟨#[], 0, ?_, fun e he => by cases he⟩, ?_, ?_⟩
      · simp at hc; subst hc; exact HR.out
      · simpa using HF.out
      · simp
      · exact four_map w _ _ _
      · exact four_below w _ _ _ _
      · simpa [rowsN] using hn
    · exact own_first w _ _ r0
  case round =>
    obtain ⟨rows, M, p, cap, rfl, HI, HO, HN⟩ := hrel
    rcases List.eq_nil_or_concat rows with rfl | ⟨init, r, rfl⟩
    · have HE : Hid (shEq r0.x r0.y = true) := HI.out.2.2.1
      go_wp2_with fail
      go_ret
      exact ⟨ret_bool HE.out.symm, HI.out.2.2.2.2.1⟩
    · rw [List.concat_eq_append] at *
      have hl : (init ++ [r]).length = init.length + 1 := by simp
      rw [hl] at HO ⊢
      have HO' := HO.out
      obtain ⟨g, hg⟩ : ∃ g, p = some ⟨g, 0, none⟩ := by
        rcases HO'.2 with ⟨_, h0⟩ | ⟨g, cap', cur, hv, _⟩
        · omega
        · simp only [Value.slice.injEq] at hv
          exact ⟨g, hv.1⟩
      subst hg
      have k0 := pile_top HO' 0 (by omega)
      have k1 := pile_top HO' 1 (by omega)
      have k2 := pile_top HO' 2 (by omega)
      have k3 := pile_top HO' 3 (by omega)
      have k4 := pile_top HO' 4 (by omega)
      have k5 := pile_top HO' 5 (by omega)
      have k6 := pile_top HO' 6 (by omega)
      have k7 := pile_top HO' 7 (by omega)
      simp only [Row.cells, List.getElem_cons_zero, List.getElem_cons_succ, Nat.add_zero] at k0 k1 k2 k3 k4 k5 k6 k7
      have k5' : wr.cell? ⟨g, init.length * 8 + 4 + 1, none⟩ = some (.slice r.q1 r.i1 r.j1) := k5
      have k6' : wr.cell? ⟨g, init.length * 8 + 4 + 2, none⟩ = some (.slice r.q2 r.i2 r.j2) := k6
      have k7' : wr.cell? ⟨g, init.length * 8 + 4 + 3, none⟩ = some (.slice r.q3 r.y.su.length r.j3) := k7
      have hcap := (own_cap HO').1
      have hgl2 := (own_cap HO').2.1
      have HP := Lib.hid (own_pop (xs := init.flatMap (·.cells)) (ys := [r].flatMap (·.cells)) (by rw [← List.flatMap_append]; exact HO') (rows_len init))
      obtain ⟨n, hn1⟩ : ∃ n, n = init.length := ⟨_, rfl⟩
      rw [← hn1] at k0 k1 k2 k3 k4 k5 k6 k7 k5' k6' k7' hcap ⊢
      have HN1 := Lib.hid hn1
      have hnb : n + 1 ≤ 1048577 := by
        have h1 := HI.out.2.2.2.2.2
        have h2 := rowsN_ge (init ++ [r])
        rw [hl, ← hn1] at h2
        omega
      have hcn : n ≤ cap := by omega
      have hgl : g < wr.heap.size := World.block_lt_of_cell? wr ⟨g, n * 8, none⟩ k0
      have w1 : IntKind.i64.wrap (n : Int) = n := IntWalk.i64_in _ (by omega)
      have w2 : 0 ≤ (n : Int) := by omega
      have w3 : (n : Int) < (n : Int) + 1 := by omega
      have w4 : (n : Int).toNat = n := by omega
      have HRr := Lib.hid (HI.out.1 r (by simp))
      have HBr := Lib.hid HI.out.2.2.2.2.1
      clear HO' hl hn1 k5 k6 k7 hcap
      go_wp2_with fail
      go_upto_region 5 with fail
      go_cut [11, 12] (fun a b wc => ∃ g7 g8 : Nat, a = .pointer (some ⟨g7, 0, none⟩) ∧ b = .pointer (some ⟨g8, 0, none⟩) ∧ Hid (Two wr wc g7 g8 (.cells #[.int .i64 r.x.kd, .slice r.p1 r.n1 r.m1, .slice r.p2 r.n2 r.m2, .slice r.p3 r.x.su.length r.m3] 31) (.cells #[.int .i64 r.y.kd, .slice r.q1 r.i1 r.j1, .slice r.q2 r.i2 r.j2, .slice r.q3 r.y.su.length r.j3] 31)))
      case first =>
        go_region
        all_goals
          go_wp2_with fail
          go_meet
          first
            | exact ⟨_, _, rfl, rfl, two_meet1 _ _ _⟩
            | exact ⟨_, _, rfl, rfl, two_meet2 _ _ _⟩
      case rest =>
        obtain ⟨g7, g8, rfl, rfl, HT⟩ := hcut
        have B1 := Lib.hid (HBr.out.trans (HT.out.2.2.2.2.2.mono HBr.out.size))
        have K1 := Lib.hid (Keeps.of_below B1.out)
        obtain ⟨a0, a1, a2, a3, _, _, _, _, az⟩ := blk4 HT.out.2.2.2.1
        obtain ⟨d0, d1, d2, d3, _, _, _, _, dz⟩ := blk4 HT.out.2.2.2.2.1
        clear k0 k1 k2 k3 k4 k5' k6' k7' w1 w2 w3 w4
        cases hfe : fieldsEq r.x r.y
        · have HFE := Lib.hid hfe
          clear hfe
          go_wp2_with fail
          refine (fields_any r.x r.y _ _ _ (IsSh.keep K1.out _ _ (OwnSh.is _ _ _ HRr.out.1)) (IsSh.keep K1.out _ _ HRr.out.2)).mono ?_
          rintro e w2 ⟨rfl, hb2⟩
          rw [HFE.out]
          have B2 := Lib.hid (B1.out.trans (hb2.mono B1.out.size))
          clear hb2
          go_wp2_with fail
          go_ret
          exact ⟨ret_bool (by
            have h := HI.out.2.2.1
            rw [h, List.all_append]
            simp [shEq_is, HFE.out]), B2.out⟩
        · have HFE := Lib.hid hfe
          clear hfe
          go_wp2_with fail
          refine (fields_any r.x r.y _ _ _ (IsSh.keep K1.out _ _ (OwnSh.is _ _ _ HRr.out.1)) (IsSh.keep K1.out _ _ HRr.out.2)).mono ?_
          rintro e w2 ⟨rfl, hb2⟩
          rw [HFE.out]
          have HT2 : Hid (Two wr w2 g7 g8 _ _) := ⟨HT.out.1, HT.out.2.1, HT.out.2.2.1, blk_below HT.out.2.2.2.1 hb2 az, blk_below HT.out.2.2.2.2.1 hb2 dz, HT.out.2.2.2.2.2.trans (hb2.mono HT.out.2.2.2.2.2.size)⟩
          have B2 := Lib.hid (B1.out.trans (hb2.mono B1.out.size))
          clear hb2 a0 a1 a2 a3 az d0 d1 d2 d3 dz
          obtain ⟨a0, a1, a2, a3, _, _, _, _, az⟩ := blk4 HT2.out.2.2.2.1
          obtain ⟨d0, d1, d2, d3, _, _, _, _, dz⟩ := blk4 HT2.out.2.2.2.2.1
          go_wp2_with fail
          go_upto_region 9 with fail
          go_cut [13, 14] (fun a b wd => a = .slice r.p3 r.x.su.length r.m3 ∧ b = .slice r.q3 r.y.su.length r.j3 ∧ Hid (Below w2.heap.size w2 wd))
          case first =>
            go_region_with (first
              | (go_at_call_of 83 (Value.agg #[.int .i64 r.x.kd, .slice r.p1 r.n1 r.m1, .slice r.p2 r.n2 r.m2, .slice r.p3 r.x.su.length r.m3]); refine (parts_any _ _ _ _ _ _ _ _ _ _ _).mono ?_; rintro e wa ⟨rfl, hba⟩; have DA := Lib.hid (show Below w2.heap.size w2 wa by first | exact (Below.refl _ w2).drew.trans hba | exact DC.out.trans (hba.mono DC.out.size)); obtain ⟨_, _, _, _, _, _, _, _, _⟩ := blk4 (blk_below HT2.out.2.2.2.1 DA.out az); obtain ⟨_, _, _, _, _, _, _, _, _⟩ := blk4 (blk_below HT2.out.2.2.2.2.1 DA.out dz); clear hba)
              | (go_at_call_of 83 (Value.agg #[.int .i64 r.y.kd, .slice r.q1 r.i1 r.j1, .slice r.q2 r.i2 r.j2, .slice r.q3 r.y.su.length r.j3]); refine (parts_any _ _ _ _ _ _ _ _ _ _ _).mono ?_; rintro e wb ⟨rfl, hbb⟩; have DC := Lib.hid (show Below w2.heap.size w2 wb by first | exact (Below.refl _ w2).drew.trans hbb | exact DA.out.trans (hbb.mono DA.out.size)); obtain ⟨_, _, _, _, _, _, _, _, _⟩ := blk4 (blk_below HT2.out.2.2.2.1 DC.out az); obtain ⟨_, _, _, _, _, _, _, _, _⟩ := blk4 (blk_below HT2.out.2.2.2.2.1 DC.out dz); clear hbb))
            all_goals
              go_wp2_with fail
              go_meet
              first
                | exact ⟨rfl, rfl, (show Below _ _ _ from DA.out)⟩
                | exact ⟨rfl, rfl, (show Below _ _ _ from DC.out)⟩
          case rest =>
            obtain ⟨rfl, rfl, HD⟩ := hcut
            rename World => wd
            clear a0 a1 a2 a3 az d0 d1 d2 d3 dz
            have HT3 : Hid (Below wr.heap.size wr wd) := HT2.out.2.2.2.2.2.trans (HD.out.mono HT2.out.2.2.2.2.2.size)
            have B3' := Lib.hid (B2.out.trans (HD.out.mono B2.out.size))
            by_cases hz : r.x.su.length = 0
            · have z1 := int_eq0 hz
              have HZ := Lib.hid hz
              clear hz
              go_wp2_with fail
              go_roundg (rowsN init)
              case rel => exact ⟨init, M, _, cap, by rw [HN1.out], same_skip HI.out HFE.out HZ.out HT3.out, own_below HP.out HT3.out, rfl⟩
              case measure =>
                have := HN.out
                have := nodes_pos r.x
                simp only [rowsN, List.map_append, List.sum_append, List.map_cons, List.sum_cons, List.map_nil, List.sum_nil] at *
                omega
            · have z1 := int_ne0 hz
              have HZ := Lib.hid hz
              have hl2 : r.x.su.length = r.y.su.length := (of_decide_eq_true HFE.out).2.2.2
              obtain ⟨gx, by', oy, ch, hgx, hgy, hpl, hcl, hck, hce, hcn', hcs, hcc⟩ := Row.kids HRr.out hl2 hz
              have hlx : (0 : Int) < r.x.su.length := by omega
              have hly : (0 : Int) < r.y.su.length := by omega
              have HCL := Lib.hid hcl
              have HCK := Lib.hid hck
              have HCE := Lib.hid hce
              have HCN := Lib.hid hcn'
              have HCC := Lib.hid hcc
              have HL2 := Lib.hid hl2
              have HPL := Lib.hid hpl
              have HGX := Lib.hid hgx
              have HGY := Lib.hid hgy
              have HND := Lib.hid (nodup_kids (init := init.flatMap (·.f)) (r := r.f) (M := M) (by have := HI.out.2.1; rw [List.flatMap_append] at this; simpa using this) hcs)
              obtain ⟨es, clock, hes, hki⟩ := HI.out.2.2.2.1
              have HE2 := Lib.hid (blk_below hes HT3.out (Array.getElem?_eq_some_iff.1 hes).1)
              have HKI := Lib.hid hki
              rw [hgx, hgy]
              clear hz hl2 hcl hck hce hcn' hcs hcc hpl hgx hgy hes hki
              go_wp2_with fail
              go_upto_region 11 with fail
              go_cut [15] (fun a wc => ∃ g9 : Nat, a = .pointer (some ⟨g9, 0, none⟩) ∧ Hid (New9 wd wc g9 (.cells #[.pointer (some ⟨gx, 0, none⟩), .pointer (some ⟨by', oy, none⟩), .int .i64 r.x.su.length] 104)))
              case first =>
                go_region
                all_goals
                  go_wp2_with fail
                  go_meet
                  exact ⟨_, rfl, new9 _ _⟩
              case rest =>
                obtain ⟨g9, rfl, H9⟩ := hcut
                obtain ⟨f0, f1, f2⟩ := blk3 H9.out.2.1
                have B3 := Lib.hid (B3'.out.trans (H9.out.2.2.mono B3'.out.size))
                have HE3 := Lib.hid (blk_below HE2.out H9.out.2.2 (Array.getElem?_eq_some_iff.1 HE2.out).1)
                have hpl3 := PlainB.below HPL.out B3.out
                have hki3 := KeysIn.below HKI.out B3.out
                have hlk := lookup_no _ _ gx ⟨by', oy, none⟩ r.x.su.length es clock M HE3.out hpl3 hki3 HND.out.2
                have hup := update_no _ _ gx ⟨by', oy, none⟩ r.x.su.length (.bool true) es clock M HE3.out hpl3 hki3 HND.out.2
                have hne : ∀ q : Nat, (∃ c T, wc.heap[q]? = some (.cells c T (0, 0))) → q ≠ w.heap.size + 1 + 1 + 1 := fun q hq e => by
                  obtain ⟨c, T, hq⟩ := hq
                  rw [e, HE3.out] at hq
                  cases hq
                have P3 := own_below (own_below HP.out HT3.out) H9.out.2.2
                obtain ⟨_, _, cur3, hc3⟩ := own_cap P3
                obtain ⟨wm, hwm⟩ : ∃ wm, wm = mapPut wc (w.heap.size + 1 + 1 + 1) (.map (es.push { key := keyV ⟨gx, 0, none⟩ ⟨by', oy, none⟩ r.x.su.length, val := .bool true, born := clock }) (clock + 1)) := ⟨_, rfl⟩
                have M4 := Lib.hid (show wm.heap[w.heap.size + 1 + 1 + 1]? = some (.map (es.push { key := keyV ⟨gx, 0, none⟩ ⟨by', oy, none⟩ r.x.su.length, val := .bool true, born := clock }) (clock + 1)) by rw [hwm]; exact mapPut_same _ _ _ (Array.getElem?_eq_some_iff.1 HE3.out).1)
                have B4 := Lib.hid (show Below w.heap.size w wm by rw [hwm]; exact mapPut_below B3.out (by omega) _)
                have P4 := Lib.hid (show wm.ownsRow w.heap.size 99 8 (.slice (some ⟨g, 0, none⟩) init.length cap) init.length (init.flatMap (·.cells)) by
                  refine own_block P3 fun q hq => ?_
                  simp [blkOf] at hq
                  subst hq
                  rw [hwm, mapPut_other _ _ _ _ (hne _ ⟨_, _, hc3⟩)])
                rw [← hwm] at hup
                unfold keyV at hlk hup
                clear hpl3 hki3 hne P3 hc3 hwm
                go_wp2_with fail
                clear hlk hup f0 f1 f2
                have hlen5 : r.x.su.length ≤ 1048577 := by
                  have := HCN.out; have := HCL.out; have := rowsN_ge ch; have h7 := HI.out.2.2.2.2.2
                  simp only [rowsN, List.map_append, List.sum_append, List.map_cons, List.sum_cons, List.map_nil, List.sum_nil] at *
                  omega
                go_loopw [9, 72] (fun v i wq => ∃ (j : Nat) (p : Option Addr) (cap : Nat), j ≤ r.x.su.length ∧ i = .int .i64 j ∧ v = .slice p (n + j) cap ∧ Hid (wq.ownsRow w.heap.size 99 8 (.slice p (n + j) cap) (n + j) ((init ++ ch.take j).flatMap (·.cells))) ∧ Hid (Below w.heap.size w wq) ∧                   Hid (wq.heap[w.heap.size + 1 + 1 + 1]? = some (.map (es.push { key := keyV ⟨gx, 0, none⟩ ⟨by', oy, none⟩ r.x.su.length, val := .bool true, born := clock }) (clock + 1)))) (fun _ i _ => r.x.su.length - (intOf i).toNat)
                case atStart =>
                  refine ⟨0, _, cap, Nat.zero_le _, rfl, rfl, ?_, B4.out, M4.out⟩
                  show World.ownsRow _ _ _ _ _ _ _
                  have := P4.out
                  rw [← HN1.out] at this
                  simpa using this
                case round =>
                  obtain ⟨j, p, cap, hj, rfl, rfl, HP5, HB5, HM5⟩ := hrel
                  by_cases hlt : j < r.x.su.length
                  · have hj5 : j < ch.length := by rw [HCL.out]; exact hlt
                    have hc := HCC.out j hj5
                    have hK := Keeps.of_below HB5.out
                    have k0 := hK _ _ _ hc.1
                    have k1 := hK _ _ _ hc.2.1
                    have k2 := hK _ _ _ hc.2.2.1
                    have k3 := hK _ _ _ hc.2.2.2.1
                    have k4 := hK _ _ _ hc.2.2.2.2.1
                    have k5 := hK _ _ _ hc.2.2.2.2.2.1
                    have k6 := hK _ _ _ hc.2.2.2.2.2.2.1
                    have k7 := hK _ _ _ hc.2.2.2.2.2.2.2
                    have hly5 : j < r.y.su.length := by have := HL2.out; omega
                    clear hc hK
                    go_wp2_with fail
                    go_region_law (refine step_row wr rfl _ _ rfl w.heap.size p (n + j) cap _ ch[j] rfl HP5.out rfl (by omega) HB5.out.size ?_; intro p' cap' w5 hp5 hb5 hk5)
                    all_goals
                      have HP6 := Lib.hid (show w5.ownsRow w.heap.size 99 8 (.slice p' (n + (j + 1)) cap') (n + (j + 1)) ((init ++ ch.take (j + 1)).flatMap (·.cells)) by
                        rw [List.take_succ_eq_append_getElem (by rw [HCL.out]; exact hlt), ← List.append_assoc, List.flatMap_append]
                        simpa [Nat.add_assoc] using hp5)
                      have HB6 := Lib.hid (hb5 _ HB5.out)
                      have HM6 := Lib.hid (hk5 _ _ HM5.out (fun cur h => by cases h))
                      clear hp5 hb5 hk5 k0 k1 k2 k3 k4 k5 k6 k7
                      go_wp2_with fail
                      go_roundw
                      case rel => exact ⟨j + 1, p', cap', hlt, by go_num, rfl, HP6.out, HB6.out, HM6.out⟩
                      case measure => simp [intOf]; omega
                  · obtain rfl : j = r.x.su.length := by omega
                    go_wp2_with fail
                    go_roundg (rowsN (init ++ ch))
                    case rel =>
                      have hp6 := HP5.out
                      have e6 : n + r.x.su.length = (init ++ ch).length := by rw [List.length_append, HCL.out, ← HN1.out]
                      rw [List.take_of_length_le (by rw [HCL.out]; exact Nat.le_refl _), e6] at hp6
                      exact ⟨init ++ ch, gx :: M, p, cap, by rw [e6], same_push HI.out HFE.out HCK.out HCE.out HCN.out HND.out.1 ⟨_, _, HM5.out, KeysIn.push HKI.out HPL.out⟩ HB5.out, hp6, rfl⟩
                    case measure =>
                      have h8 := HN.out
                      have h9 := HCN.out
                      simp only [rowsN, List.map_append, List.sum_append, List.map_cons, List.sum_cons, List.map_nil, List.sum_nil] at *
                      omega

theorem RowOk.below {w w' : World} {r : Row} (h : RowOk w r) (hb : Below w.heap.size w w') : RowOk w' r :=
  ⟨OwnSh.move (Nat.zero_le _) _ _ _ (fun g hg => hb.block g (OwnSh.blocks _ _ _ h.1 g hg).2) h.1, IsSh.keep (Keeps.of_below hb) _ _ h.2⟩

/-- impl.ShapeSame. -/
theorem implSame_is (r0 : Row) (b : Bool) (hb : shEq r0.x r0.y = b) (w : World) (hr : RowOk w r0) (hF : r0.f.Nodup) (hn : r0.x.nodes ≤ 1048577) :
    Calls Tryd.prog 78 #[r0.vx, r0.vy] w fun e w' => e = .returned (.bool b) ∧ Below w.heap.size w w' := by
  subst hb
  have HR := Lib.hid (fun o1 o2 => hr.below ((below_alloc w o1).alloc (by simp) o2))
  have HF := Lib.hid hF
  have HB := Lib.hid (fun o1 o2 => (below_alloc w o1).alloc (by simp) o2)
  have HC := Lib.hid (fun (w : World) (h : RowOk w r0) => thru_any r0 w h HF.out hn)
  unfold Row.vx Row.vy at *
  clear hr hF
  go_enter Tryd.func78, Tryd.ntmps78
  go_wp2_with fail
  refine (HC.out _ (HR.out _ _)).mono ?_
  rintro e w1 ⟨rfl, hb1⟩
  have HB1 := Lib.hid ((HB.out _ _).trans (hb1.mono (by simp; omega)))
  clear hb1
  go_wp2_with fail
  go_ret
  exact ⟨rfl, HB1.out⟩
theorem specSame_is (x y : Sh) (b : Bool) (hb : shEq x y = b) (v u : Value) (w : World) (h : IsSh w x v) (g : IsSh w y u) :
    Calls Tryd.prog 62 #[v, u] w fun e w' => e = .returned (.bool b) ∧ Below w.heap.size w w' := by
  subst hb; exact specSame_any x y v u w h g
end Go.Proofs.YtfdhmkmeffgkgaaDoor
