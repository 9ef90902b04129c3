/- Shapes in memory: a tree, and how a value leads to it. · What has a shape, in memory: a tree, and how a value leads to it. -/
import Derived.Test.YtfdhmkmeffgkgaaDoorGBase
import Derived.WalkKit
import Derived.Below
import Derived.OpenShut
namespace Go.Proofs.YtfdhmkmeffgkgaaDoor
open Go.RowKit

/-- A shape: its kind, its words, its names, and what stands in it. -/
inductive Sh where
  | mk (k : Int) (sy na : List ByteArray) (su : List Sh) : Sh

def Sh.kd : Sh → Int | .mk k _ _ _ => k
def Sh.sy : Sh → List ByteArray | .mk _ s _ _ => s
def Sh.na : Sh → List ByteArray | .mk _ _ n _ => n
def Sh.su : Sh → List Sh | .mk _ _ _ l => l

theorem Sh.ind {P : Sh → Prop} (h : ∀ k sy na su, (∀ x ∈ su, P x) → P (.mk k sy na su)) : ∀ t, P t := by
  intro t
  refine Sh.rec (motive_1 := P) (motive_2 := fun l => ∀ x ∈ l, P x) ?_ ?_ ?_ t
  · intro k sy na su ih; exact h k sy na su ih
  · intro x hx; cases hx
  · intro a l ha hl x hx
    rcases List.mem_cons.1 hx with rfl | h'
    · exact ha
    · exact hl x h'

/-- How many items and letters: what the size count of the laws takes away. -/
def strsSz (l : List ByteArray) : Nat := l.length + (l.map (·.size)).sum
mutual
def Sh.sz : Sh → Nat
  | .mk _ sy na su => strsSz sy + strsSz na + (su.length + Sh.szs su)
def Sh.szs : List Sh → Nat
  | [] => 0
  | x :: l => Sh.sz x + Sh.szs l
end

/-- Cells that hold strings. -/
def StrAt (w : World) (b off : Nat) (l : List ByteArray) : Prop := ∀ i (h : i < l.length), w.cell? ⟨b, off + i, none⟩ = some (.string l[i])
/-- A slice whose elements are the strings l. -/
def IsStrs (w : World) (v : Value) (l : List ByteArray) : Prop :=
  l.length ≤ 9223372036854775807 ∧ (∀ s ∈ l, s.size ≤ 9223372036854775807) ∧ ∃ a cap, v = .slice a l.length cap ∧ l.length ≤ cap ∧ cap ≤ 9223372036854775807 ∧ (l = [] ∨ ∃ b off, a = some ⟨b, off, none⟩ ∧ StrAt w b off l)

def InI64' (n : Int) : Prop := -9223372036854775808 ≤ n ∧ n ≤ 9223372036854775807

mutual
/-- The value v is a shape that reads as t. -/
def IsSh (w : World) : Sh → Value → Prop
  | .mk k sy na su, v => ∃ vs vn a cap, v = .agg #[.int .i64 k, vs, vn, .slice a su.length cap] ∧ InI64' k ∧ IsStrs w vs sy ∧ IsStrs w vn na ∧
      su.length ≤ cap ∧ cap ≤ 9223372036854775807 ∧ (su = [] ∨ ∃ b off, a = some ⟨b, off, none⟩ ∧ ShAt w b off su)
/-- Rows of four cells that hold the shapes l. -/
def ShAt (w : World) (b off : Nat) : List Sh → Prop
  | [] => True
  | x :: l => (∃ c0 c1 c2 c3, w.cell? ⟨b, off, none⟩ = some c0 ∧ w.cell? ⟨b, off + 1, none⟩ = some c1 ∧ w.cell? ⟨b, off + 2, none⟩ = some c2 ∧ w.cell? ⟨b, off + 3, none⟩ = some c3 ∧ IsSh w x (.agg #[c0, c1, c2, c3])) ∧ ShAt w b (off + 4) l
end

/-- A slice whose elements are the shapes l. -/
def IsShs (w : World) (v : Value) (l : List Sh) : Prop :=
  ∃ a cap, v = .slice a l.length cap ∧ l.length ≤ cap ∧ cap ≤ 9223372036854775807 ∧ (l = [] ∨ ∃ b off, a = some ⟨b, off, none⟩ ∧ ShAt w b off l)

theorem IsSh.parts {w : World} {k : Int} {sy na : List ByteArray} {su : List Sh} {v : Value} (h : IsSh w (.mk k sy na su) v) :
    ∃ vs vn vp, v = .agg #[.int .i64 k, vs, vn, vp] ∧ InI64' k ∧ IsStrs w vs sy ∧ IsStrs w vn na ∧ IsShs w vp su := by
  simp only [IsSh] at h
  obtain ⟨vs, vn, a, cap, rfl, hk, h1, h2, h3, h4, h5⟩ := h
  exact ⟨vs, vn, _, rfl, hk, h1, h2, a, cap, rfl, h3, h4, h5⟩
theorem IsSh.mk {w : World} {k : Int} {sy na : List ByteArray} {su : List Sh} {vs vn vp : Value} (hk : InI64' k) (h1 : IsStrs w vs sy) (h2 : IsStrs w vn na) (h3 : IsShs w vp su) :
    IsSh w (.mk k sy na su) (.agg #[.int .i64 k, vs, vn, vp]) := by
  simp only [IsSh]
  obtain ⟨a, cap, rfl, h3, h4, h5⟩ := h3
  exact ⟨vs, vn, a, cap, rfl, hk, h1, h2, h3, h4, h5⟩

theorem ShAt.get {w : World} {b : Nat} : ∀ {l : List Sh} {off : Nat}, ShAt w b off l → ∀ i (h : i < l.length), ∃ c0 c1 c2 c3, w.cell? ⟨b, off + i * 4, none⟩ = some c0 ∧ w.cell? ⟨b, off + i * 4 + 1, none⟩ = some c1 ∧ w.cell? ⟨b, off + i * 4 + 2, none⟩ = some c2 ∧ w.cell? ⟨b, off + i * 4 + 3, none⟩ = some c3 ∧ IsSh w l[i] (.agg #[c0, c1, c2, c3])
  | [], _, _, i, h => by cases h
  | x :: l, off, hl, 0, h => by
    simp only [ShAt] at hl
    simpa using hl.1
  | x :: l, off, hl, i + 1, h => by
    simp only [ShAt] at hl
    have := ShAt.get hl.2 i (by simpa using h)
    have e : off + 4 + i * 4 = off + (i + 1) * 4 := by omega
    rw [e] at this
    simpa using this
theorem ShAt.of_get {w : World} {b : Nat} : ∀ {l : List Sh} {off : Nat}, (∀ i (h : i < l.length), ∃ c0 c1 c2 c3, w.cell? ⟨b, off + i * 4, none⟩ = some c0 ∧ w.cell? ⟨b, off + i * 4 + 1, none⟩ = some c1 ∧ w.cell? ⟨b, off + i * 4 + 2, none⟩ = some c2 ∧ w.cell? ⟨b, off + i * 4 + 3, none⟩ = some c3 ∧ IsSh w l[i] (.agg #[c0, c1, c2, c3])) → ShAt w b off l
  | [], _, _ => by simp only [ShAt]
  | x :: l, off, h => by
    simp only [ShAt]
    refine ⟨by have h0 := h 0 (by simp); rw [List.getElem_cons_zero] at h0; simpa using h0, ShAt.of_get fun i hi => ?_⟩
    have := h (i + 1) (by simpa using hi)
    have e : off + (i + 1) * 4 = off + 4 + i * 4 := by omega
    rw [e] at this
    simpa using this

/-- What a cell holds it holds in w' too. -/
def Keeps (w w' : World) : Prop := ∀ b o c, w.cell? ⟨b, o, none⟩ = some c → w'.cell? ⟨b, o, none⟩ = some c
theorem Keeps.refl (w : World) : Keeps w w := fun _ _ _ h => h
theorem Keeps.trans {a b c : World} (h : Keeps a b) (k : Keeps b c) : Keeps a c := fun _ _ _ x => k _ _ _ (h _ _ _ x)
theorem Keeps.of_below {w w' : World} (h : Below w.heap.size w w') : Keeps w w' := fun b o c hc => by
  rw [h.cell (p := ⟨b, o, none⟩) (World.block_lt_of_cell? w ⟨b, o, none⟩ hc)]; exact hc
theorem StrAt.keep {w w' : World} {b off : Nat} {l : List ByteArray} (h : StrAt w b off l) (hk : Keeps w w') : StrAt w' b off l := fun i hi => hk _ _ _ (h i hi)
theorem IsStrs.keep {w w' : World} {v : Value} {l : List ByteArray} (h : IsStrs w v l) (hk : Keeps w w') : IsStrs w' v l := by
  obtain ⟨h1, h2, a, cap, h3, h4, h5, h6⟩ := h
  refine ⟨h1, h2, a, cap, h3, h4, h5, ?_⟩
  rcases h6 with h6 | ⟨b, off, rfl, h6⟩
  · exact .inl h6
  · exact .inr ⟨b, off, rfl, h6.keep hk⟩
theorem IsSh.keep {w w' : World} (hk : Keeps w w') : ∀ (t : Sh) (v : Value), IsSh w t v → IsSh w' t v := by
  refine Sh.ind fun k sy na su ih v h => ?_
  obtain ⟨vs, vn, vp, rfl, h1, h2, h3, a, cap, rfl, h4, h5, h6⟩ := h.parts
  refine IsSh.mk h1 (h2.keep hk) (h3.keep hk) ⟨a, cap, rfl, h4, h5, ?_⟩
  rcases h6 with h6 | ⟨b, off, rfl, h6⟩
  · exact .inl h6
  · refine .inr ⟨b, off, rfl, ShAt.of_get fun i hi => ?_⟩
    obtain ⟨c0, c1, c2, c3, g0, g1, g2, g3, g4⟩ := h6.get i hi
    exact ⟨c0, c1, c2, c3, hk _ _ _ g0, hk _ _ _ g1, hk _ _ _ g2, hk _ _ _ g3, ih _ (List.getElem_mem _) _ g4⟩
theorem ShAt.keep {w w' : World} {b off : Nat} {l : List Sh} (h : ShAt w b off l) (hk : Keeps w w') : ShAt w' b off l :=
  ShAt.of_get fun i hi => by
    obtain ⟨c0, c1, c2, c3, g0, g1, g2, g3, g4⟩ := h.get i hi
    exact ⟨c0, c1, c2, c3, hk _ _ _ g0, hk _ _ _ g1, hk _ _ _ g2, hk _ _ _ g3, IsSh.keep hk _ _ g4⟩
theorem IsShs.keep {w w' : World} {v : Value} {l : List Sh} (h : IsShs w v l) (hk : Keeps w w') : IsShs w' v l := by
  obtain ⟨a, cap, h3, h4, h5, h6⟩ := h
  refine ⟨a, cap, h3, h4, h5, ?_⟩
  rcases h6 with h6 | ⟨b, off, rfl, h6⟩
  · exact .inl h6
  · exact .inr ⟨b, off, rfl, h6.keep hk⟩
theorem IsShs.sub {w : World} {cap b off : Nat} {l : List Sh} (h1 : l.length ≤ cap) (h2 : cap ≤ 9223372036854775807) (h : ShAt w b off l) : IsShs w (.slice (some ⟨b, off, none⟩) l.length cap) l :=
  ⟨_, cap, rfl, h1, h2, .inr ⟨b, off, rfl, h⟩⟩
end Go.Proofs.YtfdhmkmeffgkgaaDoor
namespace Go.Proofs.YtfdhmkmeffgkgaaDoor
open Go.RowKit

/-- A Val: its kind, its number, its text, and its items. -/
inductive Va where
  | mk (k n : Int) (t : ByteArray) (it : List Va) : Va

def Va.kd : Va → Int | .mk k _ _ _ => k
def Va.nn : Va → Int | .mk _ n _ _ => n
def Va.tx : Va → ByteArray | .mk _ _ t _ => t
def Va.it : Va → List Va | .mk _ _ _ l => l

theorem Va.ind {P : Va → Prop} (h : ∀ k n t it, (∀ x ∈ it, P x) → P (.mk k n t it)) : ∀ x, P x := by
  intro x
  refine Va.rec (motive_1 := P) (motive_2 := fun l => ∀ x ∈ l, P x) ?_ ?_ ?_ x
  · intro k n t it ih; exact h k n t it ih
  · intro x hx; cases hx
  · intro a l ha hl x hx
    rcases List.mem_cons.1 hx with rfl | h'
    · exact ha
    · exact hl x h'

mutual
/-- How many items and letters: what the size count of the laws takes away. -/
def Va.sz : Va → Nat
  | .mk _ _ t it => t.size + (it.length + Va.szs it)
def Va.szs : List Va → Nat
  | [] => 0
  | x :: l => Va.sz x + Va.szs l
end

mutual
/-- The value v is a Val that reads as t. -/
def IsVa (w : World) : Va → Value → Prop
  | .mk k n t it, v => ∃ a cap, v = .agg #[.int .i64 k, .int .i64 n, .string t, .slice a it.length cap] ∧ InI64' k ∧ InI64' n ∧ t.size ≤ 9223372036854775807 ∧
      it.length ≤ cap ∧ cap ≤ 9223372036854775807 ∧ (it = [] ∨ ∃ b off, a = some ⟨b, off, none⟩ ∧ VaAt w b off it)
/-- Rows of four cells that hold the Vals l. -/
def VaAt (w : World) (b off : Nat) : List Va → Prop
  | [] => True
  | x :: l => (∃ c0 c1 c2 c3, w.cell? ⟨b, off, none⟩ = some c0 ∧ w.cell? ⟨b, off + 1, none⟩ = some c1 ∧ w.cell? ⟨b, off + 2, none⟩ = some c2 ∧ w.cell? ⟨b, off + 3, none⟩ = some c3 ∧ IsVa w x (.agg #[c0, c1, c2, c3])) ∧ VaAt w b (off + 4) l
end

/-- A slice whose elements are the Vals l. -/
def IsVas (w : World) (v : Value) (l : List Va) : Prop :=
  ∃ a cap, v = .slice a l.length cap ∧ l.length ≤ cap ∧ cap ≤ 9223372036854775807 ∧ (l = [] ∨ ∃ b off, a = some ⟨b, off, none⟩ ∧ VaAt w b off l)

theorem IsVa.parts {w : World} {k n : Int} {t : ByteArray} {it : List Va} {v : Value} (h : IsVa w (.mk k n t it) v) :
    ∃ vp, v = .agg #[.int .i64 k, .int .i64 n, .string t, vp] ∧ InI64' k ∧ InI64' n ∧ t.size ≤ 9223372036854775807 ∧ IsVas w vp it := by
  simp only [IsVa] at h
  obtain ⟨a, cap, rfl, hk, h1, h2, h3, h4, h5⟩ := h
  exact ⟨_, rfl, hk, h1, h2, a, cap, rfl, h3, h4, h5⟩
theorem IsVa.mk {w : World} {k n : Int} {t : ByteArray} {it : List Va} {vp : Value} (hk : InI64' k) (h1 : InI64' n) (h2 : t.size ≤ 9223372036854775807) (h3 : IsVas w vp it) :
    IsVa w (.mk k n t it) (.agg #[.int .i64 k, .int .i64 n, .string t, vp]) := by
  simp only [IsVa]
  obtain ⟨a, cap, rfl, h3, h4, h5⟩ := h3
  exact ⟨a, cap, rfl, hk, h1, h2, h3, h4, h5⟩

theorem VaAt.get {w : World} {b : Nat} : ∀ {l : List Va} {off : Nat}, VaAt w b off l → ∀ i (h : i < l.length), ∃ c0 c1 c2 c3, w.cell? ⟨b, off + i * 4, none⟩ = some c0 ∧ w.cell? ⟨b, off + i * 4 + 1, none⟩ = some c1 ∧ w.cell? ⟨b, off + i * 4 + 2, none⟩ = some c2 ∧ w.cell? ⟨b, off + i * 4 + 3, none⟩ = some c3 ∧ IsVa w l[i] (.agg #[c0, c1, c2, c3])
  | [], _, _, i, h => by cases h
  | x :: l, off, hl, 0, h => by
    simp only [VaAt] at hl
    simpa using hl.1
  | x :: l, off, hl, i + 1, h => by
    simp only [VaAt] at hl
    have := VaAt.get hl.2 i (by simpa using h)
    have e : off + 4 + i * 4 = off + (i + 1) * 4 := by omega
    rw [e] at this
    simpa using this
theorem VaAt.of_get {w : World} {b : Nat} : ∀ {l : List Va} {off : Nat}, (∀ i (h : i < l.length), ∃ c0 c1 c2 c3, w.cell? ⟨b, off + i * 4, none⟩ = some c0 ∧ w.cell? ⟨b, off + i * 4 + 1, none⟩ = some c1 ∧ w.cell? ⟨b, off + i * 4 + 2, none⟩ = some c2 ∧ w.cell? ⟨b, off + i * 4 + 3, none⟩ = some c3 ∧ IsVa w l[i] (.agg #[c0, c1, c2, c3])) → VaAt w b off l
  | [], _, _ => by simp only [VaAt]
  | x :: l, off, h => by
    simp only [VaAt]
    refine ⟨by have h0 := h 0 (by simp); rw [List.getElem_cons_zero] at h0; simpa using h0, VaAt.of_get fun i hi => ?_⟩
    have := h (i + 1) (by simpa using hi)
    have e : off + (i + 1) * 4 = off + 4 + i * 4 := by omega
    rw [e] at this
    simpa using this

theorem IsVa.keep {w w' : World} (hk : Keeps w w') : ∀ (t : Va) (v : Value), IsVa w t v → IsVa w' t v := by
  refine Va.ind fun k n t it ih v h => ?_
  obtain ⟨vp, rfl, h1, h2, h3, a, cap, rfl, h4, h5, h6⟩ := h.parts
  refine IsVa.mk h1 h2 h3 ⟨a, cap, rfl, h4, h5, ?_⟩
  rcases h6 with h6 | ⟨b, off, rfl, h6⟩
  · exact .inl h6
  · refine .inr ⟨b, off, rfl, VaAt.of_get fun i hi => ?_⟩
    obtain ⟨c0, c1, c2, c3, g0, g1, g2, g3, g4⟩ := h6.get i hi
    exact ⟨c0, c1, c2, c3, hk _ _ _ g0, hk _ _ _ g1, hk _ _ _ g2, hk _ _ _ g3, ih _ (List.getElem_mem _) _ g4⟩
theorem VaAt.keep {w w' : World} {b off : Nat} {l : List Va} (h : VaAt w b off l) (hk : Keeps w w') : VaAt w' b off l :=
  VaAt.of_get fun i hi => by
    obtain ⟨c0, c1, c2, c3, g0, g1, g2, g3, g4⟩ := h.get i hi
    exact ⟨c0, c1, c2, c3, hk _ _ _ g0, hk _ _ _ g1, hk _ _ _ g2, hk _ _ _ g3, IsVa.keep hk _ _ g4⟩
theorem IsVas.keep {w w' : World} {v : Value} {l : List Va} (h : IsVas w v l) (hk : Keeps w w') : IsVas w' v l := by
  obtain ⟨a, cap, h3, h4, h5, h6⟩ := h
  refine ⟨a, cap, h3, h4, h5, ?_⟩
  rcases h6 with h6 | ⟨b, off, rfl, h6⟩
  · exact .inl h6
  · exact .inr ⟨b, off, rfl, h6.keep hk⟩
theorem IsVas.at {w : World} {a : Option Addr} {l : List Va} (h6 : l = [] ∨ ∃ b off, a = some ⟨b, off, none⟩ ∧ VaAt w b off l) {k : Nat} (hk : k < l.length) :
    ∃ b off, a = some ⟨b, off, none⟩ ∧ ∃ c0 c1 c2 c3, w.cell? ⟨b, off + k * 4, none⟩ = some c0 ∧ w.cell? ⟨b, off + k * 4 + 1, none⟩ = some c1 ∧ w.cell? ⟨b, off + k * 4 + 2, none⟩ = some c2 ∧ w.cell? ⟨b, off + k * 4 + 3, none⟩ = some c3 ∧ IsVa w l[k] (.agg #[c0, c1, c2, c3]) := by
  rcases h6 with rfl | ⟨b, off, rfl, h⟩
  · cases hk
  · exact ⟨b, off, rfl, h.get k hk⟩
theorem IsVa.open {w : World} {k n : Int} {t : ByteArray} {it : List Va} {v : Value} (h : IsVa w (.mk k n t it) v) : ∃ p m, v = .agg #[.int .i64 k, .int .i64 n, .string t, .slice p it.length m] ∧
    InI64' k ∧ InI64' n ∧ t.size ≤ 9223372036854775807 ∧ IsVas w (.slice p it.length m) it := by
  obtain ⟨vp, rfl, hk, h1, h2, h3⟩ := h.parts
  have g3 := h3
  obtain ⟨a3, c3, e3, _⟩ := g3
  subst e3
  exact ⟨a3, c3, rfl, hk, h1, h2, h3⟩
/-- The four cells of a Val. -/
theorem IsVa.cells {w : World} {x : Va} {c0 c1 c2 c3 : Value} (h : IsVa w x (.agg #[c0, c1, c2, c3])) :
    ∃ p m, c0 = .int .i64 x.kd ∧ c1 = .int .i64 x.nn ∧ c2 = .string x.tx ∧ c3 = .slice p x.it.length m := by
  cases x with | mk k n t it =>
    obtain ⟨p, m, he, _⟩ := h.open
    simp only [Value.agg.injEq, Array.mk.injEq, List.cons.injEq, and_true] at he
    obtain ⟨e0, e1, e2, e3⟩ := he
    exact ⟨p, m, e0, e1, e2, e3⟩
theorem IsVa.agg {w : World} {x : Va} {v : Value} (h : IsVa w x v) : ∃ p m, v = .agg #[.int .i64 x.kd, .int .i64 x.nn, .string x.tx, .slice p x.it.length m] := by
  cases x with | mk k n t it =>
    obtain ⟨p, m, rfl, _⟩ := h.open
    exact ⟨p, m, rfl⟩
end Go.Proofs.YtfdhmkmeffgkgaaDoor
