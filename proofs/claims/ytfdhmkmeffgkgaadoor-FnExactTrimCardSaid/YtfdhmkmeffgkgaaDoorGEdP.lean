/- An Edit, told plainly; which ones are right. -/
import Derived.Test.YtfdhmkmeffgkgaaDoorGPartB
import Derived.Test.YtfdhmkmeffgkgaaDoorGPathW
import Derived.Test.YtfdhmkmeffgkgaaDoorGOwnA
namespace Go.Proofs.YtfdhmkmeffgkgaaDoor
open Go.RowKit

/-- What an Edit reads as. -/
structure Ed where
  kd : Int
  path : List ByteArray
  pl : Int
  nm : ByteArray
  tn : ByteArray
  sh : Sh
  ws : Sh

def Ed.sz (t : Ed) : Nat := strsSz t.path + (t.nm.size + (t.tn.size + (t.sh.sz + t.ws.sz)))

/-- The value v is an Edit that reads as t. -/
def IsEd (w : World) (t : Ed) (v : Value) : Prop :=
  ∃ p0 m0 p1 n1 m1 p2 n2 m2 p3 n3 m3 q1 i1 j1 q2 i2 j2 q3 i3 j3, v = .agg #[.int .i64 t.kd, .slice p0 t.path.length m0, .int .i64 t.pl, .string t.nm, .string t.tn, .int .i64 t.sh.kd, .slice p1 n1 m1, .slice p2 n2 m2, .slice p3 n3 m3, .int .i64 t.ws.kd, .slice q1 i1 j1, .slice q2 i2 j2, .slice q3 i3 j3] ∧
    InI64' t.kd ∧ InI64' t.pl ∧ t.nm.size ≤ 9223372036854775807 ∧ t.tn.size ≤ 9223372036854775807 ∧ IsStrs w (.slice p0 t.path.length m0) t.path ∧
    IsSh w t.sh (.agg #[.int .i64 t.sh.kd, .slice p1 n1 m1, .slice p2 n2 m2, .slice p3 n3 m3]) ∧ IsSh w t.ws (.agg #[.int .i64 t.ws.kd, .slice q1 i1 j1, .slice q2 i2 j2, .slice q3 i3 j3])
theorem IsEd.keep {w w' : World} (hk : Keeps w w') {t : Ed} {v : Value} (h : IsEd w t v) : IsEd w' t v := by
  obtain ⟨p0, m0, p1, n1, m1, p2, n2, m2, p3, n3, m3, q1, i1, j1, q2, i2, j2, q3, i3, j3, rfl, h1, h2, h3, h4, h5, h6, h7⟩ := h
  exact ⟨_, _, _, _, _, _, _, _, _, _, _, _, _, _, _, _, _, _, _, _, rfl, h1, h2, h3, h4, h5.keep hk, IsSh.keep hk _ _ h6, IsSh.keep hk _ _ h7⟩

/-- An Edit of the call's own, F its blocks. -/
def OwnEd (w : World) (base : Nat) (t : Ed) (v : Value) (F : List Nat) : Prop :=
  ∃ p0 m0 p1 n1 m1 p2 n2 m2 p3 n3 m3 q1 i1 j1 q2 i2 j2 q3 i3 j3 F1 F2, v = .agg #[.int .i64 t.kd, .slice p0 t.path.length m0, .int .i64 t.pl, .string t.nm, .string t.tn, .int .i64 t.sh.kd, .slice p1 n1 m1, .slice p2 n2 m2, .slice p3 n3 m3, .int .i64 t.ws.kd, .slice q1 i1 j1, .slice q2 i2 j2, .slice q3 i3 j3] ∧
    InI64' t.kd ∧ InI64' t.pl ∧ t.nm.size ≤ 9223372036854775807 ∧ t.tn.size ≤ 9223372036854775807 ∧ OwnStrs w base (.slice p0 t.path.length m0) t.path ∧
    OwnSh w base t.sh (.agg #[.int .i64 t.sh.kd, .slice p1 n1 m1, .slice p2 n2 m2, .slice p3 n3 m3]) F1 ∧ OwnSh w base t.ws (.agg #[.int .i64 t.ws.kd, .slice q1 i1 j1, .slice q2 i2 j2, .slice q3 i3 j3]) F2 ∧
    F = blkOf (.slice p0 t.path.length m0) ++ (F1 ++ F2)
theorem OwnEd.is {w : World} {base : Nat} {t : Ed} {v : Value} {F : List Nat} (h : OwnEd w base t v F) : IsEd w t v := by
  obtain ⟨p0, m0, p1, n1, m1, p2, n2, m2, p3, n3, m3, q1, i1, j1, q2, i2, j2, q3, i3, j3, F1, F2, rfl, h1, h2, h3, h4, h5, h6, h7, rfl⟩ := h
  exact ⟨_, _, _, _, _, _, _, _, _, _, _, _, _, _, _, _, _, _, _, _, rfl, h1, h2, h3, h4, h5.is, OwnSh.is _ _ _ h6, OwnSh.is _ _ _ h7⟩
theorem OwnEd.blocks {w : World} {base : Nat} {t : Ed} {v : Value} {F : List Nat} (h : OwnEd w base t v F) : ∀ g ∈ F, base ≤ g ∧ g < w.heap.size := by
  obtain ⟨p0, m0, p1, n1, m1, p2, n2, m2, p3, n3, m3, q1, i1, j1, q2, i2, j2, q3, i3, j3, F1, F2, rfl, h1, h2, h3, h4, h5, h6, h7, rfl⟩ := h
  intro g hg
  rcases List.mem_append.1 hg with hg | hg
  · exact blkOf_own h5.2 g hg
  · rcases List.mem_append.1 hg with hg | hg
    · exact OwnSh.blocks _ _ _ h6 g hg
    · exact OwnSh.blocks _ _ _ h7 g hg
theorem OwnEd.move {w w' : World} {base base' : Nat} (hb : base' ≤ base) {t : Ed} {v : Value} {F : List Nat} (e : ∀ g ∈ F, w'.heap[g]? = w.heap[g]?) (h : OwnEd w base t v F) : OwnEd w' base' t v F := by
  obtain ⟨p0, m0, p1, n1, m1, p2, n2, m2, p3, n3, m3, q1, i1, j1, q2, i2, j2, q3, i3, j3, F1, F2, rfl, h1, h2, h3, h4, h5, h6, h7, rfl⟩ := h
  exact ⟨_, _, _, _, _, _, _, _, _, _, _, _, _, _, _, _, _, _, _, _, F1, F2, rfl, h1, h2, h3, h4, ⟨h5.1, own_mono (own_block h5.2 fun g hg => e g (by simp [hg])) hb⟩,
    OwnSh.move hb _ _ _ (fun g hg => e g (by simp [hg])) h6, OwnSh.move hb _ _ _ (fun g hg => e g (by simp [hg])) h7, rfl⟩

/-- The cells of a block of thirteen. -/
theorem blk13 {w : World} {b : Nat} {T : TypeId} {c0 c1 c2 c3 c4 c5 c6 c7 c8 c9 c10 c11 c12 : Value} (h : w.heap[b]? = some (.cells #[c0, c1, c2, c3, c4, c5, c6, c7, c8, c9, c10, c11, c12] T (0, 0))) :
    w.cell? ⟨b, 0, none⟩ = some c0 ∧ w.cell? ⟨b, 1, none⟩ = some c1 ∧ w.cell? ⟨b, 2, none⟩ = some c2 ∧ w.cell? ⟨b, 3, none⟩ = some c3 ∧ w.cell? ⟨b, 4, none⟩ = some c4 ∧ w.cell? ⟨b, 5, none⟩ = some c5 ∧ w.cell? ⟨b, 6, none⟩ = some c6 ∧
    w.cell? ⟨b, 7, none⟩ = some c7 ∧ w.cell? ⟨b, 8, none⟩ = some c8 ∧ w.cell? ⟨b, 9, none⟩ = some c9 ∧ w.cell? ⟨b, 10, none⟩ = some c10 ∧ w.cell? ⟨b, 11, none⟩ = some c11 ∧ w.cell? ⟨b, 12, none⟩ = some c12 ∧ b < w.heap.size := by
  refine ⟨?_, ?_, ?_, ?_, ?_, ?_, ?_, ?_, ?_, ?_, ?_, ?_, ?_, (Array.getElem?_eq_some_iff.1 h).1⟩ <;> simp [World.cell?, h]
theorem frz_of {w : World} {b : Nat} {T : TypeId} {c : Array Value} (h : w.heap[b]? = some (.cells c T (0, 0))) (i : Nat) : w.frozen? ⟨b, i, none⟩ = false := by simp [World.frozen?, h]
/-- One cell of a block. -/
theorem cel {w : World} {b : Nat} {T : TypeId} {c : Array Value} {v : Value} (h : w.heap[b]? = some (.cells c T (0, 0))) (i : Nat) (hv : c[i]? = some v) : w.cell? ⟨b, i, none⟩ = some v := by simp [World.cell?, h, hv]
theorem frz13 {w : World} {b : Nat} {T : TypeId} {c : Array Value} (h : w.heap[b]? = some (.cells c T (0, 0))) :
    w.frozen? ⟨b, 0, none⟩ = false ∧ w.frozen? ⟨b, 1, none⟩ = false ∧ w.frozen? ⟨b, 2, none⟩ = false ∧ w.frozen? ⟨b, 3, none⟩ = false ∧ w.frozen? ⟨b, 4, none⟩ = false ∧ w.frozen? ⟨b, 5, none⟩ = false ∧ w.frozen? ⟨b, 6, none⟩ = false ∧
    w.frozen? ⟨b, 7, none⟩ = false ∧ w.frozen? ⟨b, 8, none⟩ = false ∧ w.frozen? ⟨b, 9, none⟩ = false ∧ w.frozen? ⟨b, 10, none⟩ = false ∧ w.frozen? ⟨b, 11, none⟩ = false ∧ w.frozen? ⟨b, 12, none⟩ = false :=
  ⟨frz_of h _, frz_of h _, frz_of h _, frz_of h _, frz_of h _, frz_of h _, frz_of h _, frz_of h _, frz_of h _, frz_of h _, frz_of h _, frz_of h _, frz_of h _⟩

/-- Which Kinds have At, Name, To, Shape, Was. -/
def hasPl (k : Int) : Bool := decide (k = 1) || decide (k = 2) || decide (k = 4) || decide (k = 5)
def hasNm (k : Int) : Bool := decide (k = 1) || decide (k = 2) || decide (k = 3) || decide (k = 4) || decide (k = 5)
def hasTo (k : Int) : Bool := decide (k = 3)
def hasSh (k : Int) : Bool := decide (k = 1) || decide (k = 2) || decide (k = 10)
def hasWs (k : Int) : Bool := decide (k = 10)
def plIf (h : Bool) (n : Int) : Bool := if h then decide (0 ≤ n) && decide (n < 6) else n == 0
def nmIf (h : Bool) (s : ByteArray) : Bool := if h then wordOk s.data.toList else decide (s.size = 0)
def shNone (t : Sh) : Bool := decide (t.kd = 0) && decide (t.sy.length = 0) && decide (t.na.length = 0) && decide (t.su.length = 0)
def shIf (h : Bool) (t : Sh) : Bool := if h then rightB t else shNone t
/-- A right Edit. -/
def edOk (t : Ed) : Bool := decide (1 ≤ t.kd) && decide (t.kd ≤ 10) && pathOk t.path && plIf (hasPl t.kd) t.pl && nmIf (hasNm t.kd) t.nm && nmIf (hasTo t.kd) t.tn && shIf (hasSh t.kd) t.sh && shIf (hasWs t.kd) t.ws
end Go.Proofs.YtfdhmkmeffgkgaaDoor
