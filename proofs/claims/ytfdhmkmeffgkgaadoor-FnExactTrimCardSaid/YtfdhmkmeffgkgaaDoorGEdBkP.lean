/- What undoes an Edit, told plainly; how great a right one is. -/
import Derived.Test.YtfdhmkmeffgkgaaDoorGEdA
import Derived.Test.YtfdhmkmeffgkgaaDoorGToE
import Derived.Test.YtfdhmkmeffgkgaaDoorGCopyShW
namespace Go.Proofs.YtfdhmkmeffgkgaaDoor
open Go.RowKit

theorem shNone_eq {t : Sh} (h : shNone t = true) : t = .mk 0 [] [] [] := by
  cases t with | mk k sy na su =>
  simp [shNone, Sh.kd, Sh.sy, Sh.na, Sh.su] at h
  obtain ⟨⟨⟨h1, rfl⟩, rfl⟩, rfl⟩ := h
  have h0 : k = 0 := of_decide_eq_true h1
  subst h0
  rfl
/-- What is copied: a right shape, or none. -/
def CpOk (t : Sh) : Prop := partOk 5 t = true ∨ t = .mk 0 [] [] []
theorem cp_of {f : Bool} {t : Sh} (h : shIf f t = true) : CpOk t := by
  cases f
  · exact .inr (shNone_eq h)
  · exact .inl h
theorem cpI {t : Sh} (h : CpOk t) (v : Value) (w : World) (g : IsSh w t v) : Calls Tryd.prog 66 #[v] w (ToPost t w) := by
  rcases h with h | rfl
  · exact co_any 5 t v w h g
  · exact co_zero 0 v w g
theorem word_size8 {s : ByteArray} (h : wordOk s.data.toList = true) : s.size ≤ 8 := by
  unfold wordOk at h
  rw [len_list] at h
  simp at h
  exact h.1.2
theorem nm_size8 {f : Bool} {s : ByteArray} (h : nmIf f s = true) : s.size ≤ 8 := by
  cases f
  · have h' : s.size = 0 := of_decide_eq_true h
    omega
  · exact word_size8 h
theorem path_small {l : List ByteArray} (h : pathOk l = true) : l.length ≤ 5 ∧ ∀ s ∈ l, s.size ≤ 8 := by
  unfold pathOk at h
  simp only [Bool.and_eq_true] at h
  refine ⟨of_decide_eq_true h.1, fun s hs => ?_⟩
  have hk := List.all_eq_true.1 h.2 s hs
  by_cases e : s = starS
  · subst e; decide
  · exact word_size8 ((step_word e).symm.trans hk)

theorem ed_small {t : Ed} (h : edOk t = true) : (1 ≤ t.kd ∧ t.kd ≤ 10) ∧ (t.path.length ≤ 5 ∧ ∀ s ∈ t.path, s.size ≤ 8) ∧ t.nm.size ≤ 8 ∧ t.tn.size ≤ 8 ∧ CpOk t.sh ∧ CpOk t.ws := by
  unfold edOk at h
  simp only [Bool.and_eq_true] at h
  obtain ⟨⟨⟨⟨⟨⟨⟨h1, h2⟩, h3⟩, _⟩, h5⟩, h6⟩, h7⟩, h8⟩ := h
  exact ⟨⟨of_decide_eq_true h1, of_decide_eq_true h2⟩, path_small h3, nm_size8 h5, nm_size8 h6, cp_of h7, cp_of h8⟩

/-- What undoes a right Edit. -/
def undoneR (t : Ed) : Ed := ⟨edBackK t.kd.toNat, t.path, t.pl, if t.kd = 3 then t.tn else t.nm, if t.kd = 3 then t.nm else t.tn, if t.kd = 10 then t.ws else t.sh, if t.kd = 10 then t.sh else t.ws⟩
def edZero : Ed := ⟨0, [], 0, ⟨#[]⟩, ⟨#[]⟩, .mk 0 [] [] [], .mk 0 [] [] []⟩
def backR (t : Ed) : Ed := if edOk t then undoneR t else edZero
theorem edBackK_in (k : Nat) : InI64' (edBackK k) := by
  unfold edBackK InI64'
  split <;> omega

/-- An Edit in block b. -/
def EdBlk (r : Ed) (B b : Nat) (w : World) : Prop :=
  ∃ p0 m0 p1 n1 m1 p2 n2 m2 p3 n3 m3 q1 i1 j1 q2 i2 j2 q3 i3 j3 F1 F2, w.heap[b]? = some (.cells #[.int .i64 r.kd, .slice p0 r.path.length m0, .int .i64 r.pl, .string r.nm, .string r.tn, .int .i64 r.sh.kd, .slice p1 n1 m1, .slice p2 n2 m2, .slice p3 n3 m3, .int .i64 r.ws.kd, .slice q1 i1 j1, .slice q2 i2 j2, .slice q3 i3 j3] 33 (0, 0)) ∧
    OwnStrs w B (.slice p0 r.path.length m0) r.path ∧ OwnSh w B r.sh (.agg #[.int .i64 r.sh.kd, .slice p1 n1 m1, .slice p2 n2 m2, .slice p3 n3 m3]) F1 ∧ OwnSh w B r.ws (.agg #[.int .i64 r.ws.kd, .slice q1 i1 j1, .slice q2 i2 j2, .slice q3 i3 j3]) F2 ∧
    (b :: (blkOf (.slice p0 r.path.length m0) ++ (F1 ++ F2))).Nodup
/-- The variable of an Edit that a region makes. -/
def UdCut (r : Ed) (u : World) (x : Value) (wc : World) : Prop := ∃ b, x = .pointer (some ⟨b, 0, none⟩) ∧ u.heap.size ≤ b ∧ EdBlk r u.heap.size b wc ∧ Below u.heap.size u wc

theorem own_len {w : World} {B : Nat} {p : Option Addr} {n m : Nat} {l : List ByteArray} (h : OwnStrs w B (.slice p n m) l) : n = l.length := by
  obtain ⟨_, _, _, _, e, _⟩ := h.is
  cases e; rfl

theorem ud_blk {r : Ed} {u w w' : World} {b lo1 hi1 lo4 hi4 lo5 hi5 : Nat} {p0 : Option Addr} {m0 : Nat} {p1 p2 p3 q1 q2 q3 : Option Addr} {n1 m1 n2 m2 n3 m3 i1 j1 i2 j2 i3 j3 : Nat} {F1 F2 : List Nat}
    (hc : w'.heap[b]? = some (.cells #[.int .i64 r.kd, .slice p0 r.path.length m0, .int .i64 r.pl, .string r.nm, .string r.tn, .int .i64 r.sh.kd, .slice p1 n1 m1, .slice p2 n2 m2, .slice p3 n3 m3, .int .i64 r.ws.kd, .slice q1 i1 j1, .slice q2 i2 j2, .slice q3 i3 j3] 33 (0, 0)))
    (hy : ∀ g, g < w.heap.size → g ≠ b → w'.heap[g]? = w.heap[g]?)
    (h1 : OwnStrs w u.heap.size (.slice p0 r.path.length m0) r.path) (h2 : OwnSh w u.heap.size r.sh (.agg #[.int .i64 r.sh.kd, .slice p1 n1 m1, .slice p2 n2 m2, .slice p3 n3 m3]) F1) (hn2 : F1.Nodup)
    (h3 : OwnSh w u.heap.size r.ws (.agg #[.int .i64 r.ws.kd, .slice q1 i1 j1, .slice q2 i2 j2, .slice q3 i3 j3]) F2) (hn3 : F2.Nodup)
    (k1 : ∀ g ∈ blkOf (.slice p0 r.path.length m0), lo1 ≤ g ∧ g < hi1) (k4 : ∀ g ∈ F1, lo4 ≤ g ∧ g < hi4) (k5 : ∀ g ∈ F2, lo5 ≤ g ∧ g < hi5) (h14 : hi1 ≤ lo4) (h45 : hi4 ≤ lo5) (h15 : hi1 ≤ lo5)
    (b1 : b < lo1 ∨ hi1 ≤ b) (b4 : b < lo4 ∨ hi4 ≤ b) (b5 : b < lo5 ∨ hi5 ≤ b) : EdBlk r u.heap.size b w' := by
  have e1 : ∀ g ∈ blkOf (.slice p0 r.path.length m0), g ≠ b := fun g hg => by have := k1 g hg; omega
  have e2 : ∀ g ∈ F1, g ≠ b := fun g hg => by have := k4 g hg; omega
  have e3 : ∀ g ∈ F2, g ≠ b := fun g hg => by have := k5 g hg; omega
  refine ⟨_, _, _, _, _, _, _, _, _, _, _, _, _, _, _, _, _, _, _, _, F1, F2, hc, ⟨h1.1, own_block h1.2 fun g hg => hy g (blkOf_own h1.2 g hg).2 (e1 g hg)⟩,
    OwnSh.move (Nat.le_refl _) _ _ _ (fun g hg => hy g (OwnSh.blocks _ _ _ h2 g hg).2 (e2 g hg)) h2, OwnSh.move (Nat.le_refl _) _ _ _ (fun g hg => hy g (OwnSh.blocks _ _ _ h3 g hg).2 (e3 g hg)) h3, ?_⟩
  refine List.nodup_cons.2 ⟨fun hm => ?_, List.nodup_append.2 ⟨blk_nodup _ _ _, List.nodup_append.2 ⟨hn2, hn3, fun a ha c hc e => ?_⟩, fun a ha c hc e => ?_⟩⟩
  · rcases List.mem_append.1 hm with hm | hm
    · exact e1 b hm rfl
    · rcases List.mem_append.1 hm with hm | hm
      · exact e2 b hm rfl
      · exact e3 b hm rfl
  · have := k4 a ha; have := k5 c hc; omega
  · have := k1 a ha
    rcases List.mem_append.1 hc with hc | hc
    · have := k4 c hc; omega
    · have := k5 c hc; omega
/-- thirteen stores into block b. -/
def putE (w : World) (b : Nat) (v0 v1 v2 v3 v4 v5 v6 v7 v8 v9 v10 v11 v12 : Value) : World :=
  ((((((((((((w.setCell ⟨b, 0, none⟩ v0).setCell ⟨b, 1, none⟩ v1).setCell ⟨b, 2, none⟩ v2).setCell ⟨b, 3, none⟩ v3).setCell ⟨b, 4, none⟩ v4).setCell ⟨b, 5, none⟩ v5).setCell ⟨b, 6, none⟩ v6).setCell ⟨b, 7, none⟩ v7).setCell ⟨b, 8, none⟩ v8).setCell ⟨b, 9, none⟩ v9).setCell ⟨b, 10, none⟩ v10).setCell ⟨b, 11, none⟩ v11).setCell ⟨b, 12, none⟩ v12
theorem putE_only (w : World) (b : Nat) (v0 v1 v2 v3 v4 v5 v6 v7 v8 v9 v10 v11 v12 : Value) : Only [b] w (putE w b v0 v1 v2 v3 v4 v5 v6 v7 v8 v9 v10 v11 v12) := by
  unfold putE
  exact ((((((((((((((Only.refl [b] w).set (by simp) 0 v0).set (by simp) 1 v1).set (by simp) 2 v2).set (by simp) 3 v3).set (by simp) 4 v4).set (by simp) 5 v5).set (by simp) 6 v6).set (by simp) 7 v7).set (by simp) 8 v8).set (by simp) 9 v9).set (by simp) 10 v10).set (by simp) 11 v11).set (by simp) 12 v12)
theorem putE_blk {w : World} {b : Nat} {T : TypeId} {c0 c1 c2 c3 c4 c5 c6 c7 c8 c9 c10 c11 c12 : Value} (h : w.heap[b]? = some (.cells #[c0, c1, c2, c3, c4, c5, c6, c7, c8, c9, c10, c11, c12] T (0, 0))) (v0 v1 v2 v3 v4 v5 v6 v7 v8 v9 v10 v11 v12 : Value) :
    (putE w b v0 v1 v2 v3 v4 v5 v6 v7 v8 v9 v10 v11 v12).heap[b]? = some (.cells #[v0, v1, v2, v3, v4, v5, v6, v7, v8, v9, v10, v11, v12] T (0, 0)) := by
  have h' := blk_set (blk_set (blk_set (blk_set (blk_set (blk_set (blk_set (blk_set (blk_set (blk_set (blk_set (blk_set (blk_set h 0 v0) 1 v1) 2 v2) 3 v3) 4 v4) 5 v5) 6 v6) 7 v7) 8 v8) 9 v9) 10 v10) 11 v11) 12 v12
  unfold putE
  simpa only [List.setIfInBounds_toArray, List.set_cons_zero, List.set_cons_succ] using h'
theorem putE_below {B b : Nat} {u w : World} (h : Below B u w) (hb : B ≤ b) (v0 v1 v2 v3 v4 v5 v6 v7 v8 v9 v10 v11 v12 : Value) : Below B u (putE w b v0 v1 v2 v3 v4 v5 v6 v7 v8 v9 v10 v11 v12) :=
  ((((((((((((h.setCell (p := ⟨b, 0, none⟩) hb v0).setCell (p := ⟨b, 1, none⟩) hb v1).setCell (p := ⟨b, 2, none⟩) hb v2).setCell (p := ⟨b, 3, none⟩) hb v3).setCell (p := ⟨b, 4, none⟩) hb v4).setCell (p := ⟨b, 5, none⟩) hb v5).setCell (p := ⟨b, 6, none⟩) hb v6).setCell (p := ⟨b, 7, none⟩) hb v7).setCell (p := ⟨b, 8, none⟩) hb v8).setCell (p := ⟨b, 9, none⟩) hb v9).setCell (p := ⟨b, 10, none⟩) hb v10).setCell (p := ⟨b, 11, none⟩) hb v11).setCell (p := ⟨b, 12, none⟩) hb v12
theorem setE_below {B b : Nat} {u w : World} (h : Below B u w) (hb : B ≤ b) (v0 v1 v2 v3 v4 v5 v6 v7 v8 v9 v10 v11 v12 : Value) : Below B u (((((((((((((w.setCell ⟨b, 0, none⟩ v0).setCell ⟨b, 1, none⟩ v1).setCell ⟨b, 2, none⟩ v2).setCell ⟨b, 3, none⟩ v3).setCell ⟨b, 4, none⟩ v4).setCell ⟨b, 5, none⟩ v5).setCell ⟨b, 6, none⟩ v6).setCell ⟨b, 7, none⟩ v7).setCell ⟨b, 8, none⟩ v8).setCell ⟨b, 9, none⟩ v9).setCell ⟨b, 10, none⟩ v10).setCell ⟨b, 11, none⟩ v11).setCell ⟨b, 12, none⟩ v12) :=
  putE_below h hb v0 v1 v2 v3 v4 v5 v6 v7 v8 v9 v10 v11 v12
end Go.Proofs.YtfdhmkmeffgkgaaDoor
