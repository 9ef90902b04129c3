/- Marks in rows of Edits, told plainly; the state within a round of laws.markEditS. · Walks: laws.markEditS, laws.heldEditS. -/
import Derived.Test.YtfdhmkmeffgkgaaDoorGToE
import Derived.Test.YtfdhmkmeffgkgaaDoorGHeldShW
import Derived.Deep.RegionHeld3
import Derived.Deep.DeepCutAuto
namespace Go.Proofs.YtfdhmkmeffgkgaaDoor
open Go.RowKit

/-- How many marks go into an Edit of a row. -/
def Ed.mce (t : Ed) : Nat := 4 + t.path.length + Sh.mc t.sh + Sh.mc t.ws
def Ed.mces : List Ed → Nat
  | [] => 0
  | x :: l => Ed.mce x + Ed.mces l
/-- An Edit with marks, from k on. -/
def Ed.marked (t : Ed) (k : Nat) : Ed := ⟨k, marksB (k + 1) t.path.length, ((k + 1 + t.path.length : Nat) : Int), mkT (k + 2 + t.path.length), mkT (k + 3 + t.path.length), Sh.marked t.sh (k + 4 + t.path.length), Sh.marked t.ws (k + 4 + t.path.length + Sh.mc t.sh)⟩
def Ed.markeds : List Ed → Nat → List Ed
  | [], _ => []
  | x :: l, k => Ed.marked x k :: Ed.markeds l (k + Ed.mce x)
theorem emarkeds_len : ∀ (l : List Ed) (k : Nat), (Ed.markeds l k).length = l.length
  | [], _ => by simp [Ed.markeds]
  | x :: l, k => by simp [Ed.markeds, emarkeds_len l]
theorem emces_take : ∀ (l : List Ed) (j : Nat) (h : j < l.length), Ed.mces (l.take (j + 1)) = Ed.mces (l.take j) + l[j].mce
  | [], _, h => by cases h
  | x :: l, 0, _ => by simp [Ed.mces]
  | x :: l, j + 1, h => by
    have := emces_take l j (by simpa using h)
    simp only [List.take_succ_cons, Ed.mces, List.getElem_cons_succ] at this ⊢
    omega
theorem emces_take_le : ∀ (l : List Ed) (j : Nat), Ed.mces (l.take j) ≤ Ed.mces l
  | [], _ => by simp [Ed.mces]
  | x :: l, 0 => by simp [Ed.mces]
  | x :: l, j + 1 => by
    have := emces_take_le l j
    simp only [List.take_succ_cons, Ed.mces]; omega
theorem emarkeds_take : ∀ (l : List Ed) (j k : Nat) (h : j < l.length), Ed.markeds (l.take (j + 1)) k = Ed.markeds (l.take j) k ++ [Ed.marked l[j] (k + Ed.mces (l.take j))]
  | [], _, _, h => by cases h
  | x :: l, 0, k, _ => by simp [Ed.markeds, Ed.mces]
  | x :: l, j + 1, k, h => by
    have := emarkeds_take l j (k + x.mce) (by simpa using h)
    simp only [List.take_succ_cons, Ed.markeds, Ed.mces, List.getElem_cons_succ, List.cons_append] at this ⊢
    rw [this, Nat.add_assoc]
theorem emarkeds_at : ∀ (l : List Ed) (j k : Nat) (h : j < l.length), (Ed.markeds l k)[j]'(by rw [emarkeds_len]; exact h) = Ed.marked l[j] (k + Ed.mces (l.take j))
  | [], _, _, h => by cases h
  | x :: l, 0, k, _ => by simp [Ed.markeds, Ed.mces]
  | x :: l, j + 1, k, h => by
    have := emarkeds_at l j (k + x.mce) (by simpa using h)
    simp only [Ed.markeds, List.take_succ_cons, Ed.mces, List.getElem_cons_succ] at this ⊢
    rw [this, Nat.add_assoc]

/-- A row's cells, those of one element apart. -/
def RowIn (W : World) (base g cap n j : Nat) (cs1 M cs2 : List Value) : Prop :=
  W.ownsRow base 33 13 (.slice (some ⟨g, 0, none⟩) n cap) n (cs1 ++ (M ++ cs2)) ∧ cs1.length = j * 13 ∧ M.length = 13
theorem RowIn.cell {W : World} {base g cap n j : Nat} {cs1 M cs2 : List Value} (h : RowIn W base g cap n j cs1 M cs2) {c : Nat} {x : Value} (hc : M[c]? = some x) :
    W.cell? ⟨g, j * 13 + c, none⟩ = some x ∧ W.frozen? ⟨g, j * 13 + c, none⟩ = false ∧ g < W.heap.size := by
  obtain ⟨h1, h2, h3⟩ := h
  have hlt := (List.getElem?_eq_some_iff.1 hc).1
  have e := own_cell h1 (j := j * 13 + c) (by simp only [List.length_append]; omega)
  refine ⟨?_, e.2.1, e.2.2.1⟩
  rw [e.1, List.getElem_append_right (by omega)]
  have e2 : j * 13 + c - cs1.length = c := by omega
  rw [List.getElem_append_left (by omega)]
  simp only [e2]
  exact (List.getElem?_eq_getElem hlt).symm.trans hc
theorem RowIn.set {W : World} {base g cap n j : Nat} {cs1 M cs2 : List Value} (h : RowIn W base g cap n j cs1 M cs2) {c : Nat} (hc : c < 13) (u : Value) :
    RowIn (W.setCell ⟨g, j * 13 + c, none⟩ u) base g cap n j cs1 (M.set c u) cs2 := by
  obtain ⟨h1, h2, h3⟩ := h
  have hr := (World.ownsRow.stored h1 (j * 13 + c) u).1
  rw [List.set_append_right _ _ (by omega), show j * 13 + c - cs1.length = c by omega, List.set_append_left _ _ (by omega)] at hr
  exact ⟨hr, h2, by simpa using h3⟩
theorem RowIn.move {W W' : World} {base g cap n j : Nat} {cs1 M cs2 : List Value} (h : RowIn W base g cap n j cs1 M cs2) (e : W'.heap[g]? = W.heap[g]?) : RowIn W' base g cap n j cs1 M cs2 :=
  ⟨own_block h.1 fun x hx => by simp [blkOf] at hx; subst hx; exact e, h.2⟩

/-- Within a round: the element's cells, and what they lead to. -/
def MeMid (W0 W : World) (base g cap n j : Nat) (cs1 cs2 : List Value) (vp x1 x2 : Value) (G1 G2 : List Nat) (M : List Value) (p : List ByteArray) (s1 s2 : Sh) : Prop :=
  RowIn W base g cap n j cs1 M cs2 ∧ OwnStrs W base vp p ∧ OwnSh W base s1 x1 G1 ∧ OwnSh W base s2 x2 G2 ∧ Only (g :: (blkOf vp ++ (G1 ++ G2))) W0 W ∧ (g :: (blkOf vp ++ (G1 ++ G2))).Nodup
section
variable {W0 W W' : World} {base g cap n j : Nat} {cs1 cs2 : List Value} {vp x1 x2 : Value} {G1 G2 : List Nat} {M : List Value} {p : List ByteArray} {s1 s2 : Sh}
theorem me_apart {a b c : List Nat} (h : (g :: (a ++ (b ++ c))).Nodup) : (∀ x ∈ a, x ≠ g ∧ x ∉ b ∧ x ∉ c) ∧ (∀ x ∈ b, x ≠ g ∧ x ∉ a ∧ x ∉ c) ∧ (∀ x ∈ c, x ≠ g ∧ x ∉ a ∧ x ∉ b) ∧ b.Nodup ∧ c.Nodup := by
  simp only [List.nodup_cons, List.nodup_append, List.mem_append, not_or] at h
  refine ⟨?_, ?_, ?_, ?_, ?_⟩ <;> grind
theorem MeMid.lt (h : MeMid W0 W base g cap n j cs1 cs2 vp x1 x2 G1 G2 M p s1 s2) : (∀ x ∈ blkOf vp, x < W.heap.size) ∧ (∀ x ∈ G1, x < W.heap.size) ∧ (∀ x ∈ G2, x < W.heap.size) ∧ g < W.heap.size := by
  obtain ⟨h1, h2, h3, h4, h5, h6⟩ := h
  refine ⟨fun x hx => (blkOf_own h2.2 x hx).2, fun x hx => (OwnSh.blocks _ _ _ h3 x hx).2, fun x hx => (OwnSh.blocks _ _ _ h4 x hx).2, ?_⟩
  exact (blkOf_own h1.1 g (by simp [blkOf])).2
theorem MeMid.set (h : MeMid W0 W base g cap n j cs1 cs2 vp x1 x2 G1 G2 M p s1 s2) {c : Nat} (hc : c < 13) (u : Value) :
    MeMid W0 (W.setCell ⟨g, j * 13 + c, none⟩ u) base g cap n j cs1 cs2 vp x1 x2 G1 G2 (M.set c u) p s1 s2 := by
  obtain ⟨h1, h2, h3, h4, h5, h6⟩ := h
  obtain ⟨a1, a2, a3, _, _⟩ := me_apart h6
  have e : ∀ x, x ≠ g → (W.setCell ⟨g, j * 13 + c, none⟩ u).heap[x]? = W.heap[x]? := fun x hx => Below.heap_setCell _ _ _ _ hx
  exact ⟨h1.set hc u, strs_move h2 fun x hx => e x (a1 x hx).1, OwnSh.move (Nat.le_refl _) _ _ _ (fun x hx => e x (a2 x hx).1) h3, OwnSh.move (Nat.le_refl _) _ _ _ (fun x hx => e x (a3 x hx).1) h4, h5.set (by simp) _ _, h6⟩
theorem MeMid.below (h : MeMid W0 W base g cap n j cs1 cs2 vp x1 x2 G1 G2 M p s1 s2) (hb : Below W.heap.size W W') : MeMid W0 W' base g cap n j cs1 cs2 vp x1 x2 G1 G2 M p s1 s2 := by
  obtain ⟨l1, l2, l3, l4⟩ := h.lt
  obtain ⟨h1, h2, h3, h4, h5, h6⟩ := h
  exact ⟨h1.move (hb.block g l4), strs_move h2 fun x hx => hb.block x (l1 x hx), OwnSh.move (Nat.le_refl _) _ _ _ (fun x hx => hb.block x (l2 x hx)) h3, OwnSh.move (Nat.le_refl _) _ _ _ (fun x hx => hb.block x (l3 x hx)) h4, h5.trans (Only.of_below hb), h6⟩
theorem MeMid.path (h : MeMid W0 W base g cap n j cs1 cs2 vp x1 x2 G1 G2 M p s1 s2) {p' : List ByteArray} (ho : Only (blkOf vp) W W') (hs : OwnStrs W' base vp p') : MeMid W0 W' base g cap n j cs1 cs2 vp x1 x2 G1 G2 M p' s1 s2 := by
  obtain ⟨l1, l2, l3, l4⟩ := h.lt
  obtain ⟨h1, h2, h3, h4, h5, h6⟩ := h
  obtain ⟨a1, a2, a3, _, _⟩ := me_apart h6
  exact ⟨h1.move (ho.block g l4 fun hm => (a1 g hm).1 rfl), hs, OwnSh.move (Nat.le_refl _) _ _ _ (fun x hx => ho.block x (l2 x hx) fun hm => (a1 x hm).2.1 hx) h3, OwnSh.move (Nat.le_refl _) _ _ _ (fun x hx => ho.block x (l3 x hx) fun hm => (a1 x hm).2.2 hx) h4, h5.trans (ho.mono fun x hx => by simp [hx]), h6⟩
theorem MeMid.sh (h : MeMid W0 W base g cap n j cs1 cs2 vp x1 x2 G1 G2 M p s1 s2) {s : Sh} (ho : Only G1 W W') (hs : OwnSh W' base s x1 G1) : MeMid W0 W' base g cap n j cs1 cs2 vp x1 x2 G1 G2 M p s s2 := by
  obtain ⟨l1, l2, l3, l4⟩ := h.lt
  obtain ⟨h1, h2, h3, h4, h5, h6⟩ := h
  obtain ⟨a1, a2, a3, _, _⟩ := me_apart h6
  exact ⟨h1.move (ho.block g l4 fun hm => (a2 g hm).1 rfl), strs_move h2 fun x hx => ho.block x (l1 x hx) fun hm => (a2 x hm).2.1 hx, hs, OwnSh.move (Nat.le_refl _) _ _ _ (fun x hx => ho.block x (l3 x hx) fun hm => (a2 x hm).2.2 hx) h4, h5.trans (ho.mono fun x hx => by simp [hx]), h6⟩
theorem MeMid.ws (h : MeMid W0 W base g cap n j cs1 cs2 vp x1 x2 G1 G2 M p s1 s2) {s : Sh} (ho : Only G2 W W') (hs : OwnSh W' base s x2 G2) : MeMid W0 W' base g cap n j cs1 cs2 vp x1 x2 G1 G2 M p s1 s := by
  obtain ⟨l1, l2, l3, l4⟩ := h.lt
  obtain ⟨h1, h2, h3, h4, h5, h6⟩ := h
  obtain ⟨a1, a2, a3, _, _⟩ := me_apart h6
  exact ⟨h1.move (ho.block g l4 fun hm => (a3 g hm).1 rfl), strs_move h2 fun x hx => ho.block x (l1 x hx) fun hm => (a3 x hm).2.1 hx, OwnSh.move (Nat.le_refl _) _ _ _ (fun x hx => ho.block x (l2 x hx) fun hm => (a3 x hm).2.2 hx) h3, hs, h5.trans (ho.mono fun x hx => by simp [hx]), h6⟩
end

section
variable {W : World} {base : Nat} {k : Int} {sy na : List ByteArray} {su : List Sh} {vs vn vp : Value} {G : List Nat}
theorem sh_rekind (h : OwnSh W base (.mk k sy na su) (.agg #[.int .i64 k, vs, vn, vp]) G) {k' : Int} (hk : InI64' k') : OwnSh W base (.mk k' sy na su) (.agg #[.int .i64 k', vs, vn, vp]) G := by
  obtain ⟨vs', vn', vp', cs, Fs, e, _, h4, h5, h6, h7, rfl⟩ := h.parts
  simp only [Value.agg.injEq, Array.mk.injEq, List.cons.injEq, and_true] at e
  obtain ⟨_, rfl, rfl, rfl⟩ := e
  simp only [OwnSh]
  exact ⟨_, _, _, cs, Fs, rfl, hk, h4, h5, h6, h7, rfl⟩
/-- Marks into a shape's words, its names, its parts. -/
theorem sh_sy (h : OwnSh W base (.mk k sy na su) (.agg #[.int .i64 k, vs, vn, vp]) G) (hG : G.Nodup) (q K : Nat) (hK : q + sy.length = K) (hq : K ≤ 1099511627776) :
    Calls Tryd.prog 32 #[vs, .int .i64 q] W fun e W' => e = .returned (.int .i64 (K : Int)) ∧ OwnSh W' base (.mk k (marksB q sy.length) na su) (.agg #[.int .i64 k, vs, vn, vp]) G ∧ Only G W W' := by
  subst hK
  obtain ⟨vs', vn', vp', cs, Fs, e, hk, h4, h5, h6, h7, rfl⟩ := h.parts
  simp only [Value.agg.injEq, Array.mk.injEq, List.cons.injEq, and_true] at e
  obtain ⟨_, rfl, rfl, rfl⟩ := e
  obtain ⟨a1, a2, a3, a4⟩ := one_apart hG
  refine (markStrs_any W base _ sy q h4 (by omega)).mono ?_
  rintro e w' ⟨rfl, hs, hy⟩
  refine ⟨rfl, ?_, hy.mono fun x hx => by simp [hx]⟩
  simp only [OwnSh]
  exact ⟨_, _, _, cs, Fs, rfl, hk, hs, strs_move h5 fun x hx => hy.block x (blkOf_own h5.2 x hx).2 fun hb => (a1 x hb).1 hx, own_block h6 fun x hx => hy.block x (blkOf_own h6 x hx).2 fun hb => (a1 x hb).2.1 hx, h7.move (Nat.le_refl _) fun x hx => hy.block x (h7.lt x hx).2 fun hb => (a1 x hb).2.2 hx, rfl⟩
theorem sh_na (h : OwnSh W base (.mk k sy na su) (.agg #[.int .i64 k, vs, vn, vp]) G) (hG : G.Nodup) (q K : Nat) (hK : q + na.length = K) (hq : K ≤ 1099511627776) :
    Calls Tryd.prog 32 #[vn, .int .i64 q] W fun e W' => e = .returned (.int .i64 (K : Int)) ∧ OwnSh W' base (.mk k sy (marksB q na.length) su) (.agg #[.int .i64 k, vs, vn, vp]) G ∧ Only G W W' := by
  subst hK
  obtain ⟨vs', vn', vp', cs, Fs, e, hk, h4, h5, h6, h7, rfl⟩ := h.parts
  simp only [Value.agg.injEq, Array.mk.injEq, List.cons.injEq, and_true] at e
  obtain ⟨_, rfl, rfl, rfl⟩ := e
  obtain ⟨a1, a2, a3, a4⟩ := one_apart hG
  refine (markStrs_any W base _ na q h5 (by omega)).mono ?_
  rintro e w' ⟨rfl, hs, hy⟩
  refine ⟨rfl, ?_, hy.mono fun x hx => by simp [hx]⟩
  simp only [OwnSh]
  exact ⟨_, _, _, cs, Fs, rfl, hk, strs_move h4 fun x hx => hy.block x (blkOf_own h4.2 x hx).2 fun hb => (a2 x hb).1 hx, hs, own_block h6 fun x hx => hy.block x (blkOf_own h6 x hx).2 fun hb => (a2 x hb).2.1 hx, h7.move (Nat.le_refl _) fun x hx => hy.block x (h7.lt x hx).2 fun hb => (a2 x hb).2.2 hx, rfl⟩
theorem sh_su (h : OwnSh W base (.mk k sy na su) (.agg #[.int .i64 k, vs, vn, vp]) G) (hG : G.Nodup) (q K : Nat) (hK : q + Sh.mcs su = K) (hq : K ≤ 1099511627776) :
    Calls Tryd.prog 38 #[vp, .int .i64 q] W fun e W' => e = .returned (.int .i64 (K : Int)) ∧ OwnSh W' base (.mk k sy na (Sh.markeds su q)) (.agg #[.int .i64 k, vs, vn, vp]) G ∧ Only G W W' := by
  subst hK
  obtain ⟨vs', vn', vp', cs, Fs, e, hk, h4, h5, h6, h7, rfl⟩ := h.parts
  simp only [Value.agg.injEq, Array.mk.injEq, List.cons.injEq, and_true] at e
  obtain ⟨_, rfl, rfl, rfl⟩ := e
  obtain ⟨a1, a2, a3, a4⟩ := one_apart hG
  refine (mss_any su W base _ cs Fs q h6 h7 a4 (by omega)).mono ?_
  rintro e w' ⟨cs', rfl, m1, m2, hy⟩
  refine ⟨rfl, ?_, hy.mono fun x hx => by rcases List.mem_append.1 hx with hx | hx <;> simp [hx]⟩
  simp only [OwnSh]
  exact ⟨_, _, _, cs', Fs, rfl, hk, strs_move h4 fun x hx => hy.block x (blkOf_own h4.2 x hx).2 fun hb => (a3 x hb).1 hx, strs_move h5 fun x hx => hy.block x (blkOf_own h5.2 x hx).2 fun hb => (a3 x hb).2 hx, by rw [smarkeds_len]; exact m1, m2, rfl⟩
end

/-- The state at a round's head. -/
def MeInv (w wr : World) (base g cap : Nat) (l : List Ed) (F : List Nat) (k j : Nat) : Prop :=
  ∃ cs1 cs2 F1 F2, F = F1 ++ F2 ∧ wr.ownsRow base 33 13 (.slice (some ⟨g, 0, none⟩) l.length cap) l.length (cs1 ++ cs2) ∧ OwnAllE wr base (Ed.markeds (l.take j) k) cs1 F1 ∧ OwnAllE wr base (l.drop j) cs2 F2 ∧ Only (g :: F) w wr
def MarkEdsPost (w : World) (base : Nat) (v : Value) (l : List Ed) (F : List Nat) (k : Nat) (e : Ending) (w' : World) : Prop :=
  ∃ cs', e = .returned (.int .i64 ((k + Ed.mces l : Nat) : Int)) ∧ w'.ownsRow base 33 13 v l.length cs' ∧ OwnAllE w' base (Ed.markeds l k) cs' F ∧ Only (blkOf v ++ F) w w'
theorem OwnAllE.cons {w : World} {base : Nat} {x : Ed} {l : List Ed} {cs : List Value} {F : List Nat} (h : OwnAllE w base (x :: l) cs F) : ∃ c0 c1 c2 c3 c4 c5 c6 c7 c8 c9 c10 c11 c12 cs' F1 F2, cs = c0 :: c1 :: c2 :: c3 :: c4 :: c5 :: c6 :: c7 :: c8 :: c9 :: c10 :: c11 :: c12 :: cs' ∧ OwnEd w base x (.agg #[c0, c1, c2, c3, c4, c5, c6, c7, c8, c9, c10, c11, c12]) F1 ∧ OwnAllE w base l cs' F2 ∧ F = F1 ++ F2 := by
  simpa only [OwnAllE] using h
theorem MeMid.kind1 {W0 W : World} {base g cap n j : Nat} {cs1 cs2 : List Value} {vp x2 : Value} {G1 G2 : List Nat} {M : List Value} {p : List ByteArray} {s2 : Sh} {k : Int} {sy na : List ByteArray} {su : List Sh} {a1 a2 a3 : Value} (h : MeMid W0 W base g cap n j cs1 cs2 vp (.agg #[.int .i64 k, a1, a2, a3]) x2 G1 G2 M p (.mk k sy na su) s2) {k' : Int} (hk : InI64' k') :
    MeMid W0 W base g cap n j cs1 cs2 vp (.agg #[.int .i64 k', a1, a2, a3]) x2 G1 G2 M p (.mk k' sy na su) s2 :=
  let ⟨h1, h2, h3, h4, h5, h6⟩ := h
  ⟨h1, h2, sh_rekind h3 hk, h4, h5, h6⟩
theorem MeMid.kind2 {W0 W : World} {base g cap n j : Nat} {cs1 cs2 : List Value} {vp x1 : Value} {G1 G2 : List Nat} {M : List Value} {p : List ByteArray} {s1 : Sh} {k : Int} {sy na : List ByteArray} {su : List Sh} {a1 a2 a3 : Value} (h : MeMid W0 W base g cap n j cs1 cs2 vp x1 (.agg #[.int .i64 k, a1, a2, a3]) G1 G2 M p s1 (.mk k sy na su)) {k' : Int} (hk : InI64' k') :
    MeMid W0 W base g cap n j cs1 cs2 vp x1 (.agg #[.int .i64 k', a1, a2, a3]) G1 G2 M p s1 (.mk k' sy na su) :=
  let ⟨h1, h2, h3, h4, h5, h6⟩ := h
  ⟨h1, h2, h3, sh_rekind h4 hk, h5, h6⟩

/-- The marks of one, by name. -/
theorem em_is {kd : Int} {p : List ByteArray} {pl : Int} {nm tn : ByteArray} {ks : Int} {sy na : List ByteArray} {su : List Sh} {kw : Int} {wy wn : List ByteArray} {wu : List Sh} {q0 q1 q2 q3 q4 q5 q6 q7 q8 q9 q10 q11 q12 : Nat}
    (h1 : q1 = q0 + 1) (h2 : q2 = q1 + p.length) (h3 : q3 = q2 + 1) (h4 : q4 = q3 + 1) (h5 : q5 = q4 + 1) (h6 : q6 = q5 + 1) (h7 : q7 = q6 + sy.length) (h8 : q8 = q7 + na.length) (h9 : q9 = q8 + Sh.mcs su) (h10 : q10 = q9 + 1) (h11 : q11 = q10 + wy.length) (h12 : q12 = q11 + wn.length) :
    Ed.marked ⟨kd, p, pl, nm, tn, .mk ks sy na su, .mk kw wy wn wu⟩ q0 = ⟨q0, marksB q1 p.length, (q2 : Int), mkT q3, mkT q4, .mk q5 (marksB q6 sy.length) (marksB q7 na.length) (Sh.markeds su q8), .mk q9 (marksB q10 wy.length) (marksB q11 wn.length) (Sh.markeds wu q12)⟩ := by
  unfold Ed.marked
  dsimp only
  simp only [Sh.marked, Sh.mc]
  rw [show q0 + 4 + p.length + (1 + sy.length + na.length + Sh.mcs su) = q9 by omega, show q0 + 4 + p.length = q5 by omega, show q0 + 3 + p.length = q4 by omega, show q0 + 2 + p.length = q3 by omega, show q0 + 1 + p.length = q2 by omega, show q0 + 1 = q1 by omega, show q5 + 1 = q6 by omega, show q6 + sy.length = q7 by omega, show q7 + na.length = q8 by omega, show q9 + 1 = q10 by omega, show q10 + wy.length = q11 by omega, show q11 + wn.length = q12 by omega]

/-- Into a round. -/
theorem me_open {w wr : World} {base g cap : Nat} {l : List Ed} {F : List Nat} {k j : Nat} (h : MeInv w wr base g cap l F k j) (hj : j < l.length) (hnd : (g :: F).Nodup) {kd : Int} {p : List ByteArray} {pl : Int} {nm tn : ByteArray} {ks : Int} {sy na : List ByteArray} {su : List Sh} {kw : Int} {wy wn : List ByteArray} {wu : List Sh} (ht : l[j] = ⟨kd, p, pl, nm, tn, .mk ks sy na su, .mk kw wy wn wu⟩) :
    ∃ cs1 cs2 F1 F2 p0 m0 p1 n1 m1 p2 n2 m2 p3 n3 m3 q1 i1 j1 q2 i2 j2 q3 i3 j3 G1 G2, F = F1 ++ ((blkOf (.slice p0 p.length m0) ++ (G1 ++ G2)) ++ F2) ∧ OwnAllE wr base (Ed.markeds (l.take j) k) cs1 F1 ∧ OwnAllE wr base (l.drop (j + 1)) cs2 F2 ∧ Only (g :: F) w wr ∧
      MeMid wr wr base g cap l.length j cs1 cs2 (.slice p0 p.length m0) (.agg #[.int .i64 ks, .slice p1 n1 m1, .slice p2 n2 m2, .slice p3 n3 m3]) (.agg #[.int .i64 kw, .slice q1 i1 j1, .slice q2 i2 j2, .slice q3 i3 j3]) G1 G2
        [.int .i64 kd, .slice p0 p.length m0, .int .i64 pl, .string nm, .string tn, .int .i64 ks, .slice p1 n1 m1, .slice p2 n2 m2, .slice p3 n3 m3, .int .i64 kw, .slice q1 i1 j1, .slice q2 i2 j2, .slice q3 i3 j3] p (.mk ks sy na su) (.mk kw wy wn wu) := by
  obtain ⟨cs1, cs2, F1, F2, hF, hr, hA1, hA2, hy⟩ := h
  rw [List.drop_eq_getElem_cons hj] at hA2
  obtain ⟨c0, c1, c2, c3, c4, c5, c6, c7, c8, c9, c10, c11, c12, cs2', Fx, F2', rfl, hx, hA2', rfl⟩ := hA2.cons
  rw [ht] at hx
  have hcl : cs1.length = j * 13 := by have := hA1.len; rw [emarkeds_len, List.length_take, Nat.min_eq_left (by omega)] at this; exact this
  obtain ⟨p0, m0, p1, n1, m1, p2, n2, m2, p3, n3, m3, q1, i1, j1, q2, i2, j2, q3, i3, j3, G1, G2, he, _, _, _, _, h5, h6, h7, rfl⟩ := hx
  simp only [Value.agg.injEq, Array.mk.injEq, List.cons.injEq, and_true] at he
  obtain ⟨rfl, rfl, rfl, rfl, rfl, rfl, rfl, rfl, rfl, rfl, rfl, rfl, rfl⟩ := he
  refine ⟨cs1, cs2', F1, F2', p0, m0, p1, n1, m1, p2, n2, m2, p3, n3, m3, q1, i1, j1, q2, i2, j2, q3, i3, j3, G1, G2, hF, hA1, hA2', hy, ⟨hr, hcl, rfl⟩, h5, h6, h7, Only.refl _ _, ?_⟩
  rw [hF] at hnd
  dsimp only at hnd
  simp only [List.nodup_cons, List.nodup_append, List.mem_append, not_or] at hnd ⊢
  grind

/-- Out of a round. -/
theorem me_close {w wr W : World} {base g cap : Nat} {l : List Ed} {F F1 F2 G1 G2 : List Nat} {k j : Nat} {cs1 cs2 : List Value} {kd : Int} {p : List ByteArray} {pl : Int} {nm tn : ByteArray} {ks : Int} {sy na : List ByteArray} {su : List Sh} {kw : Int} {wy wn : List ByteArray} {wu : List Sh}
    {p0 p1 p2 p3 r1 r2 r3 : Option Addr} {m0 n1 m1 n2 m2 n3 m3 i1 j1 i2 j2 i3 j3 : Nat} {q0 q1 q2 q3 q4 q5 q6 q7 q8 q9 q10 q11 q12 q13 : Nat} (hj : j < l.length) (hnd : (g :: F).Nodup) (ht : l[j] = ⟨kd, p, pl, nm, tn, .mk ks sy na su, .mk kw wy wn wu⟩)
    (hF : F = F1 ++ ((blkOf (.slice p0 p.length m0) ++ (G1 ++ G2)) ++ F2)) (hA1 : OwnAllE wr base (Ed.markeds (l.take j) k) cs1 F1) (hA2 : OwnAllE wr base (l.drop (j + 1)) cs2 F2) (hy : Only (g :: F) w wr)
    (h0 : q0 = k + Ed.mces (l.take j)) (h1 : q1 = q0 + 1) (h2 : q2 = q1 + p.length) (h3 : q3 = q2 + 1) (h4 : q4 = q3 + 1) (h5 : q5 = q4 + 1) (h6 : q6 = q5 + 1) (h7 : q7 = q6 + sy.length) (h8 : q8 = q7 + na.length) (h9 : q9 = q8 + Sh.mcs su) (h10 : q10 = q9 + 1) (h11 : q11 = q10 + wy.length) (h12 : q12 = q11 + wn.length) (h13 : q13 = q12 + Sh.mcs wu) (hb : q13 ≤ 1099511627776)
    (h : MeMid wr W base g cap l.length j cs1 cs2 (.slice p0 p.length m0) (.agg #[.int .i64 q5, .slice p1 n1 m1, .slice p2 n2 m2, .slice p3 n3 m3]) (.agg #[.int .i64 q9, .slice r1 i1 j1, .slice r2 i2 j2, .slice r3 i3 j3]) G1 G2
        [.int .i64 q0, .slice p0 p.length m0, .int .i64 q2, .string (mkT q3), .string (mkT q4), .int .i64 q5, .slice p1 n1 m1, .slice p2 n2 m2, .slice p3 n3 m3, .int .i64 q9, .slice r1 i1 j1, .slice r2 i2 j2, .slice r3 i3 j3] (marksB q1 p.length) (.mk q5 (marksB q6 sy.length) (marksB q7 na.length) (Sh.markeds su q8)) (.mk q9 (marksB q10 wy.length) (marksB q11 wn.length) (Sh.markeds wu q12))) :
    k + Ed.mces (l.take (j + 1)) = q13 ∧ MeInv w W base g cap l F k (j + 1) := by
  have hm : Ed.marked l[j] q0 = ⟨q0, marksB q1 p.length, (q2 : Int), mkT q3, mkT q4, .mk q5 (marksB q6 sy.length) (marksB q7 na.length) (Sh.markeds su q8), .mk q9 (marksB q10 wy.length) (marksB q11 wn.length) (Sh.markeds wu q12)⟩ := by
    rw [ht]
    unfold Ed.marked
    dsimp only
    simp only [Sh.marked, Sh.mc]
    rw [show q0 + 4 + p.length + (1 + sy.length + na.length + Sh.mcs su) = q9 by omega, show q0 + 4 + p.length = q5 by omega, show q0 + 3 + p.length = q4 by omega, show q0 + 2 + p.length = q3 by omega, show q0 + 1 + p.length = q2 by omega, show q0 + 1 = q1 by omega, show q5 + 1 = q6 by omega, show q6 + sy.length = q7 by omega, show q7 + na.length = q8 by omega, show q9 + 1 = q10 by omega, show q10 + wy.length = q11 by omega, show q11 + wn.length = q12 by omega]
  obtain ⟨hr, hp, hs, hw, ho, hn⟩ := h
  have lF1 := hA1.lt
  have lF2 := hA2.lt
  have hap : (∀ x ∈ F1, x ∉ g :: (blkOf (.slice p0 p.length m0) ++ (G1 ++ G2))) ∧ (∀ x ∈ F2, x ∉ g :: (blkOf (.slice p0 p.length m0) ++ (G1 ++ G2))) := by
    rw [hF] at hnd
    simp only [List.nodup_cons, List.nodup_append, List.mem_append, List.mem_cons, not_or] at hnd ⊢
    constructor <;> grind
  refine ⟨?_, cs1 ++ [.int .i64 q0, .slice p0 p.length m0, .int .i64 q2, .string (mkT q3), .string (mkT q4), .int .i64 q5, .slice p1 n1 m1, .slice p2 n2 m2, .slice p3 n3 m3, .int .i64 q9, .slice r1 i1 j1, .slice r2 i2 j2, .slice r3 i3 j3], cs2, F1 ++ (blkOf (.slice p0 p.length m0) ++ (G1 ++ G2)), F2, by rw [hF]; simp, ?_, ?_, ?_, ?_⟩
  · rw [emces_take l j hj, ht]
    simp only [Ed.mce, Sh.mc]
    omega
  · rw [List.append_assoc]; exact hr.1
  · rw [emarkeds_take l j k hj, ← h0, hm]
    refine OwnAllE.snoc (hA1.move (Nat.le_refl _) fun x hx => ho.block x (lF1 x hx).2 (hap.1 x hx)) ?_
    have e1 : (marksB q1 p.length).length = p.length := marksB_len _ _
    refine ⟨p0, m0, p1, n1, m1, p2, n2, m2, p3, n3, m3, r1, i1, j1, r2, i2, j2, r3, i3, j3, G1, G2, ?_, by unfold InI64'; dsimp only; omega, by unfold InI64'; dsimp only; omega, ?_, ?_, ?_, hs, hw, ?_⟩
    · dsimp only; rw [e1]; rfl
    · have := mkT_size q3 (by omega); dsimp only; omega
    · have := mkT_size q4 (by omega); dsimp only; omega
    · dsimp only; rw [e1]; exact hp
    · dsimp only; rw [e1]
  · exact hA2.move (Nat.le_refl _) fun x hx => ho.block x (lF2 x hx).2 (hap.2 x hx)
  · exact hy.trans (ho.mono fun x hx => by
      rw [hF]
      simp only [List.mem_cons, List.mem_append] at hx ⊢
      grind)
end Go.Proofs.YtfdhmkmeffgkgaaDoor
namespace Go.Proofs.YtfdhmkmeffgkgaaDoor
open Go.RowKit

set_option maxRecDepth 100000 in
set_option maxHeartbeats 8000000 in
theorem markEds_any (l : List Ed) (w : World) (base : Nat) (v : Value) (cs : List Value) (F : List Nat) (k : Nat) (hown : w.ownsRow base 33 13 v l.length cs) (hall : OwnAllE w base l cs F) (hnd : (blkOf v ++ F).Nodup) (hk : k + Ed.mces l ≤ 1099511627776) :
    Calls Tryd.prog 18 #[v, .int .i64 k] w (MarkEdsPost w base v l F k) := by
  have h' := hown
  obtain ⟨hl, hr⟩ := h'
  rcases hr with ⟨rfl, h0⟩ | ⟨g, cap, cur, rfl, hb, hg, hn, hc, hsz, ht⟩
  · obtain rfl : l = [] := List.eq_nil_of_length_eq_zero h0
    have HN : Hid (MarkEdsPost w base (.slice none 0 0) [] F k (.returned (.int .i64 k)) w) := by
      refine ⟨cs, by simp [Ed.mces], hown, ?_, Only.refl _ _⟩
      simpa only [Ed.markeds] using hall
    clear hown hall hl hnd hk
    go_enter Tryd.func18, Tryd.ntmps18
    go_wp2_with fail
    go_loopw [1, 5] (fun a i wr => a = .int .i64 k ∧ i = .int .i64 ((0 : Nat) : Int) ∧ wr = w) (fun _ _ _ => 0)
    case atStart => exact ⟨rfl, rfl, rfl⟩
    case round =>
      obtain ⟨rfl, rfl, rfl⟩ := hrel
      go_wp2_with fail
      go_ret
      exact HN.out
  · unfold maxLen at hc
    have H0 : Hid (MeInv w w base g cap l F k 0) := ⟨[], cs, [], F, rfl, hown, by simp [Ed.markeds, OwnAllE], hall, Only.refl _ _⟩
    have HND : Hid ((g :: F).Nodup) := hnd
    have HK := Lib.hid hk
    have HTL := Lib.hid (emces_take_le l)
    clear hown hall hl hg ht hsz hnd hk
    go_enter Tryd.func18, Tryd.ntmps18
    go_wp2_with fail
    go_loopw [1, 5] (fun a i wr => ∃ j : Nat, j ≤ l.length ∧ a = .int .i64 ((k + Ed.mces (l.take j) : Nat) : Int) ∧ i = .int .i64 j ∧ Hid (MeInv w wr base g cap l F k j)) (fun _ i _ => l.length - (intOf i).toNat)
    case atStart => exact ⟨0, Nat.zero_le _, by simp [Ed.mces], rfl, H0.out⟩
    case round =>
      obtain ⟨j, hj, rfl, rfl, HI⟩ := hrel
      by_cases hlt : j < l.length
      · obtain ⟨q0, hq⟩ : ∃ q, q = k + Ed.mces (l.take j) := ⟨_, rfl⟩
        have HQ := Lib.hid hq
        rw [← hq]
        have hb13 : q0 + l[j].mce ≤ 1099511627776 := by rw [hq]; have h1 := emces_take l j hlt; have h2 := HTL.out (j + 1); have h3 := HK.out; omega
        obtain ⟨⟨kd, p, pl, nm, tn, ⟨ks, sy, na, su⟩, ⟨kw, wy, wn, wu⟩⟩, ht⟩ : ∃ t, l[j] = t := ⟨_, rfl⟩
        rw [ht] at hb13
        simp only [Ed.mce, Sh.mc] at hb13
        have HT := Lib.hid ht
        obtain ⟨q1, hq1⟩ : ∃ x, x = q0 + 1 := ⟨_, rfl⟩
        obtain ⟨q2, hq2⟩ : ∃ x, x = q1 + p.length := ⟨_, rfl⟩
        obtain ⟨q3, hq3⟩ : ∃ x, x = q2 + 1 := ⟨_, rfl⟩
        obtain ⟨q4, hq4⟩ : ∃ x, x = q3 + 1 := ⟨_, rfl⟩
        obtain ⟨q5, hq5⟩ : ∃ x, x = q4 + 1 := ⟨_, rfl⟩
        obtain ⟨q6, hq6⟩ : ∃ x, x = q5 + 1 := ⟨_, rfl⟩
        obtain ⟨q7, hq7⟩ : ∃ x, x = q6 + sy.length := ⟨_, rfl⟩
        obtain ⟨q8, hq8⟩ : ∃ x, x = q7 + na.length := ⟨_, rfl⟩
        obtain ⟨q9, hq9⟩ : ∃ x, x = q8 + Sh.mcs su := ⟨_, rfl⟩
        obtain ⟨q10, hq10⟩ : ∃ x, x = q9 + 1 := ⟨_, rfl⟩
        obtain ⟨q11, hq11⟩ : ∃ x, x = q10 + wy.length := ⟨_, rfl⟩
        obtain ⟨q12, hq12⟩ : ∃ x, x = q11 + wn.length := ⟨_, rfl⟩
        obtain ⟨q13, hq13⟩ : ∃ x, x = q12 + Sh.mcs wu := ⟨_, rfl⟩
        have bq0 : q0 ≤ 1099511627776 := by omega
        have bq1 : q1 ≤ 1099511627776 := by omega
        have bq2 : q2 ≤ 1099511627776 := by omega
        have bq3 : q3 ≤ 1099511627776 := by omega
        have bq4 : q4 ≤ 1099511627776 := by omega
        have bq5 : q5 ≤ 1099511627776 := by omega
        have bq6 : q6 ≤ 1099511627776 := by omega
        have bq7 : q7 ≤ 1099511627776 := by omega
        have bq8 : q8 ≤ 1099511627776 := by omega
        have bq9 : q9 ≤ 1099511627776 := by omega
        have bq10 : q10 ≤ 1099511627776 := by omega
        have bq11 : q11 ≤ 1099511627776 := by omega
        have bq12 : q12 ≤ 1099511627776 := by omega
        have bq13 : q13 ≤ 1099511627776 := by omega
        have Hq1 := Lib.hid hq1
        have Hq2 := Lib.hid hq2
        have Hq3 := Lib.hid hq3
        have Hq4 := Lib.hid hq4
        have Hq5 := Lib.hid hq5
        have Hq6 := Lib.hid hq6
        have Hq7 := Lib.hid hq7
        have Hq8 := Lib.hid hq8
        have Hq9 := Lib.hid hq9
        have Hq10 := Lib.hid hq10
        have Hq11 := Lib.hid hq11
        have Hq12 := Lib.hid hq12
        have Hq13 := Lib.hid hq13
        have e1 : ((q0 : Nat) : Int) + 1 = ((q1 : Nat) : Int) := by omega
        have e3 : ((q2 : Nat) : Int) + 1 = ((q3 : Nat) : Int) := by omega
        have e4 : ((q3 : Nat) : Int) + 1 = ((q4 : Nat) : Int) := by omega
        have e5 : ((q4 : Nat) : Int) + 1 = ((q5 : Nat) : Int) := by omega
        have e6 : ((q5 : Nat) : Int) + 1 = ((q6 : Nat) : Int) := by omega
        have e10 : ((q9 : Nat) : Int) + 1 = ((q10 : Nat) : Int) := by omega
        have E1 := Lib.hid e1
        have E3 := Lib.hid e3
        have E4 := Lib.hid e4
        have E5 := Lib.hid e5
        have E6 := Lib.hid e6
        have E10 := Lib.hid e10
        clear hb13 hq1 hq2 hq3 hq4 hq5 hq6 hq7 hq8 hq9 hq10 hq11 hq12 hq13 e1 e3 e4 e5 e6 e10
        obtain ⟨cs1, cs2, F1, F2, p0, m0, p1, n1, m1, p2, n2, m2, p3, n3, m3, r1, i1, j1, r2, i2, j2, r3, i3, j3, G1, G2, hF, hA1, hA2, hy, M⟩ := me_open HI.out hlt HND.out ht
        have HCL := Lib.hid (And.intro hF (And.intro hA1 (And.intro hA2 hy)))
        obtain ⟨_, _, _, hg1, hg2⟩ := me_apart M.2.2.2.2.2
        have N1 := Lib.hid hg1
        have N2 := Lib.hid hg2
        have M0 := Lib.hid M
        clear hF hA1 hA2 hy M hg1 hg2 ht hq
        obtain ⟨k0, z0, gz⟩ := M0.out.1.cell (c := 0) rfl
        rw [Nat.add_zero] at k0 z0
        obtain ⟨V1, hV1⟩ : ∃ V, V = wr.setCell ⟨g, j * 13, none⟩ (.int .i64 q0) := ⟨_, rfl⟩
        have K1 := Lib.hid (show MeMid wr V1 base g cap l.length j cs1 cs2 (.slice p0 p.length m0) (.agg #[.int .i64 ks, .slice p1 n1 m1, .slice p2 n2 m2, .slice p3 n3 m3]) (.agg #[.int .i64 kw, .slice r1 i1 j1, .slice r2 i2 j2, .slice r3 i3 j3]) G1 G2 [.int .i64 q0, .slice p0 p.length m0, .int .i64 pl, .string nm, .string tn, .int .i64 ks, .slice p1 n1 m1, .slice p2 n2 m2, .slice p3 n3 m3, .int .i64 kw, .slice r1 i1 j1, .slice r2 i2 j2, .slice r3 i3 j3] p (.mk ks sy na su) (.mk kw wy wn wu) from by rw [hV1]; exact M0.out.set (c := 0) (by omega) (.int .i64 q0))
        have HV1 := Lib.hid hV1
        have y1 := (K1.out.1.cell (c := 1) rfl).1
        try rw [hV1] at y1
        clear hV1
        go_wp2_with fail
        rw [← HV1.out]
        rw [E1.out]
        refine (markStrs_any V1 base _ p q1 K1.out.2.1 (by have := Hq2.out; omega)).mono ?_
        rintro e w1 ⟨rfl, hs, hy⟩
        rw [← Hq2.out]
        have L1 := Lib.hid (show MeMid wr w1 base g cap l.length j cs1 cs2 (.slice p0 p.length m0) (.agg #[.int .i64 ks, .slice p1 n1 m1, .slice p2 n2 m2, .slice p3 n3 m3]) (.agg #[.int .i64 kw, .slice r1 i1 j1, .slice r2 i2 j2, .slice r3 i3 j3]) G1 G2 [.int .i64 q0, .slice p0 p.length m0, .int .i64 pl, .string nm, .string tn, .int .i64 ks, .slice p1 n1 m1, .slice p2 n2 m2, .slice p3 n3 m3, .int .i64 kw, .slice r1 i1 j1, .slice r2 i2 j2, .slice r3 i3 j3] (marksB q1 p.length) (.mk ks sy na su) (.mk kw wy wn wu) from K1.out.path hy hs)
        clear hs hy gz k0 z0 y1
        obtain ⟨k2, z2, gz⟩ := L1.out.1.cell (c := 2) rfl
        obtain ⟨V2, hV2⟩ : ∃ V, V = w1.setCell ⟨g, j * 13 + 2, none⟩ (.int .i64 q2) := ⟨_, rfl⟩
        have K2 := Lib.hid (show MeMid wr V2 base g cap l.length j cs1 cs2 (.slice p0 p.length m0) (.agg #[.int .i64 ks, .slice p1 n1 m1, .slice p2 n2 m2, .slice p3 n3 m3]) (.agg #[.int .i64 kw, .slice r1 i1 j1, .slice r2 i2 j2, .slice r3 i3 j3]) G1 G2 [.int .i64 q0, .slice p0 p.length m0, .int .i64 q2, .string nm, .string tn, .int .i64 ks, .slice p1 n1 m1, .slice p2 n2 m2, .slice p3 n3 m3, .int .i64 kw, .slice r1 i1 j1, .slice r2 i2 j2, .slice r3 i3 j3] (marksB q1 p.length) (.mk ks sy na su) (.mk kw wy wn wu) from by rw [hV2]; exact L1.out.set (c := 2) (by omega) (.int .i64 q2))
        have HV2 := Lib.hid hV2
        clear hV2
        go_wp2_with fail
        rw [← HV2.out]
        rw [E3.out]
        refine (markText_any q3 (by omega) V2).mono ?_
        rintro e w2 ⟨rfl, hb2⟩
        have L2 := Lib.hid (K2.out.below hb2)
        clear hb2 gz k2 z2
        obtain ⟨k3, z3, gz⟩ := L2.out.1.cell (c := 3) rfl
        obtain ⟨V3, hV3⟩ : ∃ V, V = w2.setCell ⟨g, j * 13 + 3, none⟩ (.string (mkT q3)) := ⟨_, rfl⟩
        have K3 := Lib.hid (show MeMid wr V3 base g cap l.length j cs1 cs2 (.slice p0 p.length m0) (.agg #[.int .i64 ks, .slice p1 n1 m1, .slice p2 n2 m2, .slice p3 n3 m3]) (.agg #[.int .i64 kw, .slice r1 i1 j1, .slice r2 i2 j2, .slice r3 i3 j3]) G1 G2 [.int .i64 q0, .slice p0 p.length m0, .int .i64 q2, .string (mkT q3), .string tn, .int .i64 ks, .slice p1 n1 m1, .slice p2 n2 m2, .slice p3 n3 m3, .int .i64 kw, .slice r1 i1 j1, .slice r2 i2 j2, .slice r3 i3 j3] (marksB q1 p.length) (.mk ks sy na su) (.mk kw wy wn wu) from by rw [hV3]; exact L2.out.set (c := 3) (by omega) (.string (mkT q3)))
        have HV3 := Lib.hid hV3
        clear hV3
        go_wp2_with fail
        rw [← HV3.out]
        rw [E4.out]
        refine (markText_any q4 (by omega) V3).mono ?_
        rintro e w3 ⟨rfl, hb3⟩
        have L3 := Lib.hid (K3.out.below hb3)
        clear hb3 gz k3 z3
        obtain ⟨k4, z4, gz⟩ := L3.out.1.cell (c := 4) rfl
        obtain ⟨V4, hV4⟩ : ∃ V, V = w3.setCell ⟨g, j * 13 + 4, none⟩ (.string (mkT q4)) := ⟨_, rfl⟩
        have K4 := Lib.hid (show MeMid wr V4 base g cap l.length j cs1 cs2 (.slice p0 p.length m0) (.agg #[.int .i64 ks, .slice p1 n1 m1, .slice p2 n2 m2, .slice p3 n3 m3]) (.agg #[.int .i64 kw, .slice r1 i1 j1, .slice r2 i2 j2, .slice r3 i3 j3]) G1 G2 [.int .i64 q0, .slice p0 p.length m0, .int .i64 q2, .string (mkT q3), .string (mkT q4), .int .i64 ks, .slice p1 n1 m1, .slice p2 n2 m2, .slice p3 n3 m3, .int .i64 kw, .slice r1 i1 j1, .slice r2 i2 j2, .slice r3 i3 j3] (marksB q1 p.length) (.mk ks sy na su) (.mk kw wy wn wu) from by rw [hV4]; exact L3.out.set (c := 4) (by omega) (.string (mkT q4)))
        have HV4 := Lib.hid hV4
        obtain ⟨k5, z5, gz⟩ := K4.out.1.cell (c := 5) rfl
        obtain ⟨V5, hV5⟩ : ∃ V, V = V4.setCell ⟨g, j * 13 + 5, none⟩ (.int .i64 q5) := ⟨_, rfl⟩
        have K5 := Lib.hid (show MeMid wr V5 base g cap l.length j cs1 cs2 (.slice p0 p.length m0) (.agg #[.int .i64 q5, .slice p1 n1 m1, .slice p2 n2 m2, .slice p3 n3 m3]) (.agg #[.int .i64 kw, .slice r1 i1 j1, .slice r2 i2 j2, .slice r3 i3 j3]) G1 G2 [.int .i64 q0, .slice p0 p.length m0, .int .i64 q2, .string (mkT q3), .string (mkT q4), .int .i64 q5, .slice p1 n1 m1, .slice p2 n2 m2, .slice p3 n3 m3, .int .i64 kw, .slice r1 i1 j1, .slice r2 i2 j2, .slice r3 i3 j3] (marksB q1 p.length) (.mk q5 sy na su) (.mk kw wy wn wu) from by rw [hV5]; exact MeMid.kind1 (K4.out.set (c := 5) (by omega) (.int .i64 q5)) (by unfold InI64'; omega))
        have HV5 := Lib.hid hV5
        have y6 := (K5.out.1.cell (c := 6) rfl).1
        try rw [hV5] at y6
        try rw [hV4] at k5 z5 y6
        clear hV5 hV4
        rw [← E5.out] at y6
        go_wp2_with fail
        rw [E5.out]
        rw [← HV4.out]
        rw [← HV5.out]
        rw [E6.out]
        refine (sh_sy K5.out.2.2.1 N1.out q6 q7 Hq7.out.symm (by omega)).mono ?_
        rintro e w4 ⟨rfl, hs, hy⟩
        have L4 := Lib.hid (show MeMid wr w4 base g cap l.length j cs1 cs2 (.slice p0 p.length m0) (.agg #[.int .i64 q5, .slice p1 n1 m1, .slice p2 n2 m2, .slice p3 n3 m3]) (.agg #[.int .i64 kw, .slice r1 i1 j1, .slice r2 i2 j2, .slice r3 i3 j3]) G1 G2 [.int .i64 q0, .slice p0 p.length m0, .int .i64 q2, .string (mkT q3), .string (mkT q4), .int .i64 q5, .slice p1 n1 m1, .slice p2 n2 m2, .slice p3 n3 m3, .int .i64 kw, .slice r1 i1 j1, .slice r2 i2 j2, .slice r3 i3 j3] (marksB q1 p.length) (.mk q5 (marksB q6 sy.length) na su) (.mk kw wy wn wu) from K5.out.sh hy hs)
        clear hs hy gz k4 z4 k5 z5 y6
        have y7 := (L4.out.1.cell (c := 7) rfl).1
        have gz := (L4.out.1.cell (c := 7) rfl).2.2
        go_wp2_with fail
        refine (sh_na L4.out.2.2.1 N1.out q7 q8 Hq8.out.symm (by omega)).mono ?_
        rintro e w5 ⟨rfl, hs, hy⟩
        have L5 := Lib.hid (show MeMid wr w5 base g cap l.length j cs1 cs2 (.slice p0 p.length m0) (.agg #[.int .i64 q5, .slice p1 n1 m1, .slice p2 n2 m2, .slice p3 n3 m3]) (.agg #[.int .i64 kw, .slice r1 i1 j1, .slice r2 i2 j2, .slice r3 i3 j3]) G1 G2 [.int .i64 q0, .slice p0 p.length m0, .int .i64 q2, .string (mkT q3), .string (mkT q4), .int .i64 q5, .slice p1 n1 m1, .slice p2 n2 m2, .slice p3 n3 m3, .int .i64 kw, .slice r1 i1 j1, .slice r2 i2 j2, .slice r3 i3 j3] (marksB q1 p.length) (.mk q5 (marksB q6 sy.length) (marksB q7 na.length) su) (.mk kw wy wn wu) from L4.out.sh hy hs)
        clear hs hy gz y7
        have y8 := (L5.out.1.cell (c := 8) rfl).1
        have gz := (L5.out.1.cell (c := 8) rfl).2.2
        go_wp2_with fail
        refine (sh_su L5.out.2.2.1 N1.out q8 q9 Hq9.out.symm (by omega)).mono ?_
        rintro e w6 ⟨rfl, hs, hy⟩
        have L6 := Lib.hid (show MeMid wr w6 base g cap l.length j cs1 cs2 (.slice p0 p.length m0) (.agg #[.int .i64 q5, .slice p1 n1 m1, .slice p2 n2 m2, .slice p3 n3 m3]) (.agg #[.int .i64 kw, .slice r1 i1 j1, .slice r2 i2 j2, .slice r3 i3 j3]) G1 G2 [.int .i64 q0, .slice p0 p.length m0, .int .i64 q2, .string (mkT q3), .string (mkT q4), .int .i64 q5, .slice p1 n1 m1, .slice p2 n2 m2, .slice p3 n3 m3, .int .i64 kw, .slice r1 i1 j1, .slice r2 i2 j2, .slice r3 i3 j3] (marksB q1 p.length) (.mk q5 (marksB q6 sy.length) (marksB q7 na.length) (Sh.markeds su q8)) (.mk kw wy wn wu) from L5.out.sh hy hs)
        clear hs hy gz y8
        obtain ⟨k9, z9, gz⟩ := L6.out.1.cell (c := 9) rfl
        obtain ⟨V6, hV6⟩ : ∃ V, V = w6.setCell ⟨g, j * 13 + 9, none⟩ (.int .i64 q9) := ⟨_, rfl⟩
        have K6 := Lib.hid (show MeMid wr V6 base g cap l.length j cs1 cs2 (.slice p0 p.length m0) (.agg #[.int .i64 q5, .slice p1 n1 m1, .slice p2 n2 m2, .slice p3 n3 m3]) (.agg #[.int .i64 q9, .slice r1 i1 j1, .slice r2 i2 j2, .slice r3 i3 j3]) G1 G2 [.int .i64 q0, .slice p0 p.length m0, .int .i64 q2, .string (mkT q3), .string (mkT q4), .int .i64 q5, .slice p1 n1 m1, .slice p2 n2 m2, .slice p3 n3 m3, .int .i64 q9, .slice r1 i1 j1, .slice r2 i2 j2, .slice r3 i3 j3] (marksB q1 p.length) (.mk q5 (marksB q6 sy.length) (marksB q7 na.length) (Sh.markeds su q8)) (.mk q9 wy wn wu) from by rw [hV6]; exact MeMid.kind2 (L6.out.set (c := 9) (by omega) (.int .i64 q9)) (by unfold InI64'; omega))
        have HV6 := Lib.hid hV6
        have y10 := (K6.out.1.cell (c := 10) rfl).1
        try rw [hV6] at y10
        clear hV6
        go_wp2_with fail
        rw [← HV6.out]
        rw [E10.out]
        refine (sh_sy K6.out.2.2.2.1 N2.out q10 q11 Hq11.out.symm (by omega)).mono ?_
        rintro e w7 ⟨rfl, hs, hy⟩
        have L7 := Lib.hid (show MeMid wr w7 base g cap l.length j cs1 cs2 (.slice p0 p.length m0) (.agg #[.int .i64 q5, .slice p1 n1 m1, .slice p2 n2 m2, .slice p3 n3 m3]) (.agg #[.int .i64 q9, .slice r1 i1 j1, .slice r2 i2 j2, .slice r3 i3 j3]) G1 G2 [.int .i64 q0, .slice p0 p.length m0, .int .i64 q2, .string (mkT q3), .string (mkT q4), .int .i64 q5, .slice p1 n1 m1, .slice p2 n2 m2, .slice p3 n3 m3, .int .i64 q9, .slice r1 i1 j1, .slice r2 i2 j2, .slice r3 i3 j3] (marksB q1 p.length) (.mk q5 (marksB q6 sy.length) (marksB q7 na.length) (Sh.markeds su q8)) (.mk q9 (marksB q10 wy.length) wn wu) from K6.out.ws hy hs)
        clear hs hy gz k9 z9 y10
        have y11 := (L7.out.1.cell (c := 11) rfl).1
        have gz := (L7.out.1.cell (c := 11) rfl).2.2
        go_wp2_with fail
        refine (sh_na L7.out.2.2.2.1 N2.out q11 q12 Hq12.out.symm (by omega)).mono ?_
        rintro e w8 ⟨rfl, hs, hy⟩
        have L8 := Lib.hid (show MeMid wr w8 base g cap l.length j cs1 cs2 (.slice p0 p.length m0) (.agg #[.int .i64 q5, .slice p1 n1 m1, .slice p2 n2 m2, .slice p3 n3 m3]) (.agg #[.int .i64 q9, .slice r1 i1 j1, .slice r2 i2 j2, .slice r3 i3 j3]) G1 G2 [.int .i64 q0, .slice p0 p.length m0, .int .i64 q2, .string (mkT q3), .string (mkT q4), .int .i64 q5, .slice p1 n1 m1, .slice p2 n2 m2, .slice p3 n3 m3, .int .i64 q9, .slice r1 i1 j1, .slice r2 i2 j2, .slice r3 i3 j3] (marksB q1 p.length) (.mk q5 (marksB q6 sy.length) (marksB q7 na.length) (Sh.markeds su q8)) (.mk q9 (marksB q10 wy.length) (marksB q11 wn.length) wu) from L7.out.ws hy hs)
        clear hs hy gz y11
        have y12 := (L8.out.1.cell (c := 12) rfl).1
        have gz := (L8.out.1.cell (c := 12) rfl).2.2
        go_wp2_with fail
        refine (sh_su L8.out.2.2.2.1 N2.out q12 q13 Hq13.out.symm (by omega)).mono ?_
        rintro e w9 ⟨rfl, hs, hy⟩
        have L9 := Lib.hid (show MeMid wr w9 base g cap l.length j cs1 cs2 (.slice p0 p.length m0) (.agg #[.int .i64 q5, .slice p1 n1 m1, .slice p2 n2 m2, .slice p3 n3 m3]) (.agg #[.int .i64 q9, .slice r1 i1 j1, .slice r2 i2 j2, .slice r3 i3 j3]) G1 G2 [.int .i64 q0, .slice p0 p.length m0, .int .i64 q2, .string (mkT q3), .string (mkT q4), .int .i64 q5, .slice p1 n1 m1, .slice p2 n2 m2, .slice p3 n3 m3, .int .i64 q9, .slice r1 i1 j1, .slice r2 i2 j2, .slice r3 i3 j3] (marksB q1 p.length) (.mk q5 (marksB q6 sy.length) (marksB q7 na.length) (Sh.markeds su q8)) (.mk q9 (marksB q10 wy.length) (marksB q11 wn.length) (Sh.markeds wu q12)) from L8.out.ws hy hs)
        clear hs hy gz y12
        obtain ⟨hc1, hc2, hc3, hc4⟩ := HCL.out
        obtain ⟨he, hI⟩ := me_close hlt HND.out HT.out hc1 hc2 hc3 hc4 HQ.out Hq1.out Hq2.out Hq3.out Hq4.out Hq5.out Hq6.out Hq7.out Hq8.out Hq9.out Hq10.out Hq11.out Hq12.out Hq13.out bq13 L9.out
        have HE := Lib.hid he
        have HI2 := Lib.hid hI
        clear he hI hc1 hc2 hc3 hc4
        go_wp2_with fail
        go_roundw
        case rel => exact ⟨j + 1, hlt, by rw [HE.out], by go_num, HI2.out⟩
        case measure => simp [intOf]; omega
      · obtain rfl : j = l.length := by omega
        have HN : Hid (MarkEdsPost w base (.slice (some ⟨g, 0, none⟩) l.length cap) l F k (.returned (.int .i64 ((k + Ed.mces l : Nat) : Int))) wr) := by
          obtain ⟨cs1, cs2, F1, F2, hF, ho, ha1, ha2, hon⟩ := HI.out
          rw [List.drop_length] at ha2
          simp only [OwnAllE] at ha2
          obtain ⟨rfl, rfl⟩ := ha2
          rw [List.take_length] at ha1
          rw [List.append_nil] at ho hF
          subst hF
          exact ⟨cs1, rfl, ho, ha1, hon⟩
        rw [List.take_length]
        go_wp2_with fail
        go_ret
        exact HN.out

set_option maxRecDepth 100000 in
set_option maxHeartbeats 8000000 in
/-- The marks are there. -/
theorem heldEds_any (l : List Ed) (w : World) (v : Value) (k : Nat) (h : IsEds w v (Ed.markeds l k)) (hk : k + Ed.mces l ≤ 1099511627776) :
    Calls Tryd.prog 19 #[v, .int .i64 k] w fun e w' => e = .returned (.int .i64 ((k + Ed.mces l : Nat) : Int)) ∧ Below w.heap.size w w' := by
  obtain ⟨a, cap, rfl, h3, h4, h6⟩ := h
  rw [emarkeds_len] at h3
  have HE := Lib.hid (emarkeds_len l k)
  rw [emarkeds_len]
  have H6 := Lib.hid h6
  have HK := Lib.hid hk
  have HTL := Lib.hid (emces_take_le l)
  clear h6 hk
  go_enter Tryd.func19, Tryd.ntmps19
  go_wp2_with fail
  go_loopw [1, 5] (fun a i wr => ∃ j : Nat, j ≤ l.length ∧ a = .int .i64 ((k + Ed.mces (l.take j) : Nat) : Int) ∧ i = .int .i64 j ∧ Hid (Below w.heap.size w wr)) (fun _ i _ => l.length - (intOf i).toNat)
  case atStart => exact ⟨0, Nat.zero_le _, by simp [Ed.mces], rfl, Below.refl _ _⟩
  case round =>
    obtain ⟨j, hj, rfl, rfl, HB⟩ := hrel
    by_cases hlt : j < l.length
    · obtain ⟨q0, hq⟩ : ∃ q, q = k + Ed.mces (l.take j) := ⟨_, rfl⟩
      have hb13 : q0 + l[j].mce ≤ 1099511627776 := by rw [hq]; have h1 := emces_take l j hlt; have h2 := HTL.out (j + 1); have h3 := HK.out; omega
      obtain ⟨b, off, rfl, c0, c1, c2, c3, c4, c5, c6, c7, c8, c9, c10, c11, c12, g0, g1, g2, g3, g4, g5, g6, g7, g8, g9, g10, g11, g12, g13⟩ := IsEds.at H6.out (k := j) (by rw [HE.out]; exact hlt)
      rw [emarkeds_at l j k hlt, ← hq] at g13
      obtain ⟨⟨kd, p, pl, nm, tn, ⟨ks, sy, na, su⟩, ⟨kw, wy, wn, wu⟩⟩, ht⟩ : ∃ t, l[j] = t := ⟨_, rfl⟩
      have hTk := emces_take l j hlt
      rw [ht] at hb13 g13 hTk
      simp only [Ed.mce, Sh.mc] at hb13 hTk
      obtain ⟨q1, hq1⟩ : ∃ x, x = q0 + 1 := ⟨_, rfl⟩
      obtain ⟨q2, hq2⟩ : ∃ x, x = q1 + p.length := ⟨_, rfl⟩
      obtain ⟨q3, hq3⟩ : ∃ x, x = q2 + 1 := ⟨_, rfl⟩
      obtain ⟨q4, hq4⟩ : ∃ x, x = q3 + 1 := ⟨_, rfl⟩
      obtain ⟨q5, hq5⟩ : ∃ x, x = q4 + 1 := ⟨_, rfl⟩
      obtain ⟨q6, hq6⟩ : ∃ x, x = q5 + 1 := ⟨_, rfl⟩
      obtain ⟨q7, hq7⟩ : ∃ x, x = q6 + sy.length := ⟨_, rfl⟩
      obtain ⟨q8, hq8⟩ : ∃ x, x = q7 + na.length := ⟨_, rfl⟩
      obtain ⟨q9, hq9⟩ : ∃ x, x = q8 + Sh.mcs su := ⟨_, rfl⟩
      obtain ⟨q10, hq10⟩ : ∃ x, x = q9 + 1 := ⟨_, rfl⟩
      obtain ⟨q11, hq11⟩ : ∃ x, x = q10 + wy.length := ⟨_, rfl⟩
      obtain ⟨q12, hq12⟩ : ∃ x, x = q11 + wn.length := ⟨_, rfl⟩
      obtain ⟨q13, hq13⟩ : ∃ x, x = q12 + Sh.mcs wu := ⟨_, rfl⟩
      have HEND : Hid (k + Ed.mces (l.take (j + 1)) = q13) := by show _ = _; omega
      rw [em_is hq1 hq2 hq3 hq4 hq5 hq6 hq7 hq8 hq9 hq10 hq11 hq12] at g13
      rw [← hq]
      have bq0 : q0 ≤ 1099511627776 := by omega
      have bq1 : q1 ≤ 1099511627776 := by omega
      have bq2 : q2 ≤ 1099511627776 := by omega
      have bq3 : q3 ≤ 1099511627776 := by omega
      have bq4 : q4 ≤ 1099511627776 := by omega
      have bq5 : q5 ≤ 1099511627776 := by omega
      have bq6 : q6 ≤ 1099511627776 := by omega
      have bq7 : q7 ≤ 1099511627776 := by omega
      have bq8 : q8 ≤ 1099511627776 := by omega
      have bq9 : q9 ≤ 1099511627776 := by omega
      have bq10 : q10 ≤ 1099511627776 := by omega
      have bq11 : q11 ≤ 1099511627776 := by omega
      have bq12 : q12 ≤ 1099511627776 := by omega
      have bq13 : q13 ≤ 1099511627776 := by omega
      have z2 : 0 ≤ ((q2 : Nat) : Int) := by omega
      have z7 : 0 ≤ ((q7 : Nat) : Int) := by omega
      have z8 : 0 ≤ ((q8 : Nat) : Int) := by omega
      have z9 : 0 ≤ ((q9 : Nat) : Int) := by omega
      have z11 : 0 ≤ ((q11 : Nat) : Int) := by omega
      have z12 : 0 ≤ ((q12 : Nat) : Int) := by omega
      have z13 : 0 ≤ ((q13 : Nat) : Int) := by omega
      have Hq1 := Lib.hid hq1
      have Hq2 := Lib.hid hq2
      have Hq3 := Lib.hid hq3
      have Hq4 := Lib.hid hq4
      have Hq5 := Lib.hid hq5
      have Hq6 := Lib.hid hq6
      have Hq7 := Lib.hid hq7
      have Hq8 := Lib.hid hq8
      have Hq9 := Lib.hid hq9
      have Hq10 := Lib.hid hq10
      have Hq11 := Lib.hid hq11
      have Hq12 := Lib.hid hq12
      have Hq13 := Lib.hid hq13
      have e1 : ((q0 : Nat) : Int) + 1 = ((q1 : Nat) : Int) := by omega
      have E1 := Lib.hid e1
      have e3 : ((q2 : Nat) : Int) + 1 = ((q3 : Nat) : Int) := by omega
      have E3 := Lib.hid e3
      have e4 : ((q3 : Nat) : Int) + 1 = ((q4 : Nat) : Int) := by omega
      have E4 := Lib.hid e4
      have e5 : ((q4 : Nat) : Int) + 1 = ((q5 : Nat) : Int) := by omega
      have E5 := Lib.hid e5
      have e6 : ((q5 : Nat) : Int) + 1 = ((q6 : Nat) : Int) := by omega
      have E6 := Lib.hid e6
      have e10 : ((q9 : Nat) : Int) + 1 = ((q10 : Nat) : Int) := by omega
      have E10 := Lib.hid e10
      clear hb13 hTk hq ht hq1 hq2 hq3 hq4 hq5 hq6 hq7 hq8 hq9 hq10 hq11 hq12 hq13 e1 e3 e4 e5 e6 e10
      obtain ⟨p0, m0, p1, n1, m1, p2, n2, m2, p3, n3, m3, r1, i1, j1, r2, i2, j2, r3, i3, j3, he, _, _, _, _, s5, s6, s7⟩ := g13
      simp only [Value.agg.injEq, Array.mk.injEq, List.cons.injEq, and_true] at he
      obtain ⟨rfl, rfl, rfl, rfl, rfl, rfl, rfl, rfl, rfl, rfl, rfl, rfl, rfl⟩ := he
      dsimp only [Sh.kd] at *
      rw [marksB_len] at g1 s5
      obtain ⟨v11, v12, v13, he, _, t11, t12, t13⟩ := s6.parts
      simp only [Value.agg.injEq, Array.mk.injEq, List.cons.injEq, and_true] at he
      obtain ⟨_, rfl, rfl, rfl⟩ := he
      obtain ⟨v21, v22, v23, he, _, t21, t22, t23⟩ := s7.parts
      simp only [Value.agg.injEq, Array.mk.injEq, List.cons.injEq, and_true] at he
      obtain ⟨_, rfl, rfl, rfl⟩ := he
      have CP := Lib.hid (fun (w' : World) (hb : Below w.heap.size w w') => heldStrs_any w' _ p.length q1 (s5.keep (Keeps.of_below hb)) (by have := Hq2.out; omega))
      rw [← Hq2.out] at CP
      have CS1 := Lib.hid (fun (w' : World) (hb : Below w.heap.size w w') => heldStrs_any w' _ sy.length q6 (t11.keep (Keeps.of_below hb)) (by have := Hq7.out; omega))
      rw [← Hq7.out] at CS1
      have CS2 := Lib.hid (fun (w' : World) (hb : Below w.heap.size w w') => heldStrs_any w' _ na.length q7 (t12.keep (Keeps.of_below hb)) (by have := Hq8.out; omega))
      rw [← Hq8.out] at CS2
      have CW1 := Lib.hid (fun (w' : World) (hb : Below w.heap.size w w') => heldStrs_any w' _ wy.length q10 (t21.keep (Keeps.of_below hb)) (by have := Hq11.out; omega))
      rw [← Hq11.out] at CW1
      have CW2 := Lib.hid (fun (w' : World) (hb : Below w.heap.size w w') => heldStrs_any w' _ wn.length q11 (t22.keep (Keeps.of_below hb)) (by have := Hq12.out; omega))
      rw [← Hq12.out] at CW2
      have CS3 := Lib.hid (fun (w' : World) (hb : Below w.heap.size w w') => hs_step su (fun x _ => hs_any x) w' _ q8 (t13.keep (Keeps.of_below hb)) (by have := Hq9.out; omega))
      rw [← Hq9.out] at CS3
      have CW3 := Lib.hid (fun (w' : World) (hb : Below w.heap.size w w') => hs_step wu (fun x _ => hs_any x) w' _ q12 (t23.keep (Keeps.of_below hb)) (by have := Hq13.out; omega))
      rw [← Hq13.out] at CW3
      obtain ⟨mk3, hmk3⟩ : ∃ x, x = mkT q3 := ⟨_, rfl⟩
      rw [← hmk3] at g3
      have CM3 := Lib.hid (fun (w' : World) => markText_any q3 (by omega) w')
      rw [← hmk3, ← E3.out] at CM3
      clear hmk3
      obtain ⟨mk4, hmk4⟩ : ∃ x, x = mkT q4 := ⟨_, rfl⟩
      rw [← hmk4] at g4
      have CM4 := Lib.hid (fun (w' : World) => markText_any q4 (by omega) w')
      rw [← hmk4, ← E4.out] at CM4
      clear hmk4
      rw [← E5.out] at g5
      have HC := Lib.hid (And.intro g0 (And.intro g1 (And.intro g2 (And.intro g3 (And.intro g4 (And.intro g5 (And.intro g6 (And.intro g7 (And.intro g8 (And.intro g9 (And.intro g10 (And.intro g11 g12))))))))))))
      clear g0 g1 g2 g3 g4 g5 g6 g7 g8 g9 g10 g11 g12 s5 s6 s7 t11 t12 t13 t21 t22 t23
      have y0 := Keeps.of_below HB.out _ _ _ (HC.out.1)
      have y1 := Keeps.of_below HB.out _ _ _ (HC.out.2.1)
      go_wp2_with fail
      rw [E1.out]
      refine (CP.out wr HB.out).mono ?_
      rintro e w1 ⟨rfl, hb⟩
      clear y0 y1
      have HB1 := Lib.hid (HB.out.trans (hb.mono HB.out.size))
      clear hb
      have y2 := Keeps.of_below HB1.out _ _ _ (HC.out.2.2.1)
      go_upto_region 13 with fail
      clear y2
      have HSK : Hid (∀ w', Below w1.heap.size w1 w' → w'.cell? ⟨b, off + j * 13 + 3, none⟩ = some (.string mk3)) := fun w' hb => Keeps.of_below (HB1.out.trans (hb.mono HB1.out.size)) _ _ _ (HC.out.2.2.2.1)
      go_cut [46] (fun x wc => x = .bool false ∧ Hid (Below w1.heap.size w1 wc))
      case first =>
        go_region_held3 (fun w' => w'.cell? ⟨b, off + j * 13 + 3, none⟩ = some (.string mk3))
          (first
            | with_reducible exact HSK.out _ BB.out
            | with_reducible exact HSK.out _ (Below.refl _ w1).drew)
          (first
            | (go_at_call 37; refine (CM3.out (w1.drew)).mono ?_; rintro e wm ⟨rfl, hb⟩; have BB := Lib.hid ((Below.refl w1.heap.size w1).drew.trans (show Below w1.heap.size w1.drew wm from hb)); clear hb)
            | fail)
        all_goals
          go_wp2_with fail
          go_meet
          exact ⟨rfl, BB.out⟩
      case rest =>
        obtain ⟨rfl, hb⟩ := hcut
        rename World => w2
        have hb' := hb.out
        clear hb HSK
        have HB2 := Lib.hid (HB1.out.trans (hb'.mono HB1.out.size))
        clear hb'
        rw [E3.out]
        go_upto_region 16 with fail
        have HSK : Hid (∀ w', Below w2.heap.size w2 w' → w'.cell? ⟨b, off + j * 13 + 4, none⟩ = some (.string mk4)) := fun w' hb => Keeps.of_below (HB2.out.trans (hb.mono HB2.out.size)) _ _ _ (HC.out.2.2.2.2.1)
        go_cut [56] (fun x wc => x = .bool false ∧ Hid (Below w2.heap.size w2 wc))
        case first =>
          go_region_held3 (fun w' => w'.cell? ⟨b, off + j * 13 + 4, none⟩ = some (.string mk4))
            (first
              | with_reducible exact HSK.out _ BB.out
              | with_reducible exact HSK.out _ (Below.refl _ w2).drew)
            (first
              | (go_at_call 37; refine (CM4.out (w2.drew)).mono ?_; rintro e wm ⟨rfl, hb⟩; have BB := Lib.hid ((Below.refl w2.heap.size w2).drew.trans (show Below w2.heap.size w2.drew wm from hb)); clear hb)
              | fail)
          all_goals
            go_wp2_with fail
            go_meet
            exact ⟨rfl, BB.out⟩
        case rest =>
          obtain ⟨rfl, hb⟩ := hcut
          rename World => w3
          have hb' := hb.out
          clear hb HSK
          have HB3 := Lib.hid (HB2.out.trans (hb'.mono HB2.out.size))
          clear hb'
          rw [E4.out]
          have y5 := Keeps.of_below HB3.out _ _ _ (HC.out.2.2.2.2.2.1)
          have y6 := Keeps.of_below HB3.out _ _ _ (HC.out.2.2.2.2.2.2.1)
          go_wp2_with fail
          rw [E5.out, E6.out]
          refine (CS1.out w3 HB3.out).mono ?_
          rintro e w4 ⟨rfl, hb⟩
          clear y5 y6
          have HB4 := Lib.hid (HB3.out.trans (hb.mono HB3.out.size))
          clear hb
          have y7 := Keeps.of_below HB4.out _ _ _ (HC.out.2.2.2.2.2.2.2.1)
          go_wp2_with fail
          refine (CS2.out w4 HB4.out).mono ?_
          rintro e w5 ⟨rfl, hb⟩
          clear y7
          have HB5 := Lib.hid (HB4.out.trans (hb.mono HB4.out.size))
          clear hb
          have y8 := Keeps.of_below HB5.out _ _ _ (HC.out.2.2.2.2.2.2.2.2.1)
          go_wp2_with fail
          refine (CS3.out w5 HB5.out).mono ?_
          rintro e w6 ⟨rfl, hb⟩
          clear y8
          have HB6 := Lib.hid (HB5.out.trans (hb.mono HB5.out.size))
          clear hb
          have y9 := Keeps.of_below HB6.out _ _ _ (HC.out.2.2.2.2.2.2.2.2.2.1)
          have y10 := Keeps.of_below HB6.out _ _ _ (HC.out.2.2.2.2.2.2.2.2.2.2.1)
          go_wp2_with fail
          rw [E10.out]
          refine (CW1.out w6 HB6.out).mono ?_
          rintro e w7 ⟨rfl, hb⟩
          clear y9 y10
          have HB7 := Lib.hid (HB6.out.trans (hb.mono HB6.out.size))
          clear hb
          have y11 := Keeps.of_below HB7.out _ _ _ (HC.out.2.2.2.2.2.2.2.2.2.2.2.1)
          go_wp2_with fail
          refine (CW2.out w7 HB7.out).mono ?_
          rintro e w8 ⟨rfl, hb⟩
          clear y11
          have HB8 := Lib.hid (HB7.out.trans (hb.mono HB7.out.size))
          clear hb
          have y12 := Keeps.of_below HB8.out _ _ _ (HC.out.2.2.2.2.2.2.2.2.2.2.2.2)
          go_wp2_with fail
          refine (CW3.out w8 HB8.out).mono ?_
          rintro e w9 ⟨rfl, hb⟩
          clear y12
          have HB9 := Lib.hid (HB8.out.trans (hb.mono HB8.out.size))
          clear hb
          go_wp2_with fail
          go_roundw
          case rel => exact ⟨j + 1, hlt, by rw [HEND.out], by go_num, HB9.out⟩
          case measure => simp [intOf]; omega
    · obtain rfl : j = l.length := by omega
      rw [List.take_length]
      go_wp2_with fail
      go_ret
      exact ⟨rfl, HB.out⟩
end Go.Proofs.YtfdhmkmeffgkgaaDoor
