/- Walks: laws.heldStringS. · Walks: laws.markShapeS, laws.markShape: marks put into the shapes of the law's own. -/
import Derived.Test.YtfdhmkmeffgkgaaDoorGMarkTW
namespace Go.Proofs.YtfdhmkmeffgkgaaDoor
open Go.RowKit

set_option maxRecDepth 100000 in
set_option maxHeartbeats 1000000 in
/-- The marks are there. -/
theorem heldStrs_any (w : World) (v : Value) (n k : Nat) (h : IsStrs w v (marksB k n)) (hk : k + n ≤ 1099511627776) :
    Calls Tryd.prog 34 #[v, .int .i64 k] w fun e w' => e = .returned (.int .i64 ((k + n : Nat) : Int)) ∧ Below w.heap.size w w' := by
  obtain ⟨h1, h2, a, cap, rfl, h3, h4, h6⟩ := h
  rw [marksB_len] at *
  have H6 := Lib.hid h6
  clear h6 h2
  go_enter Tryd.func34, Tryd.ntmps34
  go_wp2_with fail
  go_loopw [1, 5] (fun a i wr => ∃ j : Nat, j ≤ n ∧ a = .int .i64 ((k + j : Nat) : Int) ∧ i = .int .i64 j ∧ Hid (Below w.heap.size w wr)) (fun _ i _ => n - (intOf i).toNat)
  case atStart => exact ⟨0, Nat.zero_le _, rfl, rfl, Below.refl _ _⟩
  case round =>
    obtain ⟨j, hj, rfl, rfl, HB⟩ := hrel
    by_cases hlt : j < n
    · obtain ⟨b, off, rfl, hc⟩ := IsStrs.at H6.out (k := j) (by rw [marksB_len]; exact hlt)
      rw [marksB_at k n j hlt] at hc
      have g0 := Keeps.of_below HB.out _ _ _ hc
      have hbz : b < wr.heap.size := World.block_lt_of_cell? wr ⟨b, off + j, none⟩ g0
      obtain ⟨mk, hmk⟩ : ∃ mk, mk = mkT (k + j) := ⟨_, rfl⟩
      rw [← hmk] at g0 hc
      have HC := Lib.hid hc
      have HM := Lib.hid (markText_any (k + j) (by omega))
      rw [← hmk] at HM
      clear hc hmk
      go_wp2_with fail
      go_region_with (go_at_call 37; refine (HM.out _).mono ?_; rintro e w1 ⟨rfl, hb1⟩; have HB1 := Lib.hid (HB.out.drew.trans (hb1.mono HB.out.size)); have hq1 := Keeps.of_below HB1.out _ _ _ HC.out; clear hb1)
      all_goals
        go_wp2_with fail
        go_roundw
        case rel => exact ⟨j + 1, hlt, by go_num, by go_num, HB1.out⟩
        case measure => simp [intOf]; omega
    · obtain rfl : j = n := by omega
      go_wp2_with fail
      go_ret
      exact ⟨rfl, HB.out⟩
end Go.Proofs.YtfdhmkmeffgkgaaDoor
namespace Go.Proofs.YtfdhmkmeffgkgaaDoor
open Go.RowKit

mutual
/-- How many marks go into a shape of a list. -/
def Sh.mc : Sh → Nat
  | .mk _ sy na su => 1 + sy.length + na.length + Sh.mcs su
def Sh.mcs : List Sh → Nat
  | [] => 0
  | x :: l => Sh.mc x + Sh.mcs l
end
mutual
/-- A shape with marks, from k on. -/
def Sh.marked : Sh → Nat → Sh
  | .mk _ sy na su, k => .mk k (marksB (k + 1) sy.length) (marksB (k + 1 + sy.length) na.length) (Sh.markeds su (k + 1 + sy.length + na.length))
def Sh.markeds : List Sh → Nat → List Sh
  | [], _ => []
  | x :: l, k => Sh.marked x k :: Sh.markeds l (k + Sh.mc x)
end
theorem smarkeds_len : ∀ (l : List Sh) (k : Nat), (Sh.markeds l k).length = l.length
  | [], _ => by simp [Sh.markeds]
  | x :: l, k => by simp [Sh.markeds, smarkeds_len l]
theorem smcs_take : ∀ (l : List Sh) (j : Nat) (h : j < l.length), Sh.mcs (l.take (j + 1)) = Sh.mcs (l.take j) + l[j].mc
  | [], _, h => by cases h
  | x :: l, 0, _ => by simp [Sh.mcs]
  | x :: l, j + 1, h => by
    have := smcs_take l j (by simpa using h)
    simp only [List.take_succ_cons, Sh.mcs, List.getElem_cons_succ] at this ⊢
    omega
theorem smcs_take_le : ∀ (l : List Sh) (j : Nat), Sh.mcs (l.take j) ≤ Sh.mcs l
  | [], _ => by simp [Sh.mcs]
  | x :: l, 0 => by simp [Sh.mcs]
  | x :: l, j + 1 => by
    have := smcs_take_le l j
    simp only [List.take_succ_cons, Sh.mcs]; omega
theorem smarkeds_take : ∀ (l : List Sh) (j k : Nat) (h : j < l.length), Sh.markeds (l.take (j + 1)) k = Sh.markeds (l.take j) k ++ [Sh.marked l[j] (k + Sh.mcs (l.take j))]
  | [], _, _, h => by cases h
  | x :: l, 0, k, _ => by simp [Sh.markeds, Sh.mcs]
  | x :: l, j + 1, k, h => by
    have := smarkeds_take l j (k + x.mc) (by simpa using h)
    simp only [List.take_succ_cons, Sh.markeds, Sh.mcs, List.getElem_cons_succ, List.cons_append] at this ⊢
    rw [this, Nat.add_assoc]

def MarkShPost (w : World) (base : Nat) (v : Value) (l : List Sh) (F : List Nat) (k : Nat) (e : Ending) (w' : World) : Prop :=
  ∃ cs', e = .returned (.int .i64 ((k + Sh.mcs l : Nat) : Int)) ∧ w'.ownsRow base 31 4 v l.length cs' ∧ OwnAll w' base (Sh.markeds l k) cs' F ∧ Only (blkOf v ++ F) w w'
/-- markShapeS's contract at one list. -/
def MsAt (l : List Sh) : Prop := ∀ (w : World) (base : Nat) (v : Value) (cs : List Value) (F : List Nat) (k : Nat), w.ownsRow base 31 4 v l.length cs → OwnAll w base l cs F → (blkOf v ++ F).Nodup → k + Sh.mcs l ≤ 1099511627776 →
  Calls Tryd.prog 38 #[v, .int .i64 k] w (MarkShPost w base v l F k)

theorem sset_at {cs : List Value} {c u : Value} {r : List Value} {p : Nat} (h : cs.length = p) : (cs ++ c :: r).set p u = cs ++ u :: r := by
  subst h; rw [List.set_append_right _ _ (Nat.le_refl _), Nat.sub_self, List.set_cons_zero]
theorem OwnAll.cons {w : World} {base : Nat} {x : Sh} {l : List Sh} {cs : List Value} {F : List Nat} (h : OwnAll w base (x :: l) cs F) : ∃ c0 c1 c2 c3 cs' F1 F2, cs = c0 :: c1 :: c2 :: c3 :: cs' ∧ OwnSh w base x (.agg #[c0, c1, c2, c3]) F1 ∧ OwnAll w base l cs' F2 ∧ F = F1 ++ F2 := by
  simpa only [OwnAll] using h
/-- The state at a round's head. -/
def MsInv (w wr : World) (base g cap : Nat) (l : List Sh) (F : List Nat) (k j : Nat) : Prop :=
  ∃ cs1 cs2 F1 F2, F = F1 ++ F2 ∧ wr.ownsRow base 31 4 (.slice (some ⟨g, 0, none⟩) l.length cap) l.length (cs1 ++ cs2) ∧ OwnAll wr base (Sh.markeds (l.take j) k) cs1 F1 ∧ OwnAll wr base (l.drop j) cs2 F2 ∧ Only (g :: F) w wr

/-- Within a round: what stands where. -/
def MsMid (w W : World) (base g cap : Nat) (l : List Sh) (F : List Nat) (k j q : Nat) (cs1 cs2' : List Value) (F1 F2' : List Nat) (vs vn vp : Value) (sy na : List ByteArray) (su : List Sh) (csx : List Value) (Fs : List Nat) : Prop :=
  W.ownsRow base 31 4 (.slice (some ⟨g, 0, none⟩) l.length cap) l.length (cs1 ++ .int .i64 q :: vs :: vn :: vp :: cs2') ∧ OwnAll W base (Sh.markeds (l.take j) k) cs1 F1 ∧ OwnAll W base (l.drop (j + 1)) cs2' F2' ∧
    OwnStrs W base vs sy ∧ OwnStrs W base vn na ∧ W.ownsRow base 31 4 vp su.length csx ∧ OwnAll W base su csx Fs ∧ Only (g :: F) w W ∧
    F = F1 ++ ((blkOf vs ++ (blkOf vn ++ (blkOf vp ++ Fs))) ++ F2') ∧ cs1.length = j * 4 ∧ (g :: F).Nodup

theorem strs_move {W W' : World} {base : Nat} {v : Value} {l : List ByteArray} (h : OwnStrs W base v l) (e : ∀ g ∈ blkOf v, W'.heap[g]? = W.heap[g]?) : OwnStrs W' base v l := ⟨h.1, own_block h.2 e⟩
/-- The blocks are apart. -/
theorem ms_apart {g : Nat} {F F1 F2 a b c d : List Nat} (hF : F = F1 ++ ((a ++ (b ++ (c ++ d))) ++ F2)) (h : (g :: F).Nodup) :
    (∀ x ∈ a, x ≠ g ∧ x ∉ F1 ∧ x ∉ b ∧ x ∉ c ∧ x ∉ d ∧ x ∉ F2) ∧ (∀ x ∈ b, x ≠ g ∧ x ∉ F1 ∧ x ∉ a ∧ x ∉ c ∧ x ∉ d ∧ x ∉ F2) ∧ (∀ x ∈ c ++ d, x ≠ g ∧ x ∉ F1 ∧ x ∉ a ∧ x ∉ b ∧ x ∉ F2) ∧ (∀ x ∈ F, x ≠ g) ∧ (c ++ d).Nodup := by
  subst hF
  simp only [List.nodup_cons, List.nodup_append, List.mem_append, not_or] at h
  refine ⟨?_, ?_, ?_, ?_, ?_⟩
  · grind
  · grind
  · grind
  · grind
  · rw [List.nodup_append]; grind

theorem ms_mid0 {w wr : World} {base g cap j k q : Nat} {l : List Sh} {F F1 F2' Fs : List Nat} {cs1 cs2' csx : List Value} {c0 vs vn vp : Value} {sy na : List ByteArray} {su : List Sh}
    (h1 : wr.ownsRow base 31 4 (.slice (some ⟨g, 0, none⟩) l.length cap) l.length (cs1 ++ c0 :: vs :: vn :: vp :: cs2')) (h2 : OwnAll wr base (Sh.markeds (l.take j) k) cs1 F1) (h3 : OwnAll wr base (l.drop (j + 1)) cs2' F2')
    (h4 : OwnStrs wr base vs sy) (h5 : OwnStrs wr base vn na) (h6 : wr.ownsRow base 31 4 vp su.length csx) (h7 : OwnAll wr base su csx Fs) (h8 : Only (g :: F) w wr)
    (hF : F = F1 ++ ((blkOf vs ++ (blkOf vn ++ (blkOf vp ++ Fs))) ++ F2')) (hcl : cs1.length = j * 4) (hnd : (g :: F).Nodup) :
    MsMid w (wr.setCell ⟨g, j * 4, none⟩ (.int .i64 q)) base g cap l F k j q cs1 cs2' F1 F2' vs vn vp sy na su csx Fs := by
  obtain ⟨a1, a2, a3, a4, _⟩ := ms_apart hF hnd
  have e : ∀ x, x ∈ F → (wr.setCell ⟨g, j * 4, none⟩ (.int .i64 q)).heap[x]? = wr.heap[x]? := fun x hx => Below.heap_setCell _ _ _ _ (a4 x hx)
  have hr := (World.ownsRow.stored h1 (j * 4) (.int .i64 q)).1
  rw [sset_at hcl] at hr
  exact ⟨hr, h2.move (Nat.le_refl _) fun x hx => e x (by simp [hF, hx]), h3.move (Nat.le_refl _) fun x hx => e x (by simp [hF, hx]), strs_move h4 fun x hx => e x (by simp [hF, hx]), strs_move h5 fun x hx => e x (by simp [hF, hx]),
    own_block h6 fun x hx => e x (by simp [hF, hx]), h7.move (Nat.le_refl _) fun x hx => e x (by simp [hF, hx]), h8.set (by simp) _ _, hF, hcl, hnd⟩

theorem ms_strs1 {w W W' : World} {base g cap j k q : Nat} {l : List Sh} {F F1 F2' Fs : List Nat} {cs1 cs2' csx : List Value} {vs vn vp : Value} {sy sy' na : List ByteArray} {su : List Sh}
    (h : MsMid w W base g cap l F k j q cs1 cs2' F1 F2' vs vn vp sy na su csx Fs) (ho : Only (blkOf vs) W W') (hs : OwnStrs W' base vs sy') : MsMid w W' base g cap l F k j q cs1 cs2' F1 F2' vs vn vp sy' na su csx Fs := by
  obtain ⟨h1, h2, h3, h4, h5, h6, h7, h8, hF, hcl, hnd⟩ := h
  obtain ⟨a1, a2, a3, a4, _⟩ := ms_apart hF hnd
  refine ⟨own_block h1 fun x hx => ho.block x (blkOf_own h1 x hx).2 fun hb => ?_, h2.move (Nat.le_refl _) fun x hx => ho.block x (h2.lt x hx).2 fun hb => ?_, h3.move (Nat.le_refl _) fun x hx => ho.block x (h3.lt x hx).2 fun hb => ?_, hs,
    strs_move h5 fun x hx => ho.block x (blkOf_own h5.2 x hx).2 fun hb => ?_, own_block h6 fun x hx => ho.block x (blkOf_own h6 x hx).2 fun hb => ?_, h7.move (Nat.le_refl _) fun x hx => ho.block x (h7.lt x hx).2 fun hb => ?_, h8.trans (ho.mono fun x hx => by simp [hF, hx]), hF, hcl, hnd⟩
  · simp [blkOf] at hx
    exact (a1 x hb).1 hx
  · exact (a1 x hb).2.1 hx
  · exact (a1 x hb).2.2.2.2.2 hx
  · exact (a1 x hb).2.2.1 hx
  · exact (a1 x hb).2.2.2.1 hx
  · exact (a1 x hb).2.2.2.2.1 hx
theorem ms_strs2 {w W W' : World} {base g cap j k q : Nat} {l : List Sh} {F F1 F2' Fs : List Nat} {cs1 cs2' csx : List Value} {vs vn vp : Value} {sy na na' : List ByteArray} {su : List Sh}
    (h : MsMid w W base g cap l F k j q cs1 cs2' F1 F2' vs vn vp sy na su csx Fs) (ho : Only (blkOf vn) W W') (hs : OwnStrs W' base vn na') : MsMid w W' base g cap l F k j q cs1 cs2' F1 F2' vs vn vp sy na' su csx Fs := by
  obtain ⟨h1, h2, h3, h4, h5, h6, h7, h8, hF, hcl, hnd⟩ := h
  obtain ⟨a1, a2, a3, a4, _⟩ := ms_apart hF hnd
  refine ⟨own_block h1 fun x hx => ho.block x (blkOf_own h1 x hx).2 fun hb => ?_, h2.move (Nat.le_refl _) fun x hx => ho.block x (h2.lt x hx).2 fun hb => ?_, h3.move (Nat.le_refl _) fun x hx => ho.block x (h3.lt x hx).2 fun hb => ?_, strs_move h4 fun x hx => ho.block x (blkOf_own h4.2 x hx).2 fun hb => ?_,
    hs, own_block h6 fun x hx => ho.block x (blkOf_own h6 x hx).2 fun hb => ?_, h7.move (Nat.le_refl _) fun x hx => ho.block x (h7.lt x hx).2 fun hb => ?_, h8.trans (ho.mono fun x hx => by simp [hF, hx]), hF, hcl, hnd⟩
  · simp [blkOf] at hx
    exact (a2 x hb).1 hx
  · exact (a2 x hb).2.1 hx
  · exact (a2 x hb).2.2.2.2.2 hx
  · exact (a2 x hb).2.2.1 hx
  · exact (a2 x hb).2.2.2.1 hx
  · exact (a2 x hb).2.2.2.2.1 hx

theorem ms_end {w W w3 : World} {base g cap j k q : Nat} {l : List Sh} {F F1 F2' Fs : List Nat} {cs1 cs2' csx : List Value} {vs vn vp : Value} {sy na : List ByteArray} {su : List Sh} {kx : Int} {e : Ending}
    (h : MsMid w W base g cap l F k j q cs1 cs2' F1 F2' vs vn vp (marksB (q + 1) sy.length) (marksB (q + 1 + sy.length) na.length) su csx Fs) (hj : j < l.length) (hx : Sh.mk kx sy na su = l[j]) (hq : q = k + Sh.mcs (l.take j)) (hqb : q + (Sh.mk kx sy na su).mc ≤ 1099511627776)
    (hm : MarkShPost W base vp su Fs (q + 1 + sy.length + na.length) e w3) : e = .returned (.int .i64 ((k + Sh.mcs (l.take (j + 1)) : Nat) : Int)) ∧ MsInv w w3 base g cap l F k (j + 1) := by
  obtain ⟨h1, h2, h3, h4, h5, h6, h7, h8, hF, hcl, hnd⟩ := h
  obtain ⟨csx', rfl, m1, m2, m3⟩ := hm
  obtain ⟨a1, a2, a3, a4, _⟩ := ms_apart hF hnd
  have hmc : (Sh.mk kx sy na su).mc = 1 + sy.length + na.length + Sh.mcs su := by simp only [Sh.mc]
  refine ⟨?_, ?_⟩
  · have : k + Sh.mcs (l.take (j + 1)) = q + 1 + sy.length + na.length + Sh.mcs su := by rw [smcs_take l j hj, ← hx, hmc, hq]; omega
    rw [this]
  · refine ⟨cs1 ++ [.int .i64 q, vs, vn, vp], cs2', F1 ++ (blkOf vs ++ (blkOf vn ++ (blkOf vp ++ Fs))), F2', by rw [hF]; simp, ?_, ?_, ?_, ?_⟩
    · rw [List.append_assoc]
      refine own_block h1 fun x hx => m3.block x (blkOf_own h1 x hx).2 fun hb => ?_
      simp [blkOf] at hx
      exact (a3 x hb).1 hx
    · rw [smarkeds_take l j k hj, ← hq, ← hx]
      refine OwnAll.snoc (h2.move (Nat.le_refl _) fun x hxx => m3.block x (h2.lt x hxx).2 fun hb => (a3 x hb).2.1 hxx) ?_
      simp only [Sh.marked, OwnSh]
      refine ⟨vs, vn, vp, csx', Fs, rfl, by unfold InI64'; omega, strs_move h4 fun x hxx => m3.block x (blkOf_own h4.2 x hxx).2 fun hb => (a3 x hb).2.2.1 hxx, strs_move h5 fun x hxx => m3.block x (blkOf_own h5.2 x hxx).2 fun hb => (a3 x hb).2.2.2.1 hxx, ?_, m2, rfl⟩
      rw [smarkeds_len]; exact m1
    · exact h3.move (Nat.le_refl _) fun x hxx => m3.block x (h3.lt x hxx).2 fun hb => (a3 x hb).2.2.2.2 hxx
    · exact h8.trans (m3.mono fun x hx => by
        rcases List.mem_append.1 hx with hx | hx <;> simp [hF, hx])

set_option maxRecDepth 100000 in
set_option maxHeartbeats 2000000 in
theorem ms_step (l : List Sh) (ih : ∀ x ∈ l, MsAt x.su) : MsAt l := by
  intro w base v cs F k hown hall hnd hk
  have h' := hown
  obtain ⟨hl, hr⟩ := h'
  rcases hr with ⟨rfl, h0⟩ | ⟨g, cap, cur, rfl, hb, hg, hn, hc, hsz, ht⟩
  · obtain rfl : l = [] := List.eq_nil_of_length_eq_zero h0
    have HN : Hid (MarkShPost w base (.slice none 0 0) [] F k (.returned (.int .i64 k)) w) := by
      refine ⟨cs, by simp [Sh.mcs], hown, ?_, Only.refl _ _⟩
      simpa only [Sh.markeds] using hall
    clear hown hall hl ih hnd hk
    go_enter Tryd.func38, Tryd.ntmps38
    go_wp2_with fail
    go_loopw [1, 5] (fun a i wr => a = .int .i64 k ∧ i = .int .i64 ((0 : Nat) : Int) ∧ wr = w) (fun _ _ _ => 0)
    case atStart => exact ⟨rfl, rfl, rfl⟩
    case round =>
      obtain ⟨rfl, rfl, rfl⟩ := hrel
      go_wp2_with fail
      go_ret
      exact HN.out
  · unfold maxLen at hc
    have H0 : Hid (MsInv w w base g cap l F k 0) := ⟨[], cs, [], F, rfl, hown, by simp [Sh.markeds, OwnAll], hall, Only.refl _ _⟩
    have IH := Lib.hid ih
    have HND := Lib.hid hnd
    have HK := Lib.hid hk
    have HTL := Lib.hid (smcs_take_le l)
    clear hown hall hl hg ht hsz ih hnd hk
    go_enter Tryd.func38, Tryd.ntmps38
    go_wp2_with fail
    go_loopw [1, 5] (fun a i wr => ∃ j : Nat, j ≤ l.length ∧ a = .int .i64 ((k + Sh.mcs (l.take j) : Nat) : Int) ∧ i = .int .i64 j ∧ Hid (MsInv w wr base g cap l F k j)) (fun _ i _ => l.length - (intOf i).toNat)
    case atStart => exact ⟨0, Nat.zero_le _, by simp [Sh.mcs], rfl, H0.out⟩
    case round =>
      obtain ⟨j, hj, rfl, rfl, HI⟩ := hrel
      by_cases hlt : j < l.length
      · obtain ⟨q, hq⟩ : ∃ q, q = k + Sh.mcs (l.take j) := ⟨_, rfl⟩
        have HQ := Lib.hid hq
        have HQ2 : Hid (q + l[j].mc ≤ 1099511627776) := by show _ ≤ _; rw [hq]; have h1 := smcs_take l j hlt; have h2 := HTL.out (j + 1); have h3 := HK.out; omega
        rw [← hq]
        obtain ⟨cs1, cs2, F1, F2, hF, ho, ha1, ha2, hon⟩ := HI.out
        rw [List.drop_eq_getElem_cons hlt] at ha2
        obtain ⟨c0, c1, c2, c3, cs2', Fx, F2', rfl, hx, ha2', rfl⟩ := ha2.cons
        have hcl : cs1.length = j * 4 := by have := ha1.len; rw [smarkeds_len, List.length_take] at this; rw [Nat.min_eq_left (by omega)] at this; exact this
        obtain ⟨x, hxe⟩ : ∃ x, x = l[j] := ⟨_, rfl⟩
        rw [← hxe] at hx HQ2
        cases x with | mk kx sy na su =>
        obtain ⟨vs, vn, vp, csx, Fs, hv, _, h4, h5, hrow, hall, rfl⟩ := hx.parts
        simp only [Value.agg.injEq, Array.mk.injEq, List.cons.injEq, and_true] at hv
        obtain ⟨rfl, rfl, rfl, rfl⟩ := hv
        have e0 := own_cell ho (j := j * 4) (by rw [List.length_append]; simp; omega)
        obtain ⟨y0, g0⟩ : ∃ y, wr.cell? ⟨g, j * 4, none⟩ = some y := ⟨_, e0.1⟩
        have z0 := e0.2.1
        have hgz := e0.2.2.1
        have hcap := e0.2.2.2.2
        have hqm := HQ2.out
        simp only [Sh.mc] at hqm
        have M0 := Lib.hid (ms_mid0 (q := q) ho ha1 ha2' h4 h5 hrow hall hon hF hcl HND.out)
        obtain ⟨ps, ns, ms, rfl⟩ := h4.is.slice
        obtain ⟨pn, nn, mn, rfl⟩ := h5.is.slice
        obtain ⟨p3, n3, m3, rfl⟩ : ∃ p n m, c3 = .slice p n m := by
          rcases hrow.2 with ⟨rfl, _⟩ | ⟨gx, capx, curx, rfl, _⟩ <;> exact ⟨_, _, _, rfl⟩
        obtain ⟨W0, hW0⟩ : ∃ W0, W0 = wr.setCell ⟨g, j * 4, none⟩ (.int .i64 q) := ⟨_, rfl⟩
        have HW0 := Lib.hid hW0
        rw [← hW0] at M0
        have HXE := Lib.hid hxe
        have hk4 : ∀ (W : World) sy' na' csx', MsMid w W base g cap l F k j q cs1 cs2' F1 F2' (.slice ps ns ms) (.slice pn nn mn) (.slice p3 n3 m3) sy' na' su csx' Fs →
            W.cell? ⟨g, j * 4 + 1, none⟩ = some (.slice ps ns ms) ∧ W.cell? ⟨g, j * 4 + 2, none⟩ = some (.slice pn nn mn) ∧ W.cell? ⟨g, j * 4 + 3, none⟩ = some (.slice p3 n3 m3) ∧ g < W.heap.size := by
          intro W sy' na' csx' hM
          have hr := hM.1
          have hc := hM.2.2.2.2.2.2.2.2.2.1
          have e1 := own_cell hr (j := j * 4 + 1) (by rw [List.length_append, hc]; simp)
          have e2 := own_cell hr (j := j * 4 + 2) (by rw [List.length_append, hc]; simp)
          have e3 := own_cell hr (j := j * 4 + 3) (by rw [List.length_append, hc]; simp)
          refine ⟨?_, ?_, ?_, e1.2.2.1⟩
          · rw [e1.1]; congr 1; rw [List.getElem_append_right (by omega)]; simp [hc]
          · rw [e2.1]; congr 1; rw [List.getElem_append_right (by omega)]; simp [hc]
          · rw [e3.1]; congr 1; rw [List.getElem_append_right (by omega)]; simp [hc]
        have HK4 := Lib.hid hk4
        obtain ⟨b1, b2, b3, bz⟩ := hk4 _ _ _ _ M0.out
        clear e0 ho ha1 ha2' hrow hall hon hx hF hcl hxe hq h4 h5 hk4
        rw [hW0] at b1 b2 b3 bz
        clear hW0
        go_wp2_with fail
        rw [← HW0.out, show ((q : Int) + 1) = ((q + 1 : Nat) : Int) by omega]
        refine (markStrs_any W0 base _ sy (q + 1) M0.out.2.2.2.1 (by omega)).mono ?_
        rintro e w1 ⟨rfl, hs1, hy1⟩
        have M1 := Lib.hid (ms_strs1 M0.out hy1 hs1)
        clear hs1 hy1 b1 b2 b3 bz g0 z0 hgz
        obtain ⟨b1, b2, b3, bz⟩ := HK4.out _ _ _ _ M1.out
        obtain ⟨q1, hq1⟩ : ∃ q1, q1 = q + 1 + sy.length := ⟨_, rfl⟩
        rw [← hq1]
        have HQ1 := Lib.hid hq1
        clear hq1
        go_wp2_with fail
        refine (markStrs_any w1 base _ na q1 M1.out.2.2.2.2.1 (by have := HQ1.out; omega)).mono ?_
        rintro e w2 ⟨rfl, hs2, hy2⟩
        have M2 := Lib.hid (ms_strs2 M1.out hy2 hs2)
        clear hs2 hy2 b1 b2 b3 bz
        obtain ⟨b1, b2, b3, bz⟩ := HK4.out _ _ _ _ M2.out
        obtain ⟨q2, hq2⟩ : ∃ q2, q2 = q1 + na.length := ⟨_, rfl⟩
        rw [← hq2]
        have hit : l[j].su = su := by rw [← HXE.out]; rfl
        have ihx := IH.out l[j] (List.getElem_mem hlt)
        rw [hit] at ihx
        have HW := Lib.hid (ihx w2 base _ csx Fs q2 M2.out.2.2.2.2.2.1 M2.out.2.2.2.2.2.2.1 (ms_apart M2.out.2.2.2.2.2.2.2.2.1 M2.out.2.2.2.2.2.2.2.2.2.2).2.2.2.2 (by have := HQ1.out; omega))
        have HQ3 : Hid (q2 = q + 1 + sy.length + na.length) := by show _ = _; rw [hq2, HQ1.out]
        clear hq2 hit ihx
        go_wp2_with fail
        refine HW.out.mono ?_
        rintro e w3 hm
        have hM := M2.out
        rw [HQ1.out] at hM
        rw [HQ3.out] at hm
        obtain ⟨rfl, hI⟩ := ms_end hM hlt HXE.out HQ.out HQ2.out hm
        have HI2 := Lib.hid hI
        clear hM hm hI b1 b2 b3 bz
        go_wp2_with fail
        go_roundw
        case rel => exact ⟨j + 1, hlt, rfl, by go_num, HI2.out⟩
        case measure => simp [intOf]; omega
      · obtain rfl : j = l.length := by omega
        have HN : Hid (MarkShPost w base (.slice (some ⟨g, 0, none⟩) l.length cap) l F k (.returned (.int .i64 ((k + Sh.mcs l : Nat) : Int))) wr) := by
          obtain ⟨cs1, cs2, F1, F2, hF, ho, ha1, ha2, hon⟩ := HI.out
          rw [List.drop_length] at ha2
          simp only [OwnAll] at ha2
          obtain ⟨rfl, rfl⟩ := ha2
          rw [List.take_length] at ha1
          rw [List.append_nil] at ho hF
          subst hF
          exact ⟨cs1, rfl, ho, ha1, hon⟩
        rw [List.take_length]
        go_wp2_with fail
        go_ret
        exact HN.out

/-- laws.markShapeS. -/
theorem ms_any : ∀ x : Sh, MsAt x.su := Sh.ind fun _ _ _ su ih => ms_step su ih
theorem mss_any (l : List Sh) : MsAt l := ms_step l fun x _ => ms_any x

/-- What markShape leaves. -/
def MarkOnePost (w : World) (base : Nat) (k : Int) (sy na : List ByteArray) (su : List Sh) (v : Value) (F : List Nat) (q : Nat) (e : Ending) (w' : World) : Prop :=
  e = .returned (.int .i64 ((q + sy.length + na.length + Sh.mcs su : Nat) : Int)) ∧ OwnSh w' base (.mk k (marksB q sy.length) (marksB (q + sy.length) na.length) (Sh.markeds su (q + sy.length + na.length))) v F ∧ Only F w w'

theorem one_apart {a b c d : List Nat} (h : (a ++ (b ++ (c ++ d))).Nodup) : (∀ x ∈ a, x ∉ b ∧ x ∉ c ∧ x ∉ d) ∧ (∀ x ∈ b, x ∉ a ∧ x ∉ c ∧ x ∉ d) ∧ (∀ x ∈ c ++ d, x ∉ a ∧ x ∉ b) ∧ (c ++ d).Nodup := by
  simp only [List.nodup_append, List.mem_append] at h
  refine ⟨?_, ?_, ?_, ?_⟩
  · grind
  · grind
  · grind
  · rw [List.nodup_append]; grind

set_option maxRecDepth 100000 in
set_option maxHeartbeats 1000000 in
theorem markShape_any (w : World) (base : Nat) (k : Int) (sy na : List ByteArray) (su : List Sh) (v : Value) (F : List Nat) (q : Nat) (h : OwnSh w base (.mk k sy na su) v F) (hF : F.Nodup) (hq : q + sy.length + na.length + Sh.mcs su ≤ 1099511627776) :
    Calls Tryd.prog 33 #[v, .int .i64 q] w (MarkOnePost w base k sy na su v F q) := by
  obtain ⟨vs, vn, vp, cs, Fs, rfl, hk, h4, h5, h6, h7, rfl⟩ := h.parts
  obtain ⟨a1, a2, a3, a4⟩ := one_apart hF
  obtain ⟨ps, ns, ms, rfl⟩ := h4.is.slice
  obtain ⟨pn, nn, mn, rfl⟩ := h5.is.slice
  obtain ⟨p3, n3, m3, rfl⟩ : ∃ p n m, vp = .slice p n m := by
    rcases h6.2 with ⟨rfl, _⟩ | ⟨gx, capx, curx, rfl, _⟩ <;> exact ⟨_, _, _, rfl⟩
  obtain ⟨W, hW⟩ : ∃ W, W = w.alloc (.cells #[.int .i64 k, .slice ps ns ms, .slice pn nn mn, .slice p3 n3 m3] 31) := ⟨_, rfl⟩
  have hb : Below w.heap.size w W := by rw [hW]; exact below_alloc _ _
  have hX : W.heap[w.heap.size]? = some (.cells #[.int .i64 k, .slice ps ns ms, .slice pn nn mn, .slice p3 n3 m3] 31 (0, 0)) := by rw [hW]; exact Go.Deep.blk_alloc_new _ _
  have H4 := Lib.hid (strs_move (W' := W) h4 fun x hx => hb.block x (blkOf_own h4.2 x hx).2)
  have H5 := Lib.hid (strs_move (W' := W) h5 fun x hx => hb.block x (blkOf_own h5.2 x hx).2)
  have H6 := Lib.hid (own_block (w' := W) h6 fun x hx => hb.block x (blkOf_own h6 x hx).2)
  have H7 := Lib.hid (h7.move (w' := W) (Nat.le_refl _) fun x hx => hb.block x (h7.lt x hx).2)
  have N4 := Lib.hid (fun x (hx : x ∈ blkOf (.slice ps ns ms)) => (blkOf_own h4.2 x hx).2)
  have N5 := Lib.hid (fun x (hx : x ∈ blkOf (.slice pn nn mn)) => (blkOf_own h5.2 x hx).2)
  have HX := Lib.hid hX
  have HW := Lib.hid hW
  have HB := Lib.hid hb
  have HA := Lib.hid (And.intro a1 (And.intro a2 (And.intro a3 a4)))
  have HKK := Lib.hid hk
  clear h h4 h5 h6 h7 hF hX hb hW a1 a2 a3 a4 hk
  obtain ⟨b0, b1, b2, b3, _, _, _, _, bz⟩ := blk4 HX.out
  go_enter Tryd.func33, Tryd.ntmps33
  rw [HW.out] at b0 b1 b2 b3 bz
  go_wp2_with fail
  rw [← HW.out]
  refine (markStrs_any W base _ sy q H4.out (by omega)).mono ?_
  rintro e w1 ⟨rfl, hs1, hy1⟩
  have hX1 : w1.heap[w.heap.size]? = some (.cells #[.int .i64 k, .slice ps ns ms, .slice pn nn mn, .slice p3 n3 m3] 31 (0, 0)) := by
    rw [hy1.block _ (Array.getElem?_eq_some_iff.1 HX.out).1 fun hx => by have := N4.out _ hx; omega]; exact HX.out
  have HX1 := Lib.hid hX1
  have S1 := Lib.hid hs1
  have Y1 := Lib.hid hy1
  have G5 := Lib.hid (strs_move H5.out fun x hx => hy1.block x (blkOf_own H5.out.2 x hx).2 fun hb => (HA.out.1 x hb).1 hx)
  have G6 := Lib.hid (own_block H6.out fun x hx => hy1.block x (blkOf_own H6.out x hx).2 fun hb => (HA.out.1 x hb).2.1 hx)
  have G7 := Lib.hid (H7.out.move (Nat.le_refl _) fun x hx => hy1.block x (H7.out.lt x hx).2 fun hb => (HA.out.1 x hb).2.2 hx)
  clear hs1 hy1 hX1 b0 b1 b2 b3 bz
  obtain ⟨b0, b1, b2, b3, _, _, _, _, bz⟩ := blk4 HX1.out
  obtain ⟨q1, hq1⟩ : ∃ q1, q1 = q + sy.length := ⟨_, rfl⟩
  rw [← hq1]
  have HQ1 := Lib.hid hq1
  clear hq1
  go_wp2_with fail
  refine (markStrs_any w1 base _ na q1 G5.out (by have := HQ1.out; omega)).mono ?_
  rintro e w2 ⟨rfl, hs2, hy2⟩
  have hX2 : w2.heap[w.heap.size]? = some (.cells #[.int .i64 k, .slice ps ns ms, .slice pn nn mn, .slice p3 n3 m3] 31 (0, 0)) := by
    rw [hy2.block _ (Array.getElem?_eq_some_iff.1 HX1.out).1 fun hx => by have := N5.out _ hx; omega]; exact HX1.out
  have HX2 := Lib.hid hX2
  have S2 := Lib.hid (strs_move S1.out fun x hx => hy2.block x (blkOf_own S1.out.2 x hx).2 fun hb => (HA.out.2.1 x hb).1 hx)
  have T2 := Lib.hid hs2
  have Y2 := Lib.hid hy2
  have K6 := Lib.hid (own_block G6.out fun x hx => hy2.block x (blkOf_own G6.out x hx).2 fun hb => (HA.out.2.1 x hb).2.1 hx)
  have K7 := Lib.hid (G7.out.move (Nat.le_refl _) fun x hx => hy2.block x (G7.out.lt x hx).2 fun hb => (HA.out.2.1 x hb).2.2 hx)
  clear hs2 hy2 hX2 b0 b1 b2 b3 bz
  obtain ⟨b0, b1, b2, b3, _, _, _, _, bz⟩ := blk4 HX2.out
  obtain ⟨q2, hq2⟩ : ∃ q2, q2 = q1 + na.length := ⟨_, rfl⟩
  rw [← hq2]
  have HQ2 : Hid (q2 = q + sy.length + na.length) := by show _ = _; rw [hq2, HQ1.out]
  clear hq2
  go_wp2_with fail
  refine (mss_any su w2 base _ cs Fs q2 K6.out K7.out HA.out.2.2.2 (by have := HQ2.out; omega)).mono ?_
  rintro e w3 ⟨cs', rfl, m1, m2, m3'⟩
  have HN : Hid (MarkOnePost w base k sy na su (.agg #[.int .i64 k, .slice ps ns ms, .slice pn nn mn, .slice p3 n3 m3]) (blkOf (.slice ps ns ms) ++ (blkOf (.slice pn nn mn) ++ (blkOf (.slice p3 n3 m3) ++ Fs))) q (.returned (.int .i64 ((q2 + Sh.mcs su : Nat) : Int))) w3) := by
    refine ⟨by rw [HQ2.out], ?_, ?_⟩
    · simp only [OwnSh]
      refine ⟨_, _, _, cs', Fs, rfl, HKK.out, strs_move S2.out fun x hx => m3'.block x (blkOf_own S2.out.2 x hx).2 fun hb => (HA.out.2.2.1 x hb).1 hx, ?_, by rw [smarkeds_len]; exact m1, by rw [← HQ2.out]; exact m2, rfl⟩
      have := T2.out
      rw [HQ1.out] at this
      exact strs_move this fun x hx => m3'.block x (blkOf_own this.2 x hx).2 fun hb => (HA.out.2.2.1 x hb).2 hx
    · refine (((Only.of_below HB.out).trans (Y1.out.mono ?_)).trans (Y2.out.mono ?_)).trans (m3'.mono ?_) <;> intro x hx <;> simp only [List.mem_append] at * <;> grind
  clear m1 m2 m3'
  go_wp2_with fail
  go_ret
  exact HN.out
end Go.Proofs.YtfdhmkmeffgkgaaDoor
