/- Walks: laws.markValS, laws.markVal: marks put into the Vals of the law's own. -/
import Derived.Test.YtflpfphfoibggaaMarkTW
import Derived.Test.YtflpfphfoibggaaOwnVa
namespace Go.Proofs.Ytflpfphfoibggaa
open Go.RowKit

mutual
/-- How many marks go into a Val. -/
def Va.mc : Va → Nat
  | .mk _ _ _ it => 3 + Va.mcs it
def Va.mcs : List Va → Nat
  | [] => 0
  | x :: l => Va.mc x + Va.mcs l
end
mutual
/-- A Val with marks, from k on. -/
def Va.marked : Va → Nat → Va
  | .mk _ _ _ it, k => .mk k ((k + 1 : Nat) : Int) (mkT (k + 2)) (Va.markeds it (k + 3))
def Va.markeds : List Va → Nat → List Va
  | [], _ => []
  | x :: l, k => Va.marked x k :: Va.markeds l (k + Va.mc x)
end
theorem markeds_len : ∀ (l : List Va) (k : Nat), (Va.markeds l k).length = l.length
  | [], _ => by simp [Va.markeds]
  | x :: l, k => by simp [Va.markeds, markeds_len l]
theorem mcs_take : ∀ (l : List Va) (j : Nat) (h : j < l.length), Va.mcs (l.take (j + 1)) = Va.mcs (l.take j) + l[j].mc
  | [], _, h => by cases h
  | x :: l, 0, _ => by simp [Va.mcs]
  | x :: l, j + 1, h => by
    have := mcs_take l j (by simpa using h)
    simp only [List.take_succ_cons, Va.mcs, List.getElem_cons_succ] at this ⊢
    omega
theorem mcs_take_le : ∀ (l : List Va) (j : Nat), Va.mcs (l.take j) ≤ Va.mcs l
  | [], _ => by simp [Va.mcs]
  | x :: l, 0 => by simp [Va.mcs]
  | x :: l, j + 1 => by
    have := mcs_take_le l j
    simp only [List.take_succ_cons, Va.mcs]; omega
theorem markeds_take : ∀ (l : List Va) (j k : Nat) (h : j < l.length), Va.markeds (l.take (j + 1)) k = Va.markeds (l.take j) k ++ [Va.marked l[j] (k + Va.mcs (l.take j))]
  | [], _, _, h => by cases h
  | x :: l, 0, k, _ => by simp [Va.markeds, Va.mcs]
  | x :: l, j + 1, k, h => by
    have := markeds_take l j (k + x.mc) (by simpa using h)
    simp only [List.take_succ_cons, Va.markeds, Va.mcs, List.getElem_cons_succ, List.cons_append] at this ⊢
    rw [this, Nat.add_assoc]

def MarkVPost (w : World) (base : Nat) (v : Value) (l : List Va) (F : List Nat) (k : Nat) (e : Ending) (w' : World) : Prop :=
  ∃ cs', e = .returned (.int .i64 ((k + Va.mcs l : Nat) : Int)) ∧ w'.ownsRow base 43 4 v l.length cs' ∧ OwnVas w' base (Va.markeds l k) cs' F ∧ Only (blkOf v ++ F) w w'
/-- markValS's contract at one list. -/
def MvAt (l : List Va) : Prop := ∀ (w : World) (base : Nat) (v : Value) (cs : List Value) (F : List Nat) (k : Nat), w.ownsRow base 43 4 v l.length cs → OwnVas w base l cs F → (blkOf v ++ F).Nodup → k + Va.mcs l ≤ 1099511627776 →
  Calls Try.prog 53 #[v, .int .i64 k] w (MarkVPost w base v l F k)

theorem set_at {cs : List Value} {c u : Value} {r : List Value} {p : Nat} (h : cs.length = p) : (cs ++ c :: r).set p u = cs ++ u :: r := by
  subst h; rw [List.set_append_right _ _ (Nat.le_refl _), Nat.sub_self, List.set_cons_zero]
theorem set_at1 {cs : List Value} {a c u : Value} {r : List Value} {p : Nat} (h : cs.length = p) : (cs ++ a :: c :: r).set (p + 1) u = cs ++ a :: u :: r := by
  subst h; rw [List.set_append_right _ _ (by omega), show cs.length + 1 - cs.length = 1 by omega]; rfl
theorem set_at2 {cs : List Value} {a b c u : Value} {r : List Value} {p : Nat} (h : cs.length = p) : (cs ++ a :: b :: c :: r).set (p + 2) u = cs ++ a :: b :: u :: r := by
  subst h; rw [List.set_append_right _ _ (by omega), show cs.length + 2 - cs.length = 2 by omega]; rfl
theorem OwnVas.cons {w : World} {base : Nat} {x : Va} {l : List Va} {cs : List Value} {F : List Nat} (h : OwnVas w base (x :: l) cs F) : ∃ c0 c1 c2 c3 cs' F1 F2, cs = c0 :: c1 :: c2 :: c3 :: cs' ∧ OwnVa w base x (.agg #[c0, c1, c2, c3]) F1 ∧ OwnVas w base l cs' F2 ∧ F = F1 ++ F2 := by
  simpa only [OwnVas] using h
/-- The state at a round's head. -/
def MvInv (w wr : World) (base g cap : Nat) (l : List Va) (F : List Nat) (k j : Nat) : Prop :=
  ∃ cs1 cs2 F1 F2, F = F1 ++ F2 ∧ wr.ownsRow base 43 4 (.slice (some ⟨g, 0, none⟩) l.length cap) l.length (cs1 ++ cs2) ∧ OwnVas wr base (Va.markeds (l.take j) k) cs1 F1 ∧ OwnVas wr base (l.drop j) cs2 F2 ∧ Only (g :: F) w wr

/-- Behind the three marks of a Val: what stands where. -/
def MvMid (w W2 : World) (base g cap : Nat) (l : List Va) (F : List Nat) (k j q : Nat) (tx : Value) (cs1 cs2' : List Value) (F1 Fx F2' : List Nat) (vp : Value) (itx : List Va) (csx : List Value) (Fs : List Nat) : Prop :=
  W2.ownsRow base 43 4 (.slice (some ⟨g, 0, none⟩) l.length cap) l.length (cs1 ++ .int .i64 q :: .int .i64 ((q + 1 : Nat) : Int) :: tx :: vp :: cs2') ∧ OwnVas W2 base (Va.markeds (l.take j) k) cs1 F1 ∧ OwnVas W2 base (l.drop (j + 1)) cs2' F2' ∧
    W2.ownsRow base 43 4 vp itx.length csx ∧ OwnVas W2 base itx csx Fs ∧ Only (g :: F) w W2 ∧ F = F1 ++ (Fx ++ F2') ∧ Fx = blkOf vp ++ Fs ∧ cs1.length = j * 4 ∧ (g :: F).Nodup

theorem mv_row {wr w1 : World} {base g cap n p : Nat} {cs1 r : List Value} {a b c0 c1 : Value} (ho : wr.ownsRow base 43 4 (.slice (some ⟨g, 0, none⟩) n cap) n (cs1 ++ c0 :: c1 :: r)) (hcl : cs1.length = p)
    (hb1 : Below ((wr.setCell ⟨g, p, none⟩ a).setCell ⟨g, p + 1, none⟩ b).heap.size ((wr.setCell ⟨g, p, none⟩ a).setCell ⟨g, p + 1, none⟩ b) w1) : w1.ownsRow base 43 4 (.slice (some ⟨g, 0, none⟩) n cap) n (cs1 ++ a :: b :: r) := by
  have h1 := (World.ownsRow.stored ho p a).1
  rw [set_at hcl] at h1
  have h2 := (World.ownsRow.stored h1 (p + 1) b).1
  rw [set_at1 hcl] at h2
  exact own_block h2 fun q hq => hb1.block q (blkOf_own h2 q hq).2
theorem mv_row2 {w1 : World} {base g cap n p : Nat} {cs1 r : List Value} {a b c u : Value} (ho : w1.ownsRow base 43 4 (.slice (some ⟨g, 0, none⟩) n cap) n (cs1 ++ a :: b :: c :: r)) (hcl : cs1.length = p) :
    (w1.setCell ⟨g, p + 2, none⟩ u).ownsRow base 43 4 (.slice (some ⟨g, 0, none⟩) n cap) n (cs1 ++ a :: b :: u :: r) := by
  have h1 := (World.ownsRow.stored ho (p + 2) u).1
  rw [set_at2 hcl] at h1
  exact h1
/-- Where g is not, nothing has turned. -/
theorem mv_else {wr w1 : World} {g p : Nat} {a b u : Value} (hb1 : Below ((wr.setCell ⟨g, p, none⟩ a).setCell ⟨g, p + 1, none⟩ b).heap.size ((wr.setCell ⟨g, p, none⟩ a).setCell ⟨g, p + 1, none⟩ b) w1) :
    ∀ q, q < wr.heap.size → q ≠ g → (w1.setCell ⟨g, p + 2, none⟩ u).heap[q]? = wr.heap[q]? := by
  intro q hq hne
  rw [Below.heap_setCell _ _ _ _ hne, hb1.block q (by rw [size_set, size_set]; exact hq), Below.heap_setCell _ _ _ _ hne, Below.heap_setCell _ _ _ _ hne]

theorem mv_mid {w wr w1 : World} {base g cap j k q : Nat} {l : List Va} {F F1 Fx F2' Fs : List Nat} {cs1 cs2' csx : List Value} {c0 c1 c2 vp tx : Value} {itx : List Va}
    (hS : wr.ownsRow base 43 4 (.slice (some ⟨g, 0, none⟩) l.length cap) l.length (cs1 ++ c0 :: c1 :: c2 :: vp :: cs2') ∧ OwnVas wr base (Va.markeds (l.take j) k) cs1 F1 ∧ OwnVas wr base (l.drop (j + 1)) cs2' F2' ∧ wr.ownsRow base 43 4 vp itx.length csx ∧ OwnVas wr base itx csx Fs ∧ Only (g :: F) w wr)
    (hF : F = F1 ++ (Fx ++ F2')) (hFx : Fx = blkOf vp ++ Fs) (hcl : cs1.length = j * 4) (hnd : (g :: F).Nodup)
    (hb1 : Below ((wr.setCell ⟨g, j * 4, none⟩ (.int .i64 q)).setCell ⟨g, j * 4 + 1, none⟩ (.int .i64 ((q : Int) + 1))).heap.size ((wr.setCell ⟨g, j * 4, none⟩ (.int .i64 q)).setCell ⟨g, j * 4 + 1, none⟩ (.int .i64 ((q : Int) + 1))) w1) :
    MvMid w (w1.setCell ⟨g, j * 4 + 2, none⟩ tx) base g cap l F k j q tx cs1 cs2' F1 Fx F2' vp itx csx Fs := by
  obtain ⟨h1, h2, h3, h4, h5, h6⟩ := hS
  have hg : g ∉ F := (List.nodup_cons.1 hnd).1
  have e := mv_else (u := tx) hb1
  have l2 := h2.lt
  have l3 := h3.lt
  have l5 := h5.lt
  have ne : ∀ x ∈ F, x ≠ g := fun x hx he => hg (he ▸ hx)
  refine ⟨mv_row2 (mv_row h1 hcl hb1) hcl, h2.move (Nat.le_refl _) fun x hx => e x (l2 x hx).2 (ne x (by simp [hF, hx])), h3.move (Nat.le_refl _) fun x hx => e x (l3 x hx).2 (ne x (by simp [hF, hx])), ?_, h5.move (Nat.le_refl _) fun x hx => e x (l5 x hx).2 (ne x (by simp [hF, hFx, hx])), ?_, hF, hFx, hcl, hnd⟩
  · exact own_block h4 fun x hx => e x (blkOf_own h4 x hx).2 (ne x (by simp [hF, hFx, hx]))
  · exact (((h6.set (by simp) _ _).set (by simp) _ _).trans (Only.of_below hb1)).set (by simp) _ _

theorem mv_end {w W2 w3 : World} {base g cap j k q : Nat} {l : List Va} {F F1 Fx F2' Fs : List Nat} {cs1 cs2' csx : List Value} {vp : Value} {itx : List Va} {kx nx : Int} {t : ByteArray} {e : Ending}
    (h : MvMid w W2 base g cap l F k j q (.string (mkT (q + 2))) cs1 cs2' F1 Fx F2' vp itx csx Fs) (hj : j < l.length) (hx : Va.mk kx nx t itx = l[j]) (hq : q = k + Va.mcs (l.take j)) (hqb : q + (Va.mk kx nx t itx).mc ≤ 1099511627776)
    (hm : MarkVPost W2 base vp itx Fs (q + 3) e w3) : e = .returned (.int .i64 ((k + Va.mcs (l.take (j + 1)) : Nat) : Int)) ∧ MvInv w w3 base g cap l F k (j + 1) := by
  obtain ⟨h1, h2, h3, h4, h5, h6, hF, hFx, hcl, hnd⟩ := h
  obtain ⟨csx', rfl, m1, m2, m3⟩ := hm
  have hg : g ∉ F := (List.nodup_cons.1 hnd).1
  have hndF : F.Nodup := (List.nodup_cons.1 hnd).2
  simp only [Va.mc] at hqb
  have hmc : (Va.mk kx nx t itx).mc = 3 + Va.mcs itx := by simp only [Va.mc]
  have l2 := h2.lt
  have l3 := h3.lt
  have hdis : ∀ x, x ∈ F1 ∨ x ∈ F2' → x ∉ blkOf vp ++ Fs := by
    intro x hxx hb
    rw [← hFx] at hb
    rw [hF] at hndF
    rcases hxx with hx1 | hx2
    · exact (List.nodup_append.1 hndF).2.2 x hx1 x (by simp [hb]) rfl
    · have := (List.nodup_append.1 hndF).2.1
      exact (List.nodup_append.1 this).2.2 x hb x hx2 rfl
  refine ⟨?_, ?_⟩
  · have : k + Va.mcs (l.take (j + 1)) = q + 3 + Va.mcs itx := by rw [mcs_take l j hj, ← hx, hmc, hq]; omega
    rw [this]
  · refine ⟨cs1 ++ [.int .i64 q, .int .i64 ((q + 1 : Nat) : Int), .string (mkT (q + 2)), vp], cs2', F1 ++ Fx, F2', by rw [hF, List.append_assoc], ?_, ?_, ?_, ?_⟩
    · rw [List.append_assoc]
      refine own_block h1 fun x hx => m3.block x (blkOf_own h1 x hx).2 ?_
      simp [blkOf] at hx
      subst hx
      intro hb
      rw [← hFx] at hb
      exact hg (by rw [hF]; simp [hb])
    · rw [markeds_take l j k hj, ← hq, ← hx]
      refine OwnVas.snoc (h2.move (Nat.le_refl _) fun x hxx => m3.block x (l2 x hxx).2 (hdis x (.inl hxx))) ?_
      simp only [Va.marked, OwnVa]
      refine ⟨vp, csx', Fs, rfl, by unfold InI64'; omega, by unfold InI64'; omega, ?_, ?_, m2, hFx⟩
      · have := mkT_size (q + 2) (by omega); omega
      · rw [markeds_len]; exact m1
    · exact h3.move (Nat.le_refl _) fun x hxx => m3.block x (l3 x hxx).2 (hdis x (.inr hxx))
    · refine h6.trans (m3.mono fun x hx => ?_)
      rw [← hFx] at hx
      simp [hF, hx]

set_option maxRecDepth 100000 in
set_option maxHeartbeats 2000000 in
theorem mv_step (l : List Va) (ih : ∀ x ∈ l, MvAt x.it) : MvAt l := by
  intro w base v cs F k hown hall hnd hk
  have h' := hown
  obtain ⟨hl, hr⟩ := h'
  rcases hr with ⟨rfl, h0⟩ | ⟨g, cap, cur, rfl, hb, hg, hn, hc, hsz, ht⟩
  · obtain rfl : l = [] := List.eq_nil_of_length_eq_zero h0
    have HN : Hid (MarkVPost w base (.slice none 0 0) [] F k (.returned (.int .i64 k)) w) := by
      refine ⟨cs, by simp [Va.mcs], hown, ?_, Only.refl _ _⟩
      simpa only [Va.markeds] using hall
    clear hown hall hl ih hnd hk
    go_enter Try.func53, Try.ntmps53
    go_wp2_with fail
    go_loopw [1, 5] (fun a i wr => a = .int .i64 k ∧ i = .int .i64 ((0 : Nat) : Int) ∧ wr = w) (fun _ _ _ => 0)
    case atStart => exact ⟨rfl, rfl, rfl⟩
    case round =>
      obtain ⟨rfl, rfl, rfl⟩ := hrel
      go_wp2_with fail
      go_ret
      exact HN.out
  · unfold maxLen at hc
    have H0 : Hid (MvInv w w base g cap l F k 0) := ⟨[], cs, [], F, rfl, hown, by simp [Va.markeds, OwnVas], hall, Only.refl _ _⟩
    have IH := Lib.hid ih
    have HND := Lib.hid hnd
    have HK := Lib.hid hk
    have HTL := Lib.hid (mcs_take_le l)
    clear hown hall hl hg ht hsz ih hnd hk
    go_enter Try.func53, Try.ntmps53
    go_wp2_with fail
    go_loopw [1, 5] (fun a i wr => ∃ j : Nat, j ≤ l.length ∧ a = .int .i64 ((k + Va.mcs (l.take j) : Nat) : Int) ∧ i = .int .i64 j ∧ Hid (MvInv w wr base g cap l F k j)) (fun _ i _ => l.length - (intOf i).toNat)
    case atStart => exact ⟨0, Nat.zero_le _, by simp [Va.mcs], rfl, H0.out⟩
    case round =>
      obtain ⟨j, hj, rfl, rfl, HI⟩ := hrel
      by_cases hlt : j < l.length
      · obtain ⟨q, hq⟩ : ∃ q, q = k + Va.mcs (l.take j) := ⟨_, rfl⟩
        have HQ := Lib.hid hq
        have HQ2 : Hid (q + l[j].mc ≤ 1099511627776) := by show _ ≤ _; rw [hq]; have h1 := mcs_take l j hlt; have h2 := HTL.out (j + 1); have h3 := HK.out; omega
        rw [← hq]
        obtain ⟨cs1, cs2, F1, F2, hF, ho, ha1, ha2, hon⟩ := HI.out
        rw [List.drop_eq_getElem_cons hlt] at ha2
        obtain ⟨c0, c1, c2, c3, cs2', Fx, F2', rfl, hx, ha2', rfl⟩ := ha2.cons
        have hcl : cs1.length = j * 4 := by have := ha1.len; rw [markeds_len, List.length_take] at this; rw [Nat.min_eq_left (by omega)] at this; exact this
        obtain ⟨x, hxe⟩ : ∃ x, x = l[j] := ⟨_, rfl⟩
        rw [← hxe] at hx HQ2
        cases x with | mk kx nx tx itx =>
        obtain ⟨vp, csx, Fs, hv, _, _, _, hrow, hall, hFx⟩ := hx.parts
        simp only [Value.agg.injEq, Array.mk.injEq, List.cons.injEq, and_true] at hv
        obtain ⟨rfl, rfl, rfl, rfl⟩ := hv
        have e0 := own_cell ho (j := j * 4) (by rw [List.length_append]; simp; omega)
        have e1 := own_cell ho (j := j * 4 + 1) (by rw [List.length_append]; simp; omega)
        have e2 := own_cell ho (j := j * 4 + 2) (by rw [List.length_append]; simp; omega)
        have e3 := own_cell ho (j := j * 4 + 3) (by rw [List.length_append]; simp; omega)
        have f3 : wr.cell? ⟨g, j * 4 + 3, none⟩ = some c3 := by
          rw [e3.1]
          congr 1
          rw [List.getElem_append_right (by omega)]
          simp [hcl]
        obtain ⟨p3, n3, m3, rfl⟩ : ∃ p n m, c3 = .slice p n m := by
          rcases hrow.2 with ⟨rfl, _⟩ | ⟨gx, capx, curx, rfl, _⟩ <;> exact ⟨_, _, _, rfl⟩
        obtain ⟨y0, g0⟩ : ∃ y, wr.cell? ⟨g, j * 4, none⟩ = some y := ⟨_, e0.1⟩
        obtain ⟨y1, g1⟩ : ∃ y, wr.cell? ⟨g, j * 4 + 1, none⟩ = some y := ⟨_, e1.1⟩
        have z0 := e0.2.1
        have z1 := e1.2.1
        have hgz := e0.2.2.1
        have hcap := e0.2.2.2.2
        have hqb : q + 3 ≤ 1099511627776 := by have := HQ2.out; simp only [Va.mc] at this; omega
        have HS := Lib.hid (And.intro ho (And.intro ha1 (And.intro ha2' (And.intro hrow (And.intro hall hon)))))
        have HF := Lib.hid hF
        have HFX := Lib.hid hFx
        have HCL := Lib.hid hcl
        have HXE := Lib.hid hxe
        clear e0 e1 e2 e3 f3 ho ha1 ha2 ha2' hrow hall hon hx hF hFx hcl hxe hq
        go_wp2_with fail
        rw [show ((q : Int) + 1 + 1) = ((q + 2 : Nat) : Int) by omega]
        refine (markText_any (q + 2) (by omega) _).mono ?_
        rintro e w1 ⟨rfl, hb1⟩
        have HM := Lib.hid (mv_mid (tx := .string (mkT (q + 2))) HS.out HF.out HFX.out HCL.out HND.out hb1)
        have hr1 := mv_row HS.out.1 HCL.out hb1
        have e2 := own_cell hr1 (j := j * 4 + 2) (by rw [List.length_append, HCL.out]; simp)
        have e3 := own_cell hr1 (j := j * 4 + 3) (by rw [List.length_append, HCL.out]; simp)
        have g3 : w1.cell? ⟨g, j * 4 + 3, none⟩ = some (.slice p3 n3 m3) := by
          rw [e3.1]
          congr 1
          rw [List.getElem_append_right (by rw [HCL.out]; omega)]
          simp [HCL.out]
        obtain ⟨y2, g2⟩ : ∃ y, w1.cell? ⟨g, j * 4 + 2, none⟩ = some y := ⟨_, e2.1⟩
        have z2 := e2.2.1
        have hgz2 := e2.2.2.1
        obtain ⟨mt, hmt⟩ : ∃ mt, mt = mkT (q + 2) := ⟨_, rfl⟩
        rw [← hmt] at HM ⊢
        have HMT := Lib.hid hmt
        have hit : l[j].it = itx := by rw [← HXE.out]; rfl
        have ihx := IH.out l[j] (List.getElem_mem hlt)
        rw [hit] at ihx
        have HW := Lib.hid (ihx _ base _ csx Fs (q + 3) HM.out.2.2.2.1 HM.out.2.2.2.2.1 (by
          have h1 := HM.out.2.2.2.2.2.2.2.2.2
          have h2 := (List.nodup_cons.1 h1).2
          rw [HF.out] at h2
          have h3 := (List.nodup_append.1 ((List.nodup_append.1 h2).2.1)).1
          rw [HFX.out] at h3
          exact h3) (by have := HQ2.out; simp only [Va.mc] at this; omega))
        clear e2 e3 hr1 hb1 g0 g1 z0 z1 hgz hmt hit ihx
        go_wp2_with fail
        rw [show ((q : Int) + 2 + 1) = ((q + 3 : Nat) : Int) by omega]
        refine HW.out.mono ?_
        rintro e w3 hm
        have hM := HM.out
        rw [HMT.out] at hM hm
        obtain ⟨rfl, hI⟩ := mv_end hM hlt HXE.out HQ.out HQ2.out hm
        have HI2 := Lib.hid hI
        clear hM hm hI g2 g3 z2 hgz2
        go_wp2_with fail
        go_roundw
        case rel => exact ⟨j + 1, hlt, rfl, by go_num, HI2.out⟩
        case measure => simp [intOf]; omega
      · obtain rfl : j = l.length := by omega
        have HN : Hid (MarkVPost w base (.slice (some ⟨g, 0, none⟩) l.length cap) l F k (.returned (.int .i64 ((k + Va.mcs l : Nat) : Int))) wr) := by
          obtain ⟨cs1, cs2, F1, F2, hF, ho, ha1, ha2, hon⟩ := HI.out
          rw [List.drop_length] at ha2
          simp only [OwnVas] at ha2
          obtain ⟨rfl, rfl⟩ := ha2
          rw [List.take_length] at ha1
          rw [List.append_nil] at ho hF
          subst hF
          exact ⟨cs1, rfl, ho, ha1, hon⟩
        rw [List.take_length]
        go_wp2_with fail
        go_ret
        exact HN.out

/-- laws.markValS. -/
theorem mv_any : ∀ x : Va, MvAt x.it := Va.ind fun _ _ _ it ih => mv_step it ih
theorem mvs_any (l : List Va) : MvAt l := mv_step l fun x _ => mv_any x

def MarkVaPost (w : World) (base : Nat) (k n : Int) (t : ByteArray) (vp : Value) (it : List Va) (F : List Nat) (q : Nat) (e : Ending) (w' : World) : Prop :=
  e = .returned (.int .i64 ((q + Va.mcs it : Nat) : Int)) ∧ OwnVa w' base (.mk k n t (Va.markeds it q)) (.agg #[.int .i64 k, .int .i64 n, .string t, vp]) F ∧ Only F w w'
/-- laws.markVal. -/
theorem markVal_any (w : World) (base : Nat) (k n : Int) (t : ByteArray) (it : List Va) (vp : Value) (F : List Nat) (q : Nat) (h : OwnVa w base (.mk k n t it) (.agg #[.int .i64 k, .int .i64 n, .string t, vp]) F) (hF : F.Nodup) (hq : q + Va.mcs it ≤ 1099511627776) :
    Calls Try.prog 26 #[.agg #[.int .i64 k, .int .i64 n, .string t, vp], .int .i64 q] w (MarkVaPost w base k n t vp it F q) := by
  obtain ⟨vp', cs, Fs, hv, hk, hn, ht, hrow, hall, rfl⟩ := h.parts
  simp only [Value.agg.injEq, Array.mk.injEq, List.cons.injEq, and_true, true_and] at hv
  subst hv
  obtain ⟨p3, n3, m3, rfl⟩ : ∃ p n m, vp = .slice p n m := by
    rcases hrow.2 with ⟨rfl, _⟩ | ⟨gx, capx, curx, rfl, _⟩ <;> exact ⟨_, _, _, rfl⟩
  have hb := below_alloc w (.cells #[.int .i64 k, .int .i64 n, .string t, .slice p3 n3 m3] 43)
  have HC := Lib.hid (mvs_any it _ base _ cs Fs q (own_block hrow fun g hg => hb.block g (blkOf_own hrow g hg).2) (hall.move (Nat.le_refl _) fun g hg => hb.block g (hall.lt g hg).2) hF hq)
  have HB := Lib.hid hb
  have HH := Lib.hid (And.intro hk (And.intro hn ht))
  clear h hrow hall hF hb hk hn ht
  go_enter Try.func26, Try.ntmps26
  go_wp2_with fail
  refine HC.out.mono ?_
  rintro e w1 ⟨cs', rfl, m1, m2, m3'⟩
  have HN : Hid (MarkVaPost w base k n t (.slice p3 n3 m3) it (blkOf (.slice p3 n3 m3) ++ Fs) q (.returned (.int .i64 ((q + Va.mcs it : Nat) : Int))) w1) := by
    refine ⟨rfl, ?_, (Only.of_below HB.out).trans m3'⟩
    simp only [OwnVa]
    exact ⟨_, cs', Fs, rfl, HH.out.1, HH.out.2.1, HH.out.2.2, by rw [markeds_len]; exact m1, m2, rfl⟩
  clear m1 m2 m3'
  go_wp2_with fail
  go_ret
  exact HN.out
end Go.Proofs.Ytflpfphfoibggaa
