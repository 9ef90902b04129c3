/- Walks: impl.fitsRight at any right shape; impl.Fits. -/
import Derived.Test.YtnnjhcjalmdmcaaGreatGFit4W
import Derived.Test.YtnnjhcjalmdmcaaGreatGFit5W
import Derived.Test.YtnnjhcjalmdmcaaGreatGTxtP
namespace Go.Proofs.YtnnjhcjalmdmcaaGreat
open Go.RowKit

theorem fitB_1 (sy na : List ByteArray) (su : List Sh) (n : Int) (tx : ByteArray) (it : List Va) : fitB (.mk 1 sy na su) (.mk 1 n tx it) = ((decide (tx.size = 0) && decide (it.length = 0)) && (decide (0 ≤ n) && decide (n ≤ 1))) := by
  rw [fitB]; rfl
theorem fitB_2 (sy na : List ByteArray) (su : List Sh) (n : Int) (tx : ByteArray) (it : List Va) : fitB (.mk 2 sy na su) (.mk 2 n tx it) = ((decide (tx.size = 0) && decide (it.length = 0)) && (decide (0 ≤ n) && decide (n ≤ 1000000))) := by
  rw [fitB]; rfl
theorem fitB_3 (sy na : List ByteArray) (su : List Sh) (n : Int) (tx : ByteArray) (it : List Va) : fitB (.mk 3 sy na su) (.mk 3 n tx it) = ((decide (n = 0) && decide (it.length = 0)) && plainOk tx.data.toList) := by
  rw [fitB]; rfl
theorem fitB_4 (sy na : List ByteArray) (su : List Sh) (n : Int) (tx : ByteArray) (it : List Va) : fitB (.mk 4 sy na su) (.mk 4 n tx it) = ((decide (n = 0) && decide (it.length = 0)) && hasB sy tx) := by
  rw [fitB]; rfl
theorem fitB_5 (sy na : List ByteArray) (x : Sh) (n : Int) (tx : ByteArray) (it : List Va) : fitB (.mk 5 sy na [x]) (.mk 5 n tx it) = ((decide (n = 0) && decide (tx.size = 0)) && (decide (it.length ≤ 1) && it.all (fitB x))) := by
  rw [fitB]; rfl
theorem fitB_6 (sy na : List ByteArray) (x : Sh) (n : Int) (tx : ByteArray) (it : List Va) : fitB (.mk 6 sy na [x]) (.mk 6 n tx it) = ((decide (n = 0) && decide (tx.size = 0)) && (decide (it.length ≤ 6) && it.all (fitB x))) := by
  rw [fitB]; rfl
theorem fitB_7 (sy na : List ByteArray) (su : List Sh) (n : Int) (tx : ByteArray) (it : List Va) : fitB (.mk 7 sy na su) (.mk 7 n tx it) = ((decide (n = 0) && decide (tx.size = 0)) && fitZip su it) := by
  rw [fitB]; rfl

/-- impl.fitsRight. -/
theorem fr_any (d : Nat) (hd : d ≤ 5) : FrAt d := by
  induction d with
  | zero =>
    intro t x v u w hp
    simp [partOk] at hp
  | succ d ih =>
    intro t x v u w hp h g
    have ih' := ih (by omega)
    cases t with | mk k sy na su =>
    cases x with | mk k' n tx it =>
    obtain ⟨p1, m1, p2, m2, p3, m3, rfl, _, h1, h2, h3⟩ := h.open
    obtain ⟨p, m, rfl, _, _, ht, hit⟩ := g.open
    by_cases hk : k' = k
    · subst hk
      simp only [partOk, Bool.and_eq_true] at hp
      have key : ∀ (T F : Nat) (_ : ∀ (v : Value) (w : World), (method 243 T v "loop.example/g00848/impl.fits").run Tryz.prog w = .ok (F, v) w)
          (_ : ∀ (args : Array Value) (w : World), (callFunc F args).run Tryz.prog w = .ok (.enter F args) w)
          (_ : ∀ w, Calls Tryz.prog 79 #[.agg #[.int .i64 k', .slice p1 sy.length m1, .slice p2 na.length m2, .slice p3 su.length m3]] w fun e w' => e = .returned (.iface T (.agg #[.int .i64 k', .slice p1 sy.length m1, .slice p2 na.length m2, .slice p3 su.length m3])) ∧ Below w.heap.size w w')
          (b : Bool) (_ : fitB (.mk k' sy na su) (.mk k' n tx it) = b)
          (_ : ∀ w', Keeps w w' → Calls Tryz.prog F #[.agg #[.int .i64 k', .slice p1 sy.length m1, .slice p2 na.length m2, .slice p3 su.length m3], .agg #[.int .i64 k', .int .i64 n, .string tx, .slice p it.length m]] w' fun e w'' => e = .returned (.bool b) ∧ Below w'.heap.size w' w''),
          Calls Tryz.prog 62 #[.agg #[.int .i64 k', .slice p1 sy.length m1, .slice p2 na.length m2, .slice p3 su.length m3], .agg #[.int .i64 k', .int .i64 n, .string tx, .slice p it.length m]] w fun e w' => e = .returned (.bool (fitB (.mk k' sy na su) (.mk k' n tx it))) ∧ Below w.heap.size w w' := by
        intro T F hm hF hk b hb hs
        rw [hb]
        exact fr_ask T F k' n tx _ _ _ _ _ _ _ _ _ _ _ _ w b hm hF hk hs
      rcases sound_cases hp.1 with ⟨hk, _⟩ | ⟨rfl, _⟩ | ⟨hk, _, _, hn⟩ | ⟨rfl, _⟩
      · rcases hk with rfl | rfl | rfl
        · exact key _ _ fm_flag fe_flag (kindOf_flag _ _ _ _ _ _ _ _ _) _ (fitB_1 _ _ _ _ _ _) (fun w' _ => flagFits_any _ _ _ _ _ _ _ _ _ _ _ _ _ _ _ _ w')
        · exact key _ _ fm_num fe_num (kindOf_num _ _ _ _ _ _ _ _ _) _ (fitB_2 _ _ _ _ _ _) (fun w' _ => numFits_any _ _ _ _ _ _ _ _ _ _ _ _ _ _ _ _ w')
        · exact key _ _ fm_text fe_text (kindOf_text _ _ _ _ _ _ _ _ _) _ (fitB_3 _ _ _ _ _ _) (fun w' _ => textFits_any _ _ _ _ _ _ _ _ _ _ _ _ _ _ _ _ w' ht)
      · exact key _ _ fm_pick fe_pick (kindOf_pick _ _ _ _ _ _ _ _ _) _ (fitB_4 _ _ _ _ _ _) (fun w' hk => pickFits_any _ _ _ _ _ _ _ _ _ _ _ _ _ _ _ sy w' (h1.keep hk))
      · obtain ⟨x, rfl⟩ := List.length_eq_one_iff.1 hn
        have hx : partOk d x = true := by simpa using hp.2
        rcases hk with rfl | rfl
        · exact key _ _ fm_maybe fe_maybe (kindOf_maybe _ _ _ _ _ _ _ _ _) _ (fitB_5 _ _ _ _ _ _) (fun w' hk => maybeFits_any d ih' x hx _ _ _ _ _ _ _ _ _ _ _ _ _ _ _ it w' (h3.keep hk) (hit.keep hk))
        · exact key _ _ fm_list fe_list (kindOf_list _ _ _ _ _ _ _ _ _) _ (fitB_6 _ _ _ _ _ _) (fun w' hk => listFits_any d ih' x hx _ _ _ _ _ _ _ _ _ _ _ _ _ _ _ it w' (h3.keep hk) (hit.keep hk))
      · exact key _ _ fm_rec fe_rec (kindOf_rec _ _ _ _ _ _ _ _ _) _ (fitB_7 _ _ _ _ _ _) (fun w' hk => recFits_any d ih' _ _ _ _ _ _ _ _ _ _ _ _ _ _ su it w' hp.2 (h3.keep hk) (hit.keep hk))
    · have e : fitB (.mk k sy na su) (.mk k' n tx it) = false := by simp [fitB, Va.kd, hk]
      rw [e]
      exact fr_no k k' n tx _ _ _ _ _ _ _ _ _ _ _ _ w hk

/-- What Fits tells. -/
def fitsB (t : Sh) (x : Va) : Bool := rightB t && fitB t x

theorem implFits_is (t : Sh) (x : Va) (b : Bool) (hb : fitsB t x = b) (v u : Value) (w : World) (h : IsSh w t v) (g : IsVa w x u) :
    Calls Tryz.prog 35 #[v, u] w fun e w' => e = .returned (.bool b) ∧ Below w.heap.size w w' := by
  subst hb
  have HH := Lib.hid h
  have GG := Lib.hid g
  obtain ⟨p1, n1, m1, p2, n2, m2, p3, n3, m3, rfl⟩ := h.agg
  obtain ⟨p, m, rfl⟩ := g.agg
  clear h g
  obtain ⟨W, hW⟩ : ∃ W, W = ((w.alloc (.cells #[.int .i64 t.kd, .slice p1 n1 m1, .slice p2 n2 m2, .slice p3 n3 m3] 26)).alloc (.cells #[.int .i64 x.kd, .int .i64 x.nn, .string x.tx, .slice p x.it.length m] 29)) := ⟨_, rfl⟩
  have hX := two_new w (.cells #[.int .i64 t.kd, .slice p1 n1 m1, .slice p2 n2 m2, .slice p3 n3 m3] 26) (.cells #[.int .i64 x.kd, .int .i64 x.nn, .string x.tx, .slice p x.it.length m] 29)
  rw [← hW] at hX
  have HBW : Hid (Below w.heap.size w W) := by show Below _ _ _; rw [hW]; exact (below_alloc w _).alloc (by simp) _
  have S1 := Lib.hid hX.1
  have S2 := Lib.hid hX.2
  have HW := Lib.hid hW
  clear hX hW
  obtain ⟨r, hr⟩ : ∃ r, r = fitsB t x := ⟨_, rfl⟩
  cases hq : rightB t
  · have HQ := Lib.hid hq
    have HR : Hid (r = false) := by show _ = _; rw [hr, fitsB, hq]; rfl
    rw [← hr]
    clear hq hr
    go_enter Tryz.func35, Tryz.ntmps35
    go_wp2_with fail
    rw [← HW.out]
    refine (implRight_is t _ HQ.out _ _ (IsSh.keep (Keeps.of_below HBW.out) _ _ HH.out)).mono ?_
    rintro e w1 ⟨rfl, hb1⟩
    have HB1 := Lib.hid (HBW.out.trans (hb1.mono HBW.out.size))
    clear hb1
    go_wp2_with fail
    go_ret
    exact ⟨ret_bool HR.out.symm, HB1.out⟩
  · have HQ := Lib.hid hq
    have HR : Hid (r = fitB t x) := by show _ = _; rw [hr, fitsB, hq]; rfl
    rw [← hr]
    clear hq hr
    obtain ⟨_, _, _, _, _, _, _, _, az⟩ := blk4 S1.out
    obtain ⟨_, _, _, _, _, _, _, _, bz⟩ := blk4 S2.out
    go_enter Tryz.func35, Tryz.ntmps35
    go_wp2_with fail
    rw [← HW.out]
    refine (implRight_is t _ HQ.out _ _ (IsSh.keep (Keeps.of_below HBW.out) _ _ HH.out)).mono ?_
    rintro e w1 ⟨rfl, hb1⟩
    have HB1 := Lib.hid (HBW.out.trans (hb1.mono HBW.out.size))
    obtain ⟨_, _, _, _, _, _, _, _, _⟩ := blk4 (blk_below S1.out hb1 az)
    obtain ⟨_, _, _, _, _, _, _, _, _⟩ := blk4 (blk_below S2.out hb1 bz)
    clear hb1
    go_wp2_with fail
    refine (fr_any 5 (Nat.le_refl _) t x _ _ _ HQ.out (IsSh.keep (Keeps.of_below HB1.out) _ _ HH.out) (IsVa.keep (Keeps.of_below HB1.out) _ _ GG.out)).mono ?_
    rintro e w2 ⟨rfl, hb2⟩
    have HB2 := Lib.hid (HB1.out.trans (hb2.mono HB1.out.size))
    clear hb2
    go_wp2_with fail
    go_ret
    exact ⟨ret_bool HR.out.symm, HB2.out⟩
end Go.Proofs.YtnnjhcjalmdmcaaGreat
