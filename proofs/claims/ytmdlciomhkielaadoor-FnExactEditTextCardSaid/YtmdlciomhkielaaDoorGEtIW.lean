/- Walks: strconv.FormatInt of a small number; strings.Join with gaps; impl.EditText. -/
import Derived.Test.YtmdlciomhkielaaDoorGEtP
import Derived.Test.YtmdlciomhkielaaDoorGPathTW
import Derived.Test.YtmdlciomhkielaaDoorGStrsW
import Derived.Test.YtmdlciomhkielaaDoorGApp5W
import Derived.Deep.RegionHeld3
import Derived.Deep.DeepCutAuto
namespace Go.Proofs.YtmdlciomhkielaaDoor
open Go.RowKit

theorem small_any (n : Nat) (hn : n ≤ 5) (w : World) :
    Calls Tryd.prog 110 #[.int .i64 (n : Int)] w fun e w' => e = .returned (.string ⟨(decE n).toArray⟩) ∧ w = w' := by
  have hc : n = 0 ∨ n = 1 ∨ n = 2 ∨ n = 3 ∨ n = 4 ∨ n = 5 := by omega
  rw [decE_small hn]
  clear hn
  rcases hc with rfl | rfl | rfl | rfl | rfl | rfl
  all_goals
    go_enter Tryd.func110, Tryd.ntmps110
    go_wp2_with fail
    go_ret
    exact ⟨rfl, rfl⟩
theorem fmtI_any (n : Nat) (hn : n ≤ 5) (w : World) :
    Calls Tryd.prog 96 #[.int .i64 (n : Int), .int .i64 10] w fun e w' => e = .returned (.string ⟨(decE n).toArray⟩) ∧ w = w' := by
  have h1 : (0 : Int) ≤ (n : Int) := by omega
  have h2 : (n : Int) < 100 := by omega
  obtain ⟨x, hx⟩ : ∃ x : ByteArray, x = ⟨(decE n).toArray⟩ := ⟨_, rfl⟩
  have HC := Lib.hid (small_any n hn)
  rw [← hx] at HC ⊢
  clear hx
  go_enter Tryd.func96, Tryd.ntmps96
  go_wp2_with fail
  refine (HC.out _).mono ?_
  rintro e w' ⟨rfl, rfl⟩
  go_wp2_with fail
  go_ret
  exact ⟨rfl, rfl⟩
theorem fmt_any (n : Nat) (hn : n ≤ 5) (w : World) :
    Calls Tryd.prog 63 #[.int .i64 (n : Int), .int .i64 10] w fun e w' => e = .returned (.string ⟨(decE n).toArray⟩) ∧ w = w' := by
  go_enter Tryd.func63, Tryd.ntmps63
  go_wp2_with fail
  refine (fmtI_any n hn _).mono ?_
  rintro e w' ⟨rfl, rfl⟩
  go_wp2_with fail
  go_ret
  exact ⟨rfl, rfl⟩

/-- How long it gets. -/
theorem tail_len : ∀ l : List ByteArray, (∀ s ∈ l, s.size ≤ 200000) → (Lib.joinTail [32] (l.map (·.data.toList))).length ≤ l.length * 200001 := by
  intro l
  induction l with
  | nil => intro _; simp [Lib.joinTail]
  | cons x l ih =>
    intro h
    have h1 := h x (by simp)
    have h2 := ih fun y hy => h y (by simp [hy])
    have h3 : x.data.toList.length = x.size := len_list x
    rw [List.map_cons]
    unfold Lib.joinTail at h2 ⊢
    rw [List.map_cons, List.flatten_cons]
    simp only [List.length_append, List.length_cons, List.length_nil, h3]
    omega
theorem join_len (l : List ByteArray) (h : ∀ s ∈ l, s.size ≤ 200000) : (Lib.join (l.map (·.data.toList)) [32]).length ≤ l.length * 200001 := by
  cases l with
  | nil => simp [Lib.join_nil]
  | cons x l =>
    have h1 := h x (by simp)
    have h2 := tail_len l fun y hy => h y (by simp [hy])
    have h3 : x.data.toList.length = x.size := len_list x
    rw [List.map_cons, Lib.join_cons]
    simp only [List.length_append, List.length_cons, h3]
    omega
theorem optE_le {P : List ByteArray} {f : Bool} {x : ByteArray} {k : Nat} (h : P.length ≤ k) : (P ++ optE f x).length ≤ k + 1 := Nat.le_trans (optE_len P f x) (Nat.succ_le_succ h)
/-- strings.Join with gaps. -/
theorem joinGap_any (v : Value) (l : List ByteArray) (w : World) (h : IsStrs w v l) (hl : l.length ≤ 7) (hs : ∀ s ∈ l, s.size ≤ 200000) :
    Calls Tryd.prog 65 #[v, .string ⟨#[32]⟩] w fun e w' => e = .returned (.string (joinE l)) ∧ Below w.heap.size w w' := by
  obtain ⟨h1, h2, a, cap, rfl, h3, h4, h6⟩ := h
  have hn := join_len l hs
  rcases h6 with rfl | ⟨b, off, rfl, hc⟩
  · refine (Tryd.strings_Join_none a cap ⟨#[32]⟩ w).mono ?_
    rintro e w' ⟨rfl, rfl⟩
    exact ⟨rfl, Below.refl _ _⟩
  · cases l with
    | nil =>
      refine (Tryd.strings_Join_none (some ⟨b, off, none⟩) cap ⟨#[32]⟩ w).mono ?_
      rintro e w' ⟨rfl, rfl⟩
      exact ⟨rfl, Below.refl _ _⟩
    | cons x l =>
      have hb : b < w.heap.size := World.block_lt_of_cell? w ⟨b, off + 0, none⟩ (hc 0 (by simp))
      refine Tryd.strings_Join b off cap (x :: l) ⟨#[32]⟩ w (fun j y hj => ?_) hb (by omega) h3 (Nat.le_trans hn (Nat.le_trans (Nat.mul_le_mul_right _ hl) (by decide)))
      obtain ⟨hj1, rfl⟩ := List.getElem?_eq_some_iff.1 hj
      exact hc j hj1

theorem kw_on {w w' : World} (h : KwAt w) (hk : Keeps w w') : KwAt w' := fun k hk' => hk _ _ _ (h k hk')
/-- The parts so far. -/
def Pts (V wc : World) (x : Value) (P : List ByteArray) : Prop := OwnStrs wc V.heap.size x P ∧ Below V.heap.size V wc

set_option maxRecDepth 100000 in
set_option maxHeartbeats 8000000 in
theorem implEdText_is (t : Ed) (r : ByteArray) (hr : etT t = r) (v : Value) (w : World) (h : IsEd w t v) (hek : EkAt w) (hkw : KwAt w) :
    Calls Tryd.prog 28 #[v] w fun e w' => e = .returned (.string r) ∧ Below w.heap.size w w' := by
  have HH := Lib.hid h
  have EK := Lib.hid hek
  have KW := Lib.hid hkw
  obtain ⟨p0, m0, p1, n1, m1, p2, n2, m2, p3, n3, m3, q1, i1, j1, q2, i2, j2, q3, i3, j3, rfl, _, _, y3, y4, h5, h6, h7⟩ := h
  obtain ⟨kd, path, pl, nm, tn, sh, ws⟩ := t
  dsimp only at HH h5 h6 h7 y3 y4 ⊢
  obtain ⟨W, hW⟩ : ∃ W, W = w.alloc (.cells #[.int .i64 kd, .slice p0 path.length m0, .int .i64 pl, .string nm, .string tn, .int .i64 sh.kd, .slice p1 n1 m1, .slice p2 n2 m2, .slice p3 n3 m3, .int .i64 ws.kd, .slice q1 i1 j1, .slice q2 i2 j2, .slice q3 i3 j3] 51) := ⟨_, rfl⟩
  have hba := below_alloc w (.cells #[.int .i64 kd, .slice p0 path.length m0, .int .i64 pl, .string nm, .string tn, .int .i64 sh.kd, .slice p1 n1 m1, .slice p2 n2 m2, .slice p3 n3 m3, .int .i64 ws.kd, .slice q1 i1 j1, .slice q2 i2 j2, .slice q3 i3 j3] 51)
  have hx := Go.Deep.blk_alloc_new w (.cells #[.int .i64 kd, .slice p0 path.length m0, .int .i64 pl, .string nm, .string tn, .int .i64 sh.kd, .slice p1 n1 m1, .slice p2 n2 m2, .slice p3 n3 m3, .int .i64 ws.kd, .slice q1 i1 j1, .slice q2 i2 j2, .slice q3 i3 j3] 51)
  rw [← hW] at hba hx
  have A0 := Lib.hid hx
  have B0 := Lib.hid hba
  have HW := Lib.hid hW
  have HR := Lib.hid hr
  have H5 := Lib.hid h5
  have H6 := Lib.hid h6
  have H7 := Lib.hid h7
  obtain ⟨ok, hok⟩ : ∃ ok, edOk ⟨kd, path, pl, nm, tn, sh, ws⟩ = ok := ⟨_, rfl⟩
  have OK := Lib.hid hok
  clear hba hx hW hr hok h5 h6 h7 hek hkw
  have a0 := cel A0.out 0 rfl
  have a1 := cel A0.out 1 rfl
  have a2 := cel A0.out 2 rfl
  have a3 := cel A0.out 3 rfl
  have a4 := cel A0.out 4 rfl
  have a5 := cel A0.out 5 rfl
  have a6 := cel A0.out 6 rfl
  have a7 := cel A0.out 7 rfl
  have a8 := cel A0.out 8 rfl
  have a9 := cel A0.out 9 rfl
  have a10 := cel A0.out 10 rfl
  have a11 := cel A0.out 11 rfl
  have a12 := cel A0.out 12 rfl
  go_enter Tryd.func28, Tryd.ntmps28
  go_wp2_with fail
  rw [← HW.out]
  refine (implEd_is ⟨kd, path, pl, nm, tn, sh, ws⟩ ok OK.out _ _ (HH.out.keep (Keeps.of_below B0.out)) (EK.out.keep (Keeps.of_below B0.out))).mono ?_
  rintro e w1 ⟨rfl, hb1⟩
  have A1 := Lib.hid (blk_below A0.out hb1 (Array.getElem?_eq_some_iff.1 A0.out).1)
  have B1 := Lib.hid (B0.out.trans (hb1.mono B0.out.size))
  clear hb1 a0 a1 a2 a3 a4 a5 a6 a7 a8 a9 a10 a11 a12
  cases ok
  · have HE : Hid (r = ⟨#[]⟩) := by show _ = _; rw [← HR.out]; unfold etT; rw [OK.out]; rfl
    go_wp2_with fail
    go_ret
    exact ⟨ret_str HE.out.symm, B1.out⟩
  obtain ⟨⟨g1, g2⟩, _⟩ := ed_small OK.out
  obtain ⟨e1, e2, e3, e4, e5⟩ := et_small OK.out
  dsimp only at g1 g2 e1 e2 e3 e4 e5
  obtain ⟨k, rfl⟩ : ∃ k : Nat, kd = (k : Int) := ⟨kd.toNat, by omega⟩
  have k0 : (0 : Int) ≤ (k : Int) := by omega
  have k11 : (k : Int) < 11 := by omega
  have HE : Hid (joinE (etP ⟨(k : Int), path, pl, nm, tn, sh, ws⟩) = r) := by show _ = _; rw [← HR.out]; exact et_same _ OK.out
  have E1 := Lib.hid e1
  have E4 := Lib.hid e4
  have E5 := Lib.hid e5
  have EK' := Lib.hid ((EK.out.keep (Keeps.of_below B1.out)) k (by omega))
  obtain ⟨f0, hf0⟩ : ∃ f, f = hasPl k := ⟨_, rfl⟩
  obtain ⟨f1, hf1⟩ : ∃ f, f = hasNm k := ⟨_, rfl⟩
  obtain ⟨f2, hf2⟩ : ∃ f, f = hasTo k := ⟨_, rfl⟩
  obtain ⟨f3, hf3⟩ : ∃ f, f = hasSh k := ⟨_, rfl⟩
  obtain ⟨f4, hf4⟩ : ∃ f, f = hasWs k := ⟨_, rfl⟩
  obtain ⟨wd, hwd⟩ : ∃ x, x = edWord k := ⟨_, rfl⟩
  obtain ⟨pt, hpt⟩ : ∃ x, pathT path = x := ⟨_, rfl⟩
  have hws : wd.size ≤ 5 := by rw [hwd]; exact edWord_size k
  have hps : pt.size ≤ 46 := by rw [← hpt]; exact pathT_size path
  have HP0 : Hid (etP ⟨(k : Int), path, pl, nm, tn, sh, ws⟩ = ((((([wd, pt] ++ optE f0 ⟨(decE pl.toNat).toArray⟩) ++ optE f1 nm) ++ optE f2 tn) ++ optE f3 ⟨sh.txt.toArray⟩) ++ optE f4 ⟨ws.txt.toArray⟩)) := by
    show _ = _; rw [hwd, ← hpt, hf0, hf1, hf2, hf3, hf4]; rfl
  rw [HP0.out] at HE
  rw [← hf0, ← hf1, ← hf2, ← hf3, ← hf4, ← hwd] at EK'
  rw [← hf0] at E1
  rw [← hf3] at E4
  rw [← hf4] at E5
  obtain ⟨c0, c1, c2, c3, c4, c5, c6, c7⟩ := EK'.out
  clear g1 g2 e1 e4 e5 HP0 hf0 hf1 hf2 hf3 hf4 hwd
  have CP := Lib.hid (fun (w' : World) (hb : Below w1.heap.size w1 w') => implPathText_is _ path pt hpt w' (H5.out.keep (Keeps.of_below (B1.out.trans (hb.mono B1.out.size)))))
  clear hpt
  obtain ⟨V, hV⟩ : ∃ V, V = w1.alloc (.cells #[.string wd, .int .i64 (edBackK k), .int .i64 (edOf k), .bool f0, .bool f1, .bool f2, .bool f3, .bool f4] 85) := ⟨_, rfl⟩
  have hbv := below_alloc w1 (.cells #[.string wd, .int .i64 (edBackK k), .int .i64 (edOf k), .bool f0, .bool f1, .bool f2, .bool f3, .bool f4] 85)
  have hc := Go.Deep.blk_alloc_new w1 (.cells #[.string wd, .int .i64 (edBackK k), .int .i64 (edOf k), .bool f0, .bool f1, .bool f2, .bool f3, .bool f4] 85)
  rw [← hV] at hbv hc
  have B2 := Lib.hid (B1.out.trans (hbv.mono B1.out.size))
  have A2 := Lib.hid (blk_below A1.out hbv (Array.getElem?_eq_some_iff.1 A1.out).1)
  have C2 := Lib.hid hc
  have HV := Lib.hid hV
  have BV := Lib.hid hbv
  clear hV hbv hc
  have a0 := cel A1.out 0 rfl
  go_upto_region 4 with fail
  rw [← HV.out]
  clear a0 c0 c1 c2 c3 c4 c5 c6 c7
  have HSK : Hid (∀ w', Below V.heap.size V w' → (w'.cell? ⟨w1.heap.size, 0, none⟩ = some (.string wd) ∧ w'.cell? ⟨w.heap.size, 1, none⟩ = some (.slice p0 path.length m0))) := fun w' hb => ⟨Keeps.of_below hb _ _ _ (cel C2.out 0 rfl), Keeps.of_below hb _ _ _ (cel A2.out 1 rfl)⟩
  go_cut [4] (fun x wc => Hid (Pts V wc x [wd, pt]))
  case first =>
    go_region_held3 (fun w' => w'.cell? ⟨w1.heap.size, 0, none⟩ = some (.string wd) ∧ w'.cell? ⟨w.heap.size, 1, none⟩ = some (.slice p0 path.length m0))
      (first
        | with_reducible exact HSK.out _ (BB.out.alloc BB.out.size _)
        | with_reducible exact HSK.out _ BB.out
        | with_reducible exact HSK.out _ (Below.refl _ V).drew)
      (first
        | (go_at_call 62; (with_reducible show Go.Calls _ _ _ (V.drew) _); refine (CP.out V.drew (BV.out.drew)).mono ?_; rintro e wb ⟨rfl, hb⟩; have BB := Lib.hid ((Below.refl V.heap.size V).drew.trans (show Below V.heap.size V.drew wb from hb)); clear hb)
        | fail)
    all_goals
      go_wp2_with fail
      go_meet
      exact ⟨⟨by intro s hs; simp at hs; rcases hs with rfl | rfl <;> omega, World.ownsRow_lit _ _ _ BB.out.size (by decide) rfl⟩, BB.out.alloc BB.out.size _⟩
  case rest =>
    rename World => w2
    have HC := hcut
    have N0 : ([wd, pt] : List ByteArray).length ≤ 2 := Nat.le_refl _
    have N1 := optE_le (f := f0) (x := ⟨(decE pl.toNat).toArray⟩) N0
    have N2 := optE_le (f := f1) (x := nm) N1
    have N3 := optE_le (f := f2) (x := tn) N2
    have N4 := optE_le (f := f3) (x := ⟨sh.txt.toArray⟩) N3
    have N5 := optE_le (f := f4) (x := ⟨ws.txt.toArray⟩) N4
    clear hcut HSK CP
    obtain ⟨s0, l0, z0, rfl⟩ := OwnStrs.slice HC.out.1
    have BW0 := Lib.hid HC.out.2
    have A3 := Lib.hid (blk_below A2.out BW0.out (Array.getElem?_eq_some_iff.1 A2.out).1)
    have C3 := Lib.hid (blk_below C2.out BW0.out (Array.getElem?_eq_some_iff.1 C2.out).1)
    have B3 := Lib.hid (B2.out.trans (BW0.out.mono B2.out.size))
    have c3 := cel C3.out 3 rfl
    go_upto_if 19 with fail
    go_cut [4] (fun x wc => Hid (Pts V wc x ([wd, pt] ++ optE f0 ⟨(decE pl.toNat).toArray⟩)))
    case first =>
      cases f0
      · go_wp2_with fail
        go_meet
        exact ⟨by have := HC.out.1; rw [show ([wd, pt] ++ optE false ⟨(decE pl.toNat).toArray⟩) = [wd, pt] from List.append_nil _]; exact this, BW0.out⟩
      · obtain ⟨y1, y2⟩ := E1.out rfl
        obtain ⟨n, rfl⟩ : ∃ n : Nat, pl = (n : Int) := ⟨pl.toNat, by omega⟩
        have hn5 : n ≤ 5 := by omega
        have a2 := cel A3.out 2 rfl
        obtain ⟨x, hx⟩ : ∃ x : ByteArray, x = ⟨(decE n).toArray⟩ := ⟨_, rfl⟩
        have hxs : x.size ≤ 1 := by rw [hx, dec_size hn5]; exact Nat.le_refl _
        have HX := Lib.hid hx
        clear hx
        go_wp2_with fail
        refine (fmt_any n hn5 _).mono ?_
        rintro e w' ⟨rfl, rfl⟩
        rw [← HX.out]
        go_wp2_with (at_builtin; go_must (refine wpList_push w2 rfl (.tmp 20) (.tmp 24) rfl V.heap.size _ _ x rfl HC.out.1 rfl (by omega) (Nat.lt_of_le_of_lt N0 (by decide)) BW0.out.size ?_))
        intro v' w' hv hb
        have HV' := Lib.hid hv
        have HB' := Lib.hid (hb _ _ BW0.out (Nat.le_refl _))
        clear hv hb
        go_wp2_with fail
        go_meet
        exact ⟨by have h := HV'.out; rw [HX.out] at h; exact h, HB'.out⟩
    case rest =>
      rename World => w3
      have HC0 := hcut
      clear hcut c3
      obtain ⟨s1, l1, z1, rfl⟩ := OwnStrs.slice HC0.out.1
      have BW1 := Lib.hid HC0.out.2
      have A4 := Lib.hid (blk_below A2.out BW1.out (Array.getElem?_eq_some_iff.1 A2.out).1)
      have C4 := Lib.hid (blk_below C2.out BW1.out (Array.getElem?_eq_some_iff.1 C2.out).1)
      have B4 := Lib.hid (B2.out.trans (BW1.out.mono B2.out.size))
      have c4 := cel C4.out 4 rfl
      go_upto_if 27 with fail
      go_cut [4] (fun x wc => Hid (Pts V wc x (([wd, pt] ++ optE f0 ⟨(decE pl.toNat).toArray⟩) ++ optE f1 nm)))
      case first =>
        cases f1
        · go_wp2_with fail
          go_meet
          exact ⟨by have := HC0.out.1; rw [show (([wd, pt] ++ optE f0 ⟨(decE pl.toNat).toArray⟩) ++ optE false nm) = ([wd, pt] ++ optE f0 ⟨(decE pl.toNat).toArray⟩) from List.append_nil _]; exact this, BW1.out⟩
        · obtain ⟨P, hP⟩ : ∃ P : List ByteArray, ([wd, pt] ++ optE f0 ⟨(decE pl.toNat).toArray⟩) = P := ⟨_, rfl⟩
          have HPE := Lib.hid hP
          have OP := HC0.out.1
          rw [hP] at OP
          have NP := N1
          rw [hP] at NP
          have OPH := Lib.hid OP
          clear hP OP
          have a3 := cel A4.out 3 rfl
          go_wp2_with (at_builtin; go_must (refine wpList_push w3 rfl (.tmp 28) (.tmp 31) rfl V.heap.size _ _ nm rfl OPH.out rfl (by omega) (Nat.lt_of_le_of_lt NP (by decide)) BW1.out.size ?_))
          intro v' w' hv hb
          have HV' := Lib.hid hv
          have HB' := Lib.hid (hb _ _ BW1.out (Nat.le_refl _))
          clear hv hb
          go_wp2_with fail
          go_meet
          exact ⟨by have h := HV'.out; rw [← HPE.out] at h; exact h, HB'.out⟩
      case rest =>
        rename World => w4
        have HC1 := hcut
        clear hcut c4
        obtain ⟨s2, l2, z2, rfl⟩ := OwnStrs.slice HC1.out.1
        have BW2 := Lib.hid HC1.out.2
        have A5 := Lib.hid (blk_below A2.out BW2.out (Array.getElem?_eq_some_iff.1 A2.out).1)
        have C5 := Lib.hid (blk_below C2.out BW2.out (Array.getElem?_eq_some_iff.1 C2.out).1)
        have B5 := Lib.hid (B2.out.trans (BW2.out.mono B2.out.size))
        have c5 := cel C5.out 5 rfl
        go_upto_if 34 with fail
        go_cut [4] (fun x wc => Hid (Pts V wc x ((([wd, pt] ++ optE f0 ⟨(decE pl.toNat).toArray⟩) ++ optE f1 nm) ++ optE f2 tn)))
        case first =>
          cases f2
          · go_wp2_with fail
            go_meet
            exact ⟨by have := HC1.out.1; rw [show ((([wd, pt] ++ optE f0 ⟨(decE pl.toNat).toArray⟩) ++ optE f1 nm) ++ optE false tn) = (([wd, pt] ++ optE f0 ⟨(decE pl.toNat).toArray⟩) ++ optE f1 nm) from List.append_nil _]; exact this, BW2.out⟩
          · obtain ⟨P, hP⟩ : ∃ P : List ByteArray, (([wd, pt] ++ optE f0 ⟨(decE pl.toNat).toArray⟩) ++ optE f1 nm) = P := ⟨_, rfl⟩
            have HPE := Lib.hid hP
            have OP := HC1.out.1
            rw [hP] at OP
            have NP := N2
            rw [hP] at NP
            have OPH := Lib.hid OP
            clear hP OP
            have a4 := cel A5.out 4 rfl
            go_wp2_with (at_builtin; go_must (refine wpList_push w4 rfl (.tmp 35) (.tmp 38) rfl V.heap.size _ _ tn rfl OPH.out rfl (by omega) (Nat.lt_of_le_of_lt NP (by decide)) BW2.out.size ?_))
            intro v' w' hv hb
            have HV' := Lib.hid hv
            have HB' := Lib.hid (hb _ _ BW2.out (Nat.le_refl _))
            clear hv hb
            go_wp2_with fail
            go_meet
            exact ⟨by have h := HV'.out; rw [← HPE.out] at h; exact h, HB'.out⟩
        case rest =>
          rename World => w5
          have HC2 := hcut
          clear hcut c5
          obtain ⟨s3, l3, z3, rfl⟩ := OwnStrs.slice HC2.out.1
          have BW3 := Lib.hid HC2.out.2
          have A6 := Lib.hid (blk_below A2.out BW3.out (Array.getElem?_eq_some_iff.1 A2.out).1)
          have C6 := Lib.hid (blk_below C2.out BW3.out (Array.getElem?_eq_some_iff.1 C2.out).1)
          have B6 := Lib.hid (B2.out.trans (BW3.out.mono B2.out.size))
          have c6 := cel C6.out 6 rfl
          go_upto_if 41 with fail
          go_cut [4] (fun x wc => Hid (Pts V wc x (((([wd, pt] ++ optE f0 ⟨(decE pl.toNat).toArray⟩) ++ optE f1 nm) ++ optE f2 tn) ++ optE f3 ⟨sh.txt.toArray⟩)))
          case first =>
            cases f3
            · go_wp2_with fail
              go_meet
              exact ⟨by have := HC2.out.1; rw [show (((([wd, pt] ++ optE f0 ⟨(decE pl.toNat).toArray⟩) ++ optE f1 nm) ++ optE f2 tn) ++ optE false ⟨sh.txt.toArray⟩) = ((([wd, pt] ++ optE f0 ⟨(decE pl.toNat).toArray⟩) ++ optE f1 nm) ++ optE f2 tn) from List.append_nil _]; exact this, BW3.out⟩
            · obtain ⟨P, hP⟩ : ∃ P : List ByteArray, ((([wd, pt] ++ optE f0 ⟨(decE pl.toNat).toArray⟩) ++ optE f1 nm) ++ optE f2 tn) = P := ⟨_, rfl⟩
              have HPE := Lib.hid hP
              have OP := HC2.out.1
              rw [hP] at OP
              have NP := N3
              rw [hP] at NP
              have OPH := Lib.hid OP
              clear hP OP
              have a5 := cel A6.out 5 rfl
              have a6 := cel A6.out 6 rfl
              have a7 := cel A6.out 7 rfl
              have a8 := cel A6.out 8 rfl
              have HOKX := Lib.hid (E4.out rfl)
              obtain ⟨x, hx⟩ : ∃ x : ByteArray, x = ⟨sh.txt.toArray⟩ := ⟨_, rfl⟩
              have hxs : x.size ≤ 200000 := by rw [hx]; exact txt_small HOKX.out
              have HX := Lib.hid hx
              have HTX : Hid (textOf sh = sh.txt) := by show _ = _; unfold textOf; rw [show rightB sh = true from HOKX.out]; rfl
              clear hx
              go_wp2_with fail
              refine (implText_is sh _ HTX.out _ _ (IsSh.keep (Keeps.of_below B6.out) _ _ H6.out) (kw_on KW.out (Keeps.of_below B6.out))).mono ?_
              rintro e wt ⟨rfl, hb⟩
              rw [← HX.out]
              have BT := Lib.hid (BW3.out.trans (hb.mono BW3.out.size))
              have OT := Lib.hid (OwnStrs.block OPH.out hb)
              clear hb
              go_wp2_with (at_builtin; go_must (refine wpList_push wt rfl (.tmp 42) (.tmp 46) rfl V.heap.size _ _ x rfl OT.out rfl (by omega) (Nat.lt_of_le_of_lt NP (by decide)) BT.out.size ?_))
              intro v' w' hv hb
              have HV' := Lib.hid hv
              have HB' := Lib.hid (hb _ _ BT.out (Nat.le_refl _))
              clear hv hb
              go_wp2_with fail
              go_meet
              exact ⟨by have h := HV'.out; rw [HX.out, ← HPE.out] at h; exact h, HB'.out⟩
          case rest =>
            rename World => w6
            have HC3 := hcut
            clear hcut c6
            obtain ⟨s4, l4, z4, rfl⟩ := OwnStrs.slice HC3.out.1
            have BW4 := Lib.hid HC3.out.2
            have A7 := Lib.hid (blk_below A2.out BW4.out (Array.getElem?_eq_some_iff.1 A2.out).1)
            have C7 := Lib.hid (blk_below C2.out BW4.out (Array.getElem?_eq_some_iff.1 C2.out).1)
            have B7 := Lib.hid (B2.out.trans (BW4.out.mono B2.out.size))
            have c7 := cel C7.out 7 rfl
            go_upto_if 49 with fail
            go_cut [4] (fun x wc => Hid (Pts V wc x ((((([wd, pt] ++ optE f0 ⟨(decE pl.toNat).toArray⟩) ++ optE f1 nm) ++ optE f2 tn) ++ optE f3 ⟨sh.txt.toArray⟩) ++ optE f4 ⟨ws.txt.toArray⟩)))
            case first =>
              cases f4
              · go_wp2_with fail
                go_meet
                exact ⟨by have := HC3.out.1; rw [show ((((([wd, pt] ++ optE f0 ⟨(decE pl.toNat).toArray⟩) ++ optE f1 nm) ++ optE f2 tn) ++ optE f3 ⟨sh.txt.toArray⟩) ++ optE false ⟨ws.txt.toArray⟩) = (((([wd, pt] ++ optE f0 ⟨(decE pl.toNat).toArray⟩) ++ optE f1 nm) ++ optE f2 tn) ++ optE f3 ⟨sh.txt.toArray⟩) from List.append_nil _]; exact this, BW4.out⟩
              · obtain ⟨P, hP⟩ : ∃ P : List ByteArray, (((([wd, pt] ++ optE f0 ⟨(decE pl.toNat).toArray⟩) ++ optE f1 nm) ++ optE f2 tn) ++ optE f3 ⟨sh.txt.toArray⟩) = P := ⟨_, rfl⟩
                have HPE := Lib.hid hP
                have OP := HC3.out.1
                rw [hP] at OP
                have NP := N4
                rw [hP] at NP
                have OPH := Lib.hid OP
                clear hP OP
                have a9 := cel A7.out 9 rfl
                have a10 := cel A7.out 10 rfl
                have a11 := cel A7.out 11 rfl
                have a12 := cel A7.out 12 rfl
                have HOKX := Lib.hid (E5.out rfl)
                obtain ⟨x, hx⟩ : ∃ x : ByteArray, x = ⟨ws.txt.toArray⟩ := ⟨_, rfl⟩
                have hxs : x.size ≤ 200000 := by rw [hx]; exact txt_small HOKX.out
                have HX := Lib.hid hx
                have HTX : Hid (textOf ws = ws.txt) := by show _ = _; unfold textOf; rw [show rightB ws = true from HOKX.out]; rfl
                clear hx
                go_wp2_with fail
                refine (implText_is ws _ HTX.out _ _ (IsSh.keep (Keeps.of_below B7.out) _ _ H7.out) (kw_on KW.out (Keeps.of_below B7.out))).mono ?_
                rintro e wt ⟨rfl, hb⟩
                rw [← HX.out]
                have BT := Lib.hid (BW4.out.trans (hb.mono BW4.out.size))
                have OT := Lib.hid (OwnStrs.block OPH.out hb)
                clear hb
                go_wp2_with (at_builtin; go_must (refine wpList_push wt rfl (.tmp 50) (.tmp 54) rfl V.heap.size _ _ x rfl OT.out rfl (by omega) (Nat.lt_of_le_of_lt NP (by decide)) BT.out.size ?_))
                intro v' w' hv hb
                have HV' := Lib.hid hv
                have HB' := Lib.hid (hb _ _ BT.out (Nat.le_refl _))
                clear hv hb
                go_wp2_with fail
                go_meet
                exact ⟨by have h := HV'.out; rw [HX.out, ← HPE.out] at h; exact h, HB'.out⟩
            case rest =>
              rename World => w7
              have HC4 := hcut
              clear hcut c7
              obtain ⟨s5, l5, z5, rfl⟩ := OwnStrs.slice HC4.out.1
              have HLEN : Hid (∀ s ∈ ((((([wd, pt] ++ optE f0 ⟨(decE pl.toNat).toArray⟩) ++ optE f1 nm) ++ optE f2 tn) ++ optE f3 ⟨sh.txt.toArray⟩) ++ optE f4 ⟨ws.txt.toArray⟩), s.size ≤ 200000) := optE_small (optE_small (optE_small (optE_small (optE_small (by intro s hs; simp at hs; rcases hs with rfl | rfl <;> omega) (fun e => by obtain ⟨y1, y2⟩ := E1.out e; rw [dec_size (n := pl.toNat) (by omega)]; decide)) (fun _ => by omega)) (fun _ => by omega)) (fun e => txt_small (E4.out e))) (fun e => txt_small (E5.out e))
              have CJ := Lib.hid (joinGap_any _ _ w7 HC4.out.1.is N5 HLEN.out)
              rw [HE.out] at CJ
              go_wp2_with fail
              refine CJ.out.mono ?_
              rintro e wz ⟨rfl, hb⟩
              have BZ := Lib.hid (B2.out.trans ((HC4.out.2.trans (hb.mono HC4.out.2.size)).mono B2.out.size))
              clear hb
              go_wp2_with fail
              go_ret
              exact ⟨rfl, BZ.out⟩
end Go.Proofs.YtmdlciomhkielaaDoor
