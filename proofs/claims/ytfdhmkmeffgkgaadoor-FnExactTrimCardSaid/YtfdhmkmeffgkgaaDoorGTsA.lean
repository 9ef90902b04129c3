/- Laws: rows of Edits appended; what is left of an own row. · Walk: spec.Trim. -/
import Derived.Test.YtfdhmkmeffgkgaaDoorGTrB
import Derived.Test.YtfdhmkmeffgkgaaDoorGMkE
import Derived.Test.YtfdhmkmeffgkgaaDoorGCopySpW
import Derived.Deep.RegionHeld3
import Derived.Test.YtfdhmkmeffgkgaaDoorGTrA
import Derived.Test.YtfdhmkmeffgkgaaDoorGLosesW
import Derived.Test.YtfdhmkmeffgkgaaDoorGSpBkW
import Derived.Test.YtfdhmkmeffgkgaaDoorGCpEdW
import Derived.Test.YtfdhmkmeffgkgaaDoorGEdSpW
import Derived.IntWalk
namespace Go.Proofs.YtfdhmkmeffgkgaaDoor
open Go.RowKit

/-- wpAnyH_take, its slot told apart. -/
theorem take_at {P : Program} {md : Region.Mode} {ops : Array Oper} {Q : Exit → Act → World → Prop} {S : World → Prop} {i : Nat} {oi : Oper} {v : Value} {fuel : Nat} {listed : Array Bool} {a : Act} {w : World} (d : Option Tmp) (hi : ops[i]? = some oi) (hd : oi.dst = d)
    (hs : Region.noSelect ops = true) (hf : Region.free md ops listed i = true) (hr : (Region.ready md ops listed).contains i = true)
    (hQ : ∀ c a w, Q (.panic c) (a.put oi.dst v) w → Q (.panic c) a w) (hy : YieldsIf P ops S oi v a) (hS : S w)
    (h : wpAnyH P md ops Q S fuel (listed.setIfInBounds i true) (a.put d v) w) : wpAnyH P md ops Q S (fuel + 1) listed a w :=
  wpAnyH_take hi hs hf hr hQ hy hS (hd ▸ h)
theorem takeE {l : List Value} {n j : Nat} {u : Value} (h : (l.take n)[j]? = some u) : l[j]? = some u := by
  rw [List.getElem?_take] at h
  split at h
  · exact h
  · cases h
theorem dropE {l : List Value} {n j : Nat} {u : Value} (h : (l.drop n)[j]? = some u) : l[n + j]? = some u := by rw [List.getElem?_drop] at h; exact h
theorem run_append_nilE {w : World} (base : Nat) (t ty e : TypeId) (i : TypeInfo) (size c : Nat) (ht : Tryd.prog.underlying t = some (.slice e)) (hi : Tryd.prog.info? e = some i)
    (v : Value) (n : Nat) (xs : List Value) (hown : w.ownsRow base e size v n xs) :
    (Builtin.append_ #[t, t] ty #[v, .slice none 0 c]).run Tryd.prog w = .ok v w := by
  rcases hown.2 with ⟨rfl, rfl⟩ | ⟨g, cap, cur, rfl, _, _, hnc, _⟩
  · simp [Builtin.append_, run_underlying ht, sizeOf, typeInfo, hi, Builtin.lenOf, Builtin.firstCells]
  · simp [Builtin.append_, run_underlying ht, sizeOf, typeInfo, hi, Builtin.lenOf, Builtin.firstCells, hnc, storeCells]
set_option maxRecDepth 100000 in
/-- append(v, u...), u a piece of a row of shapes: where it goes on. -/
theorem wpList_ecat {ops : Array Oper} {rest : List Oper} {o : Oper} {a : Act} {Q : Exit → Act → World → Prop} (W : World) (hgd : o.guard = none) (s x : Operand)
    (ho : o.op = .call { callee := .builtin .append, args := #[s, x], argTypes := #[41, 41] })
    (B : Nat) (p : Option Addr) (n cap : Nat) (xs : List Value) (hs : a.eval s = .slice p n cap) (hown : W.ownsRow B 33 13 (.slice p n cap) n xs)
    (ad : Option Addr) (m c : Nat) (news : List Value) (hx : a.eval x = .slice ad m c) (hl : news.length = m * 13) (hnews : (ad = none ∧ m = 0) ∨ ∃ b off, ad = some ⟨b, off, none⟩ ∧ ∀ j u, news[j]? = some u → W.cell? ⟨b, off + j, none⟩ = some u) (h1 : ∀ u ∈ news, u.oneCell' = true)
    (hn : n + m ≤ 1000000) (hB : B ≤ W.heap.size)
    (h : ∀ p' cap' w', w'.ownsRow B 33 13 (.slice p' (n + m) cap') (n + m) (xs ++ news) → Only (blkOf (.slice p n cap)) W w' → (∀ q ∈ blkOf (.slice p' (n + m) cap'), q ∈ blkOf (.slice p n cap) ∨ W.heap.size ≤ q) → wpList Tryd.prog ops Q rest (a.put o.dst (.slice p' (n + m) cap')) w') :
    wpList Tryd.prog ops Q (o :: rest) a W := by
  obtain ⟨i0, hi, hz0, hz1, hz2⟩ := info_parts info_edit
  refine wpList_plain hgd fun K hK => ?_
  rcases hnews with ⟨rfl, rfl⟩ | ⟨b, off, rfl, hnews⟩
  · obtain rfl : news = [] := by simpa using hl
    have hrun := run_append_nilE (w := W) B 41 o.type 33 i0 13 c Tryd.underlying41 hi _ n xs hown
    unfold Oper.wp
    simp [execOp, ho, resolve, invoke, builtin, hs, hx, hrun, Result.andThen]
    exact hK _ _ (h p cap W (by simpa using hown) (Only.refl _ _) (fun q hq => .inl hq))
  · refine wp_append_own_at s x _ ho B 33 i0 _ 13 232 Tryd.underlying41 hi hz0 hz1 hz2 rfl (by decide) _ n xs hs hown ⟨b, off, none⟩ m c news hx hl (fun j u hj => ?_) h1 (by unfold maxLen; omega) (by omega) hB ?_
    · rw [show (⟨b, off, none⟩ : Addr).add j = ⟨b, off + j, none⟩ from by unfold Addr.add; split <;> simp_all]
      exact hnews j u hj
    · intro v' w' hv hg hat
      obtain ⟨p', cap', rfl⟩ := own_slice' hv
      refine hK _ _ (h p' cap' w' hv ⟨hg.os, hg.tape, hg.output, hg.size, fun q hq hne => hg.block q hq fun e => hne ((ownBlock_blk hown q).1 e.symm)⟩ fun q hq => ?_)
      have e := (ownBlock_blk hv q).2 hq
      rcases hat with ha | ha
      · rw [ha] at e; exact .inl ((ownBlock_blk hown q).1 e)
      · rw [ha] at e
        right
        have := Option.some.inj e
        omega


theorem OwnAllE.cutE {w : World} {B : Nat} : ∀ {l : List Ed} {cs : List Value} {F : List Nat}, OwnAllE w B l cs F → ∀ n, n ≤ l.length → ∃ F1 F2, F = F1 ++ F2 ∧ OwnAllE w B (l.take n) (cs.take (n * 13)) F1 ∧ OwnAllE w B (l.drop n) (cs.drop (n * 13)) F2
  | [], cs, F, h, n, hn => by
    simp only [OwnAllE] at h
    obtain ⟨rfl, rfl⟩ := h
    exact ⟨[], [], rfl, by simp [OwnAllE], by simp [OwnAllE]⟩
  | x :: l, cs, F, h, 0, hn => ⟨[], F, rfl, by simp [OwnAllE], by simpa using h⟩
  | x :: l, cs, F, h, n + 1, hn => by
    simp only [OwnAllE] at h
    obtain ⟨c0, c1, c2, c3, c4, c5, c6, c7, c8, c9, c10, c11, c12, cs', F1, F2, rfl, h1, h2, rfl⟩ := h
    obtain ⟨G1, G2, rfl, g1, g2⟩ := h2.cutE n (by simpa using hn)
    refine ⟨F1 ++ G1, G2, by simp, ?_, ?_⟩
    · rw [show (n + 1) * 13 = n * 13 + 1 + 1 + 1 + 1 + 1 + 1 + 1 + 1 + 1 + 1 + 1 + 1 + 1 by omega]
      simp only [List.take_succ_cons, OwnAllE]
      exact ⟨c0, c1, c2, c3, c4, c5, c6, c7, c8, c9, c10, c11, c12, _, F1, G1, rfl, h1, g1, rfl⟩
    · rw [show (n + 1) * 13 = n * 13 + 1 + 1 + 1 + 1 + 1 + 1 + 1 + 1 + 1 + 1 + 1 + 1 + 1 by omega]
      simpa only [List.drop_succ_cons] using g2
theorem OwnAllE.joinE {w : World} {B : Nat} : ∀ {l1 : List Ed} {cs1 : List Value} {F1 : List Nat} {l2 : List Ed} {cs2 : List Value} {F2 : List Nat}, OwnAllE w B l1 cs1 F1 → OwnAllE w B l2 cs2 F2 → OwnAllE w B (l1 ++ l2) (cs1 ++ cs2) (F1 ++ F2)
  | [], _, _, _, _, _, h1, h2 => by
    simp only [OwnAllE] at h1
    obtain ⟨rfl, rfl⟩ := h1
    exact h2
  | x :: l1, _, _, _, _, _, h1, h2 => by
    simp only [OwnAllE] at h1
    obtain ⟨c0, c1, c2, c3, c4, c5, c6, c7, c8, c9, c10, c11, c12, cs', F1, F2, rfl, h1, h3, rfl⟩ := h1
    show OwnAllE w B (x :: (l1 ++ _)) _ _
    simp only [OwnAllE]
    exact ⟨c0, c1, c2, c3, c4, c5, c6, c7, c8, c9, c10, c11, c12, _, F1, _, rfl, h1, h3.joinE h2, by simp⟩
theorem blk_oneE (v : Value) : (blkOf v).Nodup := by
  have : (blkOf v).length ≤ 1 := by unfold blkOf; split <;> simp
  match hl : blkOf v, this with
  | [], _ => exact List.nodup_nil
  | [q], _ => simp
/-- Two of an own row left out. -/
theorem eds_cut {W wr w2 : World} {cur : List Ed} {p p' : Option Addr} {n cap n2 cap' at' : Nat} {cs : List Value} {F : List Nat} (h : EdsInv W wr cur p n cap cs F) (hl : at' + 2 ≤ cur.length) (hn2 : n2 = (cut2 cur at').length)
    (hr : w2.ownsRow W.heap.size 33 13 (.slice p' n2 cap') n2 (cs.take (at' * 13) ++ cs.drop ((at' + 2) * 13))) (hb : Below wr.heap.size wr w2) (hg : ∀ g ∈ blkOf (.slice p' n2 cap'), wr.heap.size ≤ g) :
    ∃ F', EdsInv W w2 (cut2 cur at') p' n2 cap' (cs.take (at' * 13) ++ cs.drop ((at' + 2) * 13)) F' := by
  obtain ⟨h0, h1, h2, h3, h4⟩ := h
  have hlt := h2.lt
  obtain ⟨F1, F2, rfl, g1, g2⟩ := h2.cutE at' (by omega)
  obtain ⟨hn, hF, hd⟩ := List.nodup_append.1 h3
  -- the blocks of the tail stand behind those of the head
  obtain ⟨G1, G2, e2, _, q2⟩ := g2.cutE 2 (by rw [List.length_drop]; omega)
  subst e2
  rw [List.drop_drop, List.drop_drop, show at' * 13 + 2 * 13 = (at' + 2) * 13 by omega] at q2
  refine ⟨F1 ++ G2, hn2, hr, ?_, ?_, h4.trans (hb.mono h4.size)⟩
  · exact OwnAllE.move (Nat.le_refl _) (fun g hg => hb.block g (hlt g (by simp only [List.mem_append] at hg ⊢; rcases hg with h | h <;> simp [h])).2) (g1.joinE q2)
  · refine List.nodup_append.2 ⟨blk_oneE _, ?_, fun x hx y hy e => ?_⟩
    · simp only [List.nodup_append, List.mem_append] at hF
      exact List.nodup_append.2 ⟨hF.1, hF.2.1.2.1, fun a ha b hb => hF.2.2 a ha b (.inr hb)⟩
    · have := hg x hx
      have := (hlt y (by simp only [List.mem_append] at hy ⊢; rcases hy with h | h <;> simp [h])).2
      omega
end Go.Proofs.YtfdhmkmeffgkgaaDoor
namespace Go.Proofs.YtfdhmkmeffgkgaaDoor
open Go.RowKit

theorem ownE_are {w : World} {B : Nat} : ∀ {l : List Ed} {cs : List Value} {F : List Nat}, OwnAllE w B l cs F → EdsAre w cs l
  | [], cs, F, h => by simp only [OwnAllE] at h; exact h.1
  | x :: l, cs, F, h => by
    simp only [OwnAllE] at h
    obtain ⟨c0, c1, c2, c3, c4, c5, c6, c7, c8, c9, c10, c11, c12, cs', F1, F2, rfl, h1, h2, rfl⟩ := h
    exact ⟨c0, c1, c2, c3, c4, c5, c6, c7, c8, c9, c10, c11, c12, cs', rfl, h1.is, ownE_are h2⟩
def sliceLenT : Value → Nat
  | .slice _ n _ => n
  | _ => 0
set_option maxRecDepth 100000 in
set_option maxHeartbeats 16000000 in
theorem specTrim_is (l r : List Ed) (hr : TrimOf l r) (v : Value) (w : World) (h : IsEds w v l) :
    Calls Tryd.prog 20 #[v] w (EdsPost r w) := by
  have HR := Lib.hid hr
  obtain ⟨a, cap0, rfl, h3, h4, h6⟩ := h
  have H6 := Lib.hid h6
  clear h6 hr
  go_enter Tryd.func20, Tryd.ntmps20
  go_wp2_with fail
  go_loopw [3, 4] (fun o i wr => ∃ (k : Nat) (p : Option Addr) (n cap : Nat) (cs : List Value) (F : List Nat), k ≤ l.length ∧ i = .int .i64 k ∧ o = .slice p n cap ∧ (k = 0 ∨ l.length ≤ 400) ∧ Hid ((l.take k).all edOk = true) ∧ Hid (EdsInv w wr (l.take k) p n cap cs F)) (fun _ i _ => l.length - (intOf i).toNat)
  case atStart => exact ⟨0, _, 0, 0, [], [], Nat.zero_le _, rfl, rfl, .inl rfl, rfl, eds_empty w w (Below.refl _ _)⟩
  case round =>
    obtain ⟨k, p, n, cap, cs, F, hk, rfl, rfl, hsm, HA, HI⟩ := hrel
    by_cases hlt : k < l.length
    · have hlti : (k : Int) < l.length := by omega
      by_cases hbig : 400 < l.length
      · have hbig' : (400 : Int) < l.length := by omega
        have HE : Hid (r = []) := trim_big HR.out hbig
        go_wp2_with fail
        go_ret
        rw [HE.out]
        exact ⟨_, 0, 0, [], [], rfl, eds_empty w wr HI.out.2.2.2.2⟩
      · have hle : (l.length : Int) ≤ 400 := by omega
        have HLE : Hid (l.length ≤ 400) := by show _ ≤ _; omega
        obtain ⟨b, off, rfl, c0, c1, c2, c3, c4, c5, c6, c7, c8, c9, c10, c11, c12, g0, g1, g2, g3, g4, g5, g6, g7, g8, g9, g10, g11, g12, g13⟩ := IsEds.at H6.out hlt
        have HB := Lib.hid HI.out.2.2.2.2
        have HK := Lib.hid (Keeps.of_below HB.out)
        have k0 := HK.out _ _ _ g0
        have k1 := HK.out _ _ _ g1
        have k2 := HK.out _ _ _ g2
        have k3 := HK.out _ _ _ g3
        have k4 := HK.out _ _ _ g4
        have k5 := HK.out _ _ _ g5
        have k6 := HK.out _ _ _ g6
        have k7 := HK.out _ _ _ g7
        have k8 := HK.out _ _ _ g8
        have k9 := HK.out _ _ _ g9
        have k10 := HK.out _ _ _ g10
        have k11 := HK.out _ _ _ g11
        have k12 := HK.out _ _ _ g12
        have K13 := Lib.hid (g13.keep HK.out)
        have HG := Lib.hid (And.intro g0 (And.intro g1 (And.intro g2 (And.intro g3 (And.intro g4 (And.intro g5 (And.intro g6 (And.intro g7 (And.intro g8 (And.intro g9 (And.intro g10 (And.intro g11 g12))))))))))))
        have HLT : Hid (k < l.length) := hlt
        clear g0 g1 g2 g3 g4 g5 g6 g7 g8 g9 g10 g11 g12 g13 hsm hbig
        cases hok : edOk l[k]
        · have HE : Hid (r = []) := trim_no HR.out hlt hok
          have OK := Lib.hid hok
          clear hok
          go_wp2_with fail
          refine (specEd_is l[k] false OK.out _ _ K13.out).mono ?_
          rintro e w1 ⟨rfl, hb1⟩
          have HB1 := Lib.hid (HB.out.trans (hb1.mono HB.out.size))
          clear hb1 k0 k1 k2 k3 k4 k5 k6 k7 k8 k9 k10 k11 k12
          go_wp2_with fail
          go_ret
          rw [HE.out]
          exact ⟨_, 0, 0, [], [], rfl, eds_empty w w1 HB1.out⟩
        · have OK := Lib.hid hok
          obtain ⟨_, ⟨s1, _⟩, _, _, s5, s6⟩ := ed_small hok
          have S1 := Lib.hid s1
          have S5 := Lib.hid s5
          have S6 := Lib.hid s6
          have HA2 : Hid ((l.take (k + 1)).all edOk = true) := by show _ = _; rw [List.take_succ_eq_append_getElem hlt, List.all_append, HA.out]; simp; exact OK.out
          have HD : Hid (l.take (k + 1) = l.take k ++ [l[k]]) := List.take_succ_eq_append_getElem hlt
          clear hok s1 s5 s6
          go_wp2_with fail
          refine (specEd_is l[k] true OK.out _ _ K13.out).mono ?_
          rintro e w1 ⟨rfl, hb1⟩
          have HI1 := Lib.hid (HI.out.below hb1)
          have K13b := Lib.hid (K13.out.keep (Keeps.of_below hb1))
          have HK1 := Lib.hid (Keeps.of_below hb1)
          have m0 := HK1.out _ _ _ k0
          have m1 := HK1.out _ _ _ k1
          have m2 := HK1.out _ _ _ k2
          have m3 := HK1.out _ _ _ k3
          have m4 := HK1.out _ _ _ k4
          have m5 := HK1.out _ _ _ k5
          have m6 := HK1.out _ _ _ k6
          have m7 := HK1.out _ _ _ k7
          have m8 := HK1.out _ _ _ k8
          have m9 := HK1.out _ _ _ k9
          have m10 := HK1.out _ _ _ k10
          have m11 := HK1.out _ _ _ k11
          have m12 := HK1.out _ _ _ k12
          clear hb1 k0 k1 k2 k3 k4 k5 k6 k7 k8 k9 k10 k11 k12
          go_wp2_with fail
          refine (cpEd_is l[k] S1.out S5.out S6.out _ w1 K13b.out).mono ?_
          rintro e w2 ⟨v2, F2, rfl, ho, hn, hb2⟩
          obtain ⟨e0, e1, e2, e3, e4, e5, e6, e7, e8, e9, e10, e11, e12, e13, e14, e15, e16, e17, e18, e19, rfl, _, _, _, _, _, _, _⟩ := ho.is
          have HI2 := Lib.hid (HI1.out.below hb2)
          have HO := Lib.hid ho
          have HN := Lib.hid hn
          have ZW := Lib.hid HI1.out.2.2.2.2.size
          have HDJ : Hid (∀ g ∈ F2, g ∉ blkOf (.slice p n cap) ∧ g ∉ F) := fun g hg => by
            have q := (OwnEd.blocks ho g hg).1
            exact ⟨fun hm => by have := (blkOf_own HI1.out.2.1 g hm).2; omega, fun hm => by have := (HI1.out.2.2.1.lt g hm).2; omega⟩
          have hnl : n ≤ 4000000 := by have := HI1.out.1; rw [this]; simp; have := HLE.out; omega
          have HNL := Lib.hid hnl
          clear hb2 ho hn hnl m0 m1 m2 m3 m4 m5 m6 m7 m8 m9 m10 m11 m12
          go_wp2_with (at_builtin; go_must (refine wpList_ed w2 rfl (.tmp 26) (.tmp 32) rfl w.heap.size p n cap cs _ _ _ _ _ _ _ _ _ _ _ _ _ _ _ _ _ _ _ _ _ _ _ _ _ _ _ rfl HI2.out.2.1 rfl HNL.out HI2.out.2.2.2.2.size ?_))
          intro p' cap' w3 hv hy hq
          have HP := Lib.hid (eds_push HI2.out HO.out HN.out ZW.out HDJ.out hv hy hq)
          rw [← HD.out] at HP
          clear hv hy hq
          go_wp2_with fail
          go_roundw
          case rel => exact ⟨k + 1, p', n + 1, cap', _, _, HLT.out, by go_num, rfl, .inr HLE.out, HA2.out, HP.out⟩
          case measure => simp [intOf]; have := HLT.out; omega
    · obtain rfl : k = l.length := by omega
      have hle : l.length ≤ 400 := by omega
      have hall : l.all edOk = true := by have := HA.out; rwa [List.take_length] at this
      have HTR : Hid (Trims l r) := trim_yes HR.out hle hall
      have HAL := Lib.hid hall
      have HI0 : Hid (EdsInv w wr l p n cap cs F) := by have := HI.out; rwa [List.take_length] at this
      have HLE : Hid (l.length ≤ 400) := hle
      clear hall
      go_wp2_with fail
      go_loopw [3, 5] (fun o i wr => ∃ (cur : List Ed) (at' : Nat) (p : Option Addr) (n cap : Nat) (cs : List Value) (F : List Nat), i = .int .i64 at' ∧ o = .slice p n cap ∧ Hid (EdsInv w wr cur p n cap cs F) ∧ Hid (∀ j, j < at' → pairAt cur j = false) ∧ Hid (Trims cur r) ∧ Hid (cur.all edOk = true) ∧ cur.length ≤ 400 ∧ at' ≤ cur.length) (fun o i _ => 1000 * sliceLenT o - (intOf i).toNat)
      case atStart => exact ⟨l, 0, p, n, cap, cs, F, rfl, rfl, HI0.out, fun j hj => by omega, HTR.out, HAL.out, HLE.out, Nat.zero_le _⟩
      case round =>
        obtain ⟨cur, at', p, n, cap, cs, F, rfl, rfl, HJ, HP, HTR, HAL, hcl, hac⟩ := hrel
        obtain rfl := HJ.out.1
        obtain ⟨n', hn'⟩ : ∃ n', n' = at' + 1 := ⟨_, rfl⟩
        have hwr : IntKind.i64.wrap ((at' : Int) + 1) = (n' : Int) := (IntWalk.i64_in _ (by omega)).trans (by omega)
        by_cases hlt : n' < cur.length
        · have hat : at' < cur.length := by omega
          obtain ⟨gq, rfl, hgb, hcell⟩ : ∃ gq, p = some ⟨gq, 0, none⟩ ∧ w.heap.size ≤ gq ∧ ∀ j u, cs[j]? = some u → wr.cell? ⟨gq, j, none⟩ = some u := by
            have hrow := HJ.out.2.1
            have h' := hrow
            rcases hrow.2 with ⟨_, hz⟩ | ⟨g, c2, cur', he, hb, _⟩
            · omega
            · simp only [Value.slice.injEq, true_and] at he
              obtain ⟨rfl, rfl⟩ := he
              exact ⟨g, rfl, hb, fun j u hj => by rw [h'.cellAt j (by have := (List.getElem?_eq_some_iff.1 hj).1; have := h'.1; omega)]; exact hj⟩
          have hcap : cur.length ≤ cap ∧ cap ≤ 9223372036854775807 := by
            rcases HJ.out.2.1.2 with ⟨he, _⟩ | ⟨g, c2, cur', he, _, _, h1, h2, _⟩
            · cases he
            · simp only [Value.slice.injEq, true_and] at he
              obtain ⟨_, rfl⟩ := he
              unfold maxLen at h2
              omega
          have hare : EdsAre wr cs cur := ownE_are HJ.out.2.2.1
          obtain ⟨c0, c1, c2, c3, c4, c5, c6, c7, c8, c9, c10, c11, c12, gg, ge⟩ := hare.at at' hat
          obtain ⟨d0, d1, d2, d3, d4, d5, d6, d7, d8, d9, d10, d11, d12, hh, he⟩ := hare.at n' hlt
          have HCELL := Lib.hid hcell
          have HLEN := Lib.hid hare.len
          have HONE := Lib.hid hare.one
          have hgz : gq < wr.heap.size := (blkOf_own HJ.out.2.1 gq (by simp [blkOf])).2
          have HSK : Hid (∀ w', Below wr.heap.size wr w' → (w'.cell? ⟨gq, at' * 13, none⟩ = some c0 ∧ w'.cell? ⟨gq, at' * 13 + 1, none⟩ = some c1 ∧ w'.cell? ⟨gq, at' * 13 + 2, none⟩ = some c2 ∧ w'.cell? ⟨gq, at' * 13 + 3, none⟩ = some c3 ∧ w'.cell? ⟨gq, at' * 13 + 4, none⟩ = some c4 ∧ w'.cell? ⟨gq, at' * 13 + 5, none⟩ = some c5 ∧ w'.cell? ⟨gq, at' * 13 + 6, none⟩ = some c6 ∧ w'.cell? ⟨gq, at' * 13 + 7, none⟩ = some c7 ∧ w'.cell? ⟨gq, at' * 13 + 8, none⟩ = some c8 ∧ w'.cell? ⟨gq, at' * 13 + 9, none⟩ = some c9 ∧ w'.cell? ⟨gq, at' * 13 + 10, none⟩ = some c10 ∧ w'.cell? ⟨gq, at' * 13 + 11, none⟩ = some c11 ∧ w'.cell? ⟨gq, at' * 13 + 12, none⟩ = some c12 ∧ w'.cell? ⟨gq, n' * 13, none⟩ = some d0 ∧ w'.cell? ⟨gq, n' * 13 + 1, none⟩ = some d1 ∧ w'.cell? ⟨gq, n' * 13 + 2, none⟩ = some d2 ∧ w'.cell? ⟨gq, n' * 13 + 3, none⟩ = some d3 ∧ w'.cell? ⟨gq, n' * 13 + 4, none⟩ = some d4 ∧ w'.cell? ⟨gq, n' * 13 + 5, none⟩ = some d5 ∧ w'.cell? ⟨gq, n' * 13 + 6, none⟩ = some d6 ∧ w'.cell? ⟨gq, n' * 13 + 7, none⟩ = some d7 ∧ w'.cell? ⟨gq, n' * 13 + 8, none⟩ = some d8 ∧ w'.cell? ⟨gq, n' * 13 + 9, none⟩ = some d9 ∧ w'.cell? ⟨gq, n' * 13 + 10, none⟩ = some d10 ∧ w'.cell? ⟨gq, n' * 13 + 11, none⟩ = some d11 ∧ w'.cell? ⟨gq, n' * 13 + 12, none⟩ = some d12)) := fun w' hb' => by
            have kk : ∀ i c, cs[i]? = some c → w'.cell? ⟨gq, i, none⟩ = some c := fun i c hc => by rw [hb'.cell (p := ⟨gq, i, none⟩) hgz]; exact HCELL.out i c hc
            exact ⟨kk _ _ ((gg 0 (by decide)).trans rfl), kk _ _ ((gg 1 (by decide)).trans rfl), kk _ _ ((gg 2 (by decide)).trans rfl), kk _ _ ((gg 3 (by decide)).trans rfl), kk _ _ ((gg 4 (by decide)).trans rfl), kk _ _ ((gg 5 (by decide)).trans rfl), kk _ _ ((gg 6 (by decide)).trans rfl), kk _ _ ((gg 7 (by decide)).trans rfl), kk _ _ ((gg 8 (by decide)).trans rfl), kk _ _ ((gg 9 (by decide)).trans rfl), kk _ _ ((gg 10 (by decide)).trans rfl), kk _ _ ((gg 11 (by decide)).trans rfl), kk _ _ ((gg 12 (by decide)).trans rfl), kk _ _ ((hh 0 (by decide)).trans rfl), kk _ _ ((hh 1 (by decide)).trans rfl), kk _ _ ((hh 2 (by decide)).trans rfl), kk _ _ ((hh 3 (by decide)).trans rfl), kk _ _ ((hh 4 (by decide)).trans rfl), kk _ _ ((hh 5 (by decide)).trans rfl), kk _ _ ((hh 6 (by decide)).trans rfl), kk _ _ ((hh 7 (by decide)).trans rfl), kk _ _ ((hh 8 (by decide)).trans rfl), kk _ _ ((hh 9 (by decide)).trans rfl), kk _ _ ((hh 10 (by decide)).trans rfl), kk _ _ ((hh 11 (by decide)).trans rfl), kk _ _ ((hh 12 (by decide)).trans rfl)⟩
          have GE := Lib.hid ge
          have HE := Lib.hid he
          obtain ⟨lb, hlb⟩ : ∃ lb, losesB cur[at'] = lb := ⟨_, rfl⟩
          obtain ⟨rb, hrb⟩ : ∃ rb, edEq (undoneR cur[at']) cur[n'] = rb := ⟨_, rfl⟩
          have HLB := Lib.hid hlb
          have HES := Lib.hid hrb
          have HPA : Hid (pairAt cur at' = (!lb && rb)) := by
            show _ = _
            rw [← hrb, ← hlb]
            subst hn'
            exact pair_at hlt
          have HOK : Hid (edOk cur[at'] = true) := List.all_eq_true.1 HAL.out _ (List.getElem_mem hat)
          have hlti : (n' : Int) < cur.length := by omega
          have hati : (at' : Int) < cur.length := by omega
          have HN' := Lib.hid hn'
          have HLTI : Hid (n' < cur.length) := hlt
          have HATI : Hid (at' < cur.length) := hat
          have HCAP := Lib.hid hcap
          have HGB := Lib.hid hgb
          clear hlb hrb hare hcell gg hh ge he hn' hgz hgb
          obtain ⟨rr, hrr⟩ : ∃ rr, (!lb && rb) = rr := ⟨_, rfl⟩
          have HRR := Lib.hid hrr
          rw [hrr] at HPA
          clear hrr
          have key : Hid (∀ (P : Prop), P → P) := fun _ h => h
          clear key
          go_upto_region 10 with fail
          go_cut [57] (fun x wc => x = .bool rr ∧ Hid (Below wr.heap.size wr wc))
          case first =>
            cases lb
            · have HRB : Hid (rb = rr) := by show _ = _; have := HRR.out; simpa using this
              go_region_held3 (fun w' => w'.cell? ⟨gq, at' * 13, none⟩ = some c0 ∧ w'.cell? ⟨gq, at' * 13 + 1, none⟩ = some c1 ∧ w'.cell? ⟨gq, at' * 13 + 2, none⟩ = some c2 ∧ w'.cell? ⟨gq, at' * 13 + 3, none⟩ = some c3 ∧ w'.cell? ⟨gq, at' * 13 + 4, none⟩ = some c4 ∧ w'.cell? ⟨gq, at' * 13 + 5, none⟩ = some c5 ∧ w'.cell? ⟨gq, at' * 13 + 6, none⟩ = some c6 ∧ w'.cell? ⟨gq, at' * 13 + 7, none⟩ = some c7 ∧ w'.cell? ⟨gq, at' * 13 + 8, none⟩ = some c8 ∧ w'.cell? ⟨gq, at' * 13 + 9, none⟩ = some c9 ∧ w'.cell? ⟨gq, at' * 13 + 10, none⟩ = some c10 ∧ w'.cell? ⟨gq, at' * 13 + 11, none⟩ = some c11 ∧ w'.cell? ⟨gq, at' * 13 + 12, none⟩ = some c12 ∧ w'.cell? ⟨gq, n' * 13, none⟩ = some d0 ∧ w'.cell? ⟨gq, n' * 13 + 1, none⟩ = some d1 ∧ w'.cell? ⟨gq, n' * 13 + 2, none⟩ = some d2 ∧ w'.cell? ⟨gq, n' * 13 + 3, none⟩ = some d3 ∧ w'.cell? ⟨gq, n' * 13 + 4, none⟩ = some d4 ∧ w'.cell? ⟨gq, n' * 13 + 5, none⟩ = some d5 ∧ w'.cell? ⟨gq, n' * 13 + 6, none⟩ = some d6 ∧ w'.cell? ⟨gq, n' * 13 + 7, none⟩ = some d7 ∧ w'.cell? ⟨gq, n' * 13 + 8, none⟩ = some d8 ∧ w'.cell? ⟨gq, n' * 13 + 9, none⟩ = some d9 ∧ w'.cell? ⟨gq, n' * 13 + 10, none⟩ = some d10 ∧ w'.cell? ⟨gq, n' * 13 + 11, none⟩ = some d11 ∧ w'.cell? ⟨gq, n' * 13 + 12, none⟩ = some d12)
                (first
                  | with_reducible exact HSK.out _ BB3.out
                  | with_reducible exact HSK.out _ BB2.out
                  | with_reducible exact HSK.out _ BB1.out
                  | with_reducible exact HSK.out _ (Below.refl _ wr).drew)
                (first
                  | (go_at_call 41; (with_reducible show Go.Calls _ _ _ (wr.drew) _); refine (specLoses_is cur[at'] false HLB.out _ wr.drew (GE.out.keep keeps_drew)).mono ?_; rintro e w1 ⟨rfl, hb1⟩; have hbb : Below wr.heap.size wr w1 := (Below.refl _ wr).drew.trans hb1; have BB1 := Lib.hid hbb; clear hb1 hbb)
                  | (go_at_call 25; (with_reducible show Go.Calls _ _ _ (w1) _); refine (l07Back_is cur[at'] _ w1 HOK.out (GE.out.keep (Keeps.of_below BB1.out))).mono ?_; rintro e w2 ⟨v2, F2, rfl, ho, hn, hb2⟩; have HO2 := Lib.hid ho.is; have BB2 := Lib.hid (BB1.out.trans (hb2.mono BB1.out.size)); clear ho hn hb2)
                  | (go_at_call 42; (with_reducible show Go.Calls _ _ _ (w2) _); refine (same_is (undoneR cur[at']) cur[n'] rb HES.out _ _ w2 HO2.out (HE.out.keep (Keeps.of_below BB2.out))).mono ?_; rintro e w3 ⟨rfl, hb3⟩; have BB3 := Lib.hid (BB2.out.trans (hb3.mono BB2.out.size)); clear hb3)
                  | fail)
              all_goals
                go_wp2_with fail
                go_meet
                exact ⟨by rw [← HRB.out], BB3.out⟩
            · have HRB : Hid (false = rr) := by show _ = _; have := HRR.out; simpa using this
              have HSC : Hid (∀ w', Below wr.heap.size wr w' → (w'.cell? ⟨gq, at' * 13, none⟩ = some c0 ∧ w'.cell? ⟨gq, at' * 13 + 1, none⟩ = some c1 ∧ w'.cell? ⟨gq, at' * 13 + 2, none⟩ = some c2 ∧ w'.cell? ⟨gq, at' * 13 + 3, none⟩ = some c3 ∧ w'.cell? ⟨gq, at' * 13 + 4, none⟩ = some c4 ∧ w'.cell? ⟨gq, at' * 13 + 5, none⟩ = some c5 ∧ w'.cell? ⟨gq, at' * 13 + 6, none⟩ = some c6 ∧ w'.cell? ⟨gq, at' * 13 + 7, none⟩ = some c7 ∧ w'.cell? ⟨gq, at' * 13 + 8, none⟩ = some c8 ∧ w'.cell? ⟨gq, at' * 13 + 9, none⟩ = some c9 ∧ w'.cell? ⟨gq, at' * 13 + 10, none⟩ = some c10 ∧ w'.cell? ⟨gq, at' * 13 + 11, none⟩ = some c11 ∧ w'.cell? ⟨gq, at' * 13 + 12, none⟩ = some c12)) := fun w' hb' => by
                obtain ⟨g0, g1, g2, g3, g4, g5, g6, g7, g8, g9, g10, g11, g12, _⟩ := HSK.out w' hb'
                exact ⟨g0, g1, g2, g3, g4, g5, g6, g7, g8, g9, g10, g11, g12⟩
              refine wp_region_held_drew (S := fun w' => w'.cell? ⟨gq, at' * 13, none⟩ = some c0 ∧ w'.cell? ⟨gq, at' * 13 + 1, none⟩ = some c1 ∧ w'.cell? ⟨gq, at' * 13 + 2, none⟩ = some c2 ∧ w'.cell? ⟨gq, at' * 13 + 3, none⟩ = some c3 ∧ w'.cell? ⟨gq, at' * 13 + 4, none⟩ = some c4 ∧ w'.cell? ⟨gq, at' * 13 + 5, none⟩ = some c5 ∧ w'.cell? ⟨gq, at' * 13 + 6, none⟩ = some c6 ∧ w'.cell? ⟨gq, at' * 13 + 7, none⟩ = some c7 ∧ w'.cell? ⟨gq, at' * 13 + 8, none⟩ = some c8 ∧ w'.cell? ⟨gq, at' * 13 + 9, none⟩ = some c9 ∧ w'.cell? ⟨gq, at' * 13 + 10, none⟩ = some c10 ∧ w'.cell? ⟨gq, at' * 13 + 11, none⟩ = some c11 ∧ w'.cell? ⟨gq, at' * 13 + 12, none⟩ = some c12) (by kernel_rfl) (HSC.out _ (Below.refl _ wr).drew) (fun hHeld => ?_)
              change wpAnyH _ _ _ _ _ 19 #[false, false, false, false, false, false, false, false, false, false, false, false, false, false, false, false, false, false, false] _ _
              refine take_at (i := 0) (oi := _) (v := .slice (some ⟨gq, 0, none⟩) cur.length cap) (some 39) rfl rfl (by kernel_rfl) (by kernel_rfl) (by kernel_rfl) (fun _ _ _ h => h) (Or.inl ⟨by rfl, fun w' hSw => ?_⟩) (by assumption) ?_
              · obtain ⟨b0, b1, b2, b3, b4, b5, b6, b7, b8, b9, b10, b11, b12⟩ := hSw
                go_simp
                try with_reducible rfl
              simp only [Act.put, List.setIfInBounds_toArray, List.set_cons_zero, List.set_cons_succ]
              refine take_at (i := 1) (oi := _) (v := .int .i64 at') (some 40) rfl rfl (by kernel_rfl) (by kernel_rfl) (by kernel_rfl) (fun _ _ _ h => h) (Or.inl ⟨by rfl, fun w' hSw => ?_⟩) (by assumption) ?_
              · obtain ⟨b0, b1, b2, b3, b4, b5, b6, b7, b8, b9, b10, b11, b12⟩ := hSw
                go_simp
                try with_reducible rfl
              simp only [Act.put, List.setIfInBounds_toArray, List.set_cons_zero, List.set_cons_succ]
              refine take_at (i := 2) (oi := _) (v := .pointer (some ⟨gq, at' * 13, none⟩)) (some 41) rfl rfl (by kernel_rfl) (by kernel_rfl) (by kernel_rfl) (fun _ _ _ h => h) (Or.inl ⟨by rfl, fun w' hSw => ?_⟩) (by assumption) ?_
              · obtain ⟨b0, b1, b2, b3, b4, b5, b6, b7, b8, b9, b10, b11, b12⟩ := hSw
                go_simp
                try with_reducible rfl
              simp only [Act.put, List.setIfInBounds_toArray, List.set_cons_zero, List.set_cons_succ]
              refine take_at (i := 3) (oi := _) (v := .agg #[c0, c1, c2, c3, c4, c5, c6, c7, c8, c9, c10, c11, c12]) (some 42) rfl rfl (by kernel_rfl) (by kernel_rfl) (by kernel_rfl) (fun _ _ _ h => h) (Or.inl ⟨by rfl, fun w' hSw => ?_⟩) (by assumption) ?_
              · obtain ⟨b0, b1, b2, b3, b4, b5, b6, b7, b8, b9, b10, b11, b12⟩ := hSw
                go_simp
                try with_reducible rfl
              simp only [Act.put, List.setIfInBounds_toArray, List.set_cons_zero, List.set_cons_succ]
              refine wpAnyH_ready (rs := [4]) (by kernel_rfl) (by simp) ?_
              refine AllReadyH.cons rfl (fun K hK => ?_) AllReadyH.nil
              go_simp
              go_at_call 41
              refine (specLoses_is cur[at'] true HLB.out _ wr.drew (GE.out.keep keeps_drew)).mono ?_
              rintro e w1 ⟨rfl, hb1⟩
              have hbb : Below wr.heap.size wr w1 := (Below.refl _ wr).drew.trans hb1
              have BB1 := Lib.hid hbb
              clear hb1 hbb
              change K _ _
              refine hK.out _ _ (HSC.out _ BB1.out) (fun hHeld2 => ?_)
              clear hK K hHeld
              try simp only [List.setIfInBounds_toArray, List.set_cons_zero, List.set_cons_succ]
              refine take_at (i := 5) (oi := _) (v := .bool false) (some 44) rfl rfl (by kernel_rfl) (by kernel_rfl) (by kernel_rfl) (fun _ _ _ h => h) (Or.inl ⟨by rfl, fun w' hSw => ?_⟩) (by assumption) ?_
              · obtain ⟨b0, b1, b2, b3, b4, b5, b6, b7, b8, b9, b10, b11, b12⟩ := hSw
                go_simp
                try with_reducible rfl
              simp only [Act.put, List.setIfInBounds_toArray, List.set_cons_zero, List.set_cons_succ]
              refine take_at (i := 6) (oi := _) (v := .bool false) (some 45) rfl rfl (by kernel_rfl) (by kernel_rfl) (by kernel_rfl) (fun _ _ _ h => h) (Or.inl ⟨by rfl, fun w' hSw => ?_⟩) (by assumption) ?_
              · obtain ⟨b0, b1, b2, b3, b4, b5, b6, b7, b8, b9, b10, b11, b12⟩ := hSw
                go_simp
                try with_reducible rfl
              simp only [Act.put, List.setIfInBounds_toArray, List.set_cons_zero, List.set_cons_succ]
              refine take_at (i := 7) (oi := _) (v := undef) (some 46) rfl rfl (by kernel_rfl) (by kernel_rfl) (by kernel_rfl) (fun _ _ _ h => h) (Or.inr ⟨by rfl, rfl⟩) (by assumption) ?_
              simp only [Act.put, List.setIfInBounds_toArray, List.set_cons_zero, List.set_cons_succ]
              refine take_at (i := 8) (oi := _) (v := undef) (some 47) rfl rfl (by kernel_rfl) (by kernel_rfl) (by kernel_rfl) (fun _ _ _ h => h) (Or.inr ⟨by rfl, rfl⟩) (by assumption) ?_
              simp only [Act.put, List.setIfInBounds_toArray, List.set_cons_zero, List.set_cons_succ]
              refine take_at (i := 9) (oi := _) (v := undef) (some 48) rfl rfl (by kernel_rfl) (by kernel_rfl) (by kernel_rfl) (fun _ _ _ h => h) (Or.inr ⟨by rfl, rfl⟩) (by assumption) ?_
              simp only [Act.put, List.setIfInBounds_toArray, List.set_cons_zero, List.set_cons_succ]
              refine take_at (i := 10) (oi := _) (v := undef) (some 49) rfl rfl (by kernel_rfl) (by kernel_rfl) (by kernel_rfl) (fun _ _ _ h => h) (Or.inr ⟨by rfl, rfl⟩) (by assumption) ?_
              simp only [Act.put, List.setIfInBounds_toArray, List.set_cons_zero, List.set_cons_succ]
              refine take_at (i := 11) (oi := _) (v := undef) (some 50) rfl rfl (by kernel_rfl) (by kernel_rfl) (by kernel_rfl) (fun _ _ _ h => h) (Or.inr ⟨by rfl, rfl⟩) (by assumption) ?_
              simp only [Act.put, List.setIfInBounds_toArray, List.set_cons_zero, List.set_cons_succ]
              refine take_at (i := 12) (oi := _) (v := undef) (some 51) rfl rfl (by kernel_rfl) (by kernel_rfl) (by kernel_rfl) (fun _ _ _ h => h) (Or.inr ⟨by rfl, rfl⟩) (by assumption) ?_
              simp only [Act.put, List.setIfInBounds_toArray, List.set_cons_zero, List.set_cons_succ]
              refine take_at (i := 13) (oi := _) (v := undef) (some 52) rfl rfl (by kernel_rfl) (by kernel_rfl) (by kernel_rfl) (fun _ _ _ h => h) (Or.inr ⟨by rfl, rfl⟩) (by assumption) ?_
              simp only [Act.put, List.setIfInBounds_toArray, List.set_cons_zero, List.set_cons_succ]
              refine take_at (i := 14) (oi := _) (v := undef) (some 53) rfl rfl (by kernel_rfl) (by kernel_rfl) (by kernel_rfl) (fun _ _ _ h => h) (Or.inr ⟨by rfl, rfl⟩) (by assumption) ?_
              simp only [Act.put, List.setIfInBounds_toArray, List.set_cons_zero, List.set_cons_succ]
              refine take_at (i := 15) (oi := _) (v := undef) (some 54) rfl rfl (by kernel_rfl) (by kernel_rfl) (by kernel_rfl) (fun _ _ _ h => h) (Or.inr ⟨by rfl, rfl⟩) (by assumption) ?_
              simp only [Act.put, List.setIfInBounds_toArray, List.set_cons_zero, List.set_cons_succ]
              refine take_at (i := 16) (oi := _) (v := undef) (some 55) rfl rfl (by kernel_rfl) (by kernel_rfl) (by kernel_rfl) (fun _ _ _ h => h) (Or.inr ⟨by rfl, rfl⟩) (by assumption) ?_
              simp only [Act.put, List.setIfInBounds_toArray, List.set_cons_zero, List.set_cons_succ]
              refine take_at (i := 17) (oi := _) (v := undef) (some 56) rfl rfl (by kernel_rfl) (by kernel_rfl) (by kernel_rfl) (fun _ _ _ h => h) (Or.inr ⟨by rfl, rfl⟩) (by assumption) ?_
              simp only [Act.put, List.setIfInBounds_toArray, List.set_cons_zero, List.set_cons_succ]
              refine take_at (i := 18) (oi := _) (v := .bool false) (some 57) rfl rfl (by kernel_rfl) (by kernel_rfl) (by kernel_rfl) (fun _ _ _ h => h) (Or.inl ⟨by rfl, fun w' hSw => ?_⟩) (by assumption) ?_
              · obtain ⟨b0, b1, b2, b3, b4, b5, b6, b7, b8, b9, b10, b11, b12⟩ := hSw
                go_simp
                try with_reducible rfl
              simp only [Act.put, List.setIfInBounds_toArray, List.set_cons_zero, List.set_cons_succ]
              refine wpAnyH_done (by kernel_rfl) ?_ _
              go_wp2_with fail
              go_meet
              exact ⟨by rw [← HRB.out], BB1.out⟩
          case rest =>
            obtain ⟨rfl, hb3⟩ := hcut
            rename World => wq
            have HJ2 := Lib.hid (HJ.out.below hb3.out)
            have HCQ : Hid (∀ j u, cs[j]? = some u → wq.cell? ⟨gq, j, none⟩ = some u) := fun j u hj => Keeps.of_below hb3.out _ _ _ (HCELL.out j u hj)
            clear hb3
            cases rr
            · go_wp2_with fail
              go_roundw
              case rel => exact ⟨cur, n', _, _, cap, cs, F, rfl, rfl, HJ2.out, by rw [HN'.out]; exact pair_next HP.out HPA.out, HTR.out, HAL.out, hcl, by have := HLTI.out; omega⟩
              case measure => simp [intOf, sliceLenT]; have := HATI.out; have := HN'.out; omega
            · obtain ⟨n2, hn2⟩ : ∃ n2, n2 = at' + 2 := ⟨_, rfl⟩
              have HN2 := Lib.hid hn2
              have hwr2 : IntKind.i64.wrap ((at' : Int) + 2) = (n2 : Int) := (IntWalk.i64_in _ (by omega)).trans (by omega)
              have hn2l : n2 ≤ cur.length := by have := HLTI.out; have := HN'.out; omega
              have HN2L : Hid (n2 ≤ cur.length) := hn2l
              have hn2c : n2 ≤ cap := by have := HCAP.out; omega
              have hatc : at' ≤ cap := by have := HCAP.out; have := HATI.out; omega
              have HL2 : Hid (at' + 1 < cur.length) := by show _ < _; have := HLTI.out; have := HN'.out; omega
              have HTC : Hid (Trims (cut2 cur at') r) := HTR.out.next HP.out HPA.out
              have HL3 : Hid ((cut2 cur at').length = cur.length - 2) := cut2_len HL2.out
              have HC4 : Hid ((cut2 cur at').length ≤ 400) := by show _ ≤ _; rw [HL3.out]; omega
              have HAC := Lib.hid (cut2_all (i := at') HAL.out)
              have ZQ := Lib.hid HJ2.out.2.2.2.2.size
              clear hn2 hcap
              by_cases hcn : cap = n2
              · obtain rfl : n2 = cap := hcn.symm
                have HDN : Hid (cs.drop (n2 * 13) = []) := List.drop_eq_nil_of_le (by have := HLEN.out; have := HCAP.out; omega)
                have hrow0 : (wq.alloc (.cells #[] 33)).ownsRow wq.heap.size 33 13 (.slice (some ⟨wq.heap.size, 0, none⟩) 0 0) 0 [] := ⟨rfl, .inr ⟨wq.heap.size, 0, #[], rfl, Nat.le_refl _, Go.Deep.blk_alloc_new _ _, Nat.le_refl _, by decide, rfl, rfl⟩⟩
                go_wp2_with (at_builtin; go_must (refine wpList_ecat (wq.alloc (.cells #[] 33)) rfl (.tmp 58) (.tmp 61) rfl wq.heap.size (some ⟨wq.heap.size, 0, none⟩) 0 0 [] (by simp [Act.eval]) hrow0 (some ⟨gq, 0, none⟩) at' n2 (cs.take (at' * 13)) (by simp [Act.eval]) (by have := HLEN.out; have := HATI.out; rw [List.length_take]; omega) (.inr ⟨gq, 0, rfl, fun j u hj => by rw [Nat.zero_add]; exact Keeps.of_below (below_alloc _ _) _ _ _ (HCQ.out j u (takeE hj))⟩) (fun u hu => HONE.out u (List.mem_of_mem_take hu)) (by have := HATI.out; omega) (by simp) ?_))
                intro p5 m5 w5 hr5 hy5 hq5
                try (simp only [Nat.zero_add, List.nil_append] at hr5 hq5 ⊢)
                have B5 : Hid (Below wq.heap.size wq w5) := (below_alloc _ _).trans (hy5.below (by simp) (by intro g hg; simp [blkOf] at hg; omega))
                have R5 := Lib.hid hr5
                clear hr5 hy5 hq5 hrow0
                go_wp2_with (at_builtin; go_must (refine wpList_ecat w5 rfl (.tmp 63) (.tmp 67) rfl wq.heap.size p5 at' m5 (cs.take (at' * 13)) (by simp [Act.eval]) R5.out (some ⟨gq, 0, none⟩) (cur.length - n2) 0 (cs.drop (n2 * 13)) (by simp [Act.eval]) (by have := HLEN.out; have := HN2L.out; rw [List.length_drop]; omega) (.inr ⟨gq, 0, rfl, fun j u hj => by simp [HDN.out] at hj⟩) (fun u hu => HONE.out u (List.mem_of_mem_drop hu)) (by have := HATI.out; omega) B5.out.size ?_))
                intro p8 m8 w8 hr8 hy8 hq8
                have hbg : ∀ g ∈ blkOf (.slice p5 at' m5), wq.heap.size ≤ g := fun g hg => (blkOf_own R5.out g hg).1
                have B8 : Hid (Below wq.heap.size wq w8) := B5.out.trans (hy8.below B5.out.size hbg)
                have hlq : at' + (cur.length - n2) = (cut2 cur at').length := by rw [HL3.out]; have := HN2.out; have := HN2L.out; omega
                obtain ⟨F', hF'⟩ := eds_cut (at' := at') (n2 := at' + (cur.length - n2)) (p' := p8) (cap' := m8) HJ2.out (by have := HL2.out; omega) hlq (by rw [← HN2.out]; exact own_mono hr8 ZQ.out) B8.out (fun g hg => (blkOf_own hr8 g hg).1)
                have HFE := Lib.hid hF'
                clear hr8 hy8 hq8 hbg hlq hF'
                go_wp2_with fail
                go_roundw
                case rel => exact ⟨cut2 cur at', 0, p8, _, m8, _, F', rfl, rfl, HFE.out, fun j hj => by omega, HTC.out, HAC.out, HC4.out, Nat.zero_le _⟩
                case measure => simp [intOf, sliceLenT]; have := HL3.out; have := HL2.out; have := HN2.out; have := HATI.out; omega
              · have hn2cc : n2 < cap := by omega
                have hrow0 : (wq.alloc (.cells #[] 33)).ownsRow wq.heap.size 33 13 (.slice (some ⟨wq.heap.size, 0, none⟩) 0 0) 0 [] := ⟨rfl, .inr ⟨wq.heap.size, 0, #[], rfl, Nat.le_refl _, Go.Deep.blk_alloc_new _ _, Nat.le_refl _, by decide, rfl, rfl⟩⟩
                go_wp2_with (at_builtin; go_must (refine wpList_ecat (wq.alloc (.cells #[] 33)) rfl (.tmp 58) (.tmp 61) rfl wq.heap.size (some ⟨wq.heap.size, 0, none⟩) 0 0 [] (by simp [Act.eval]) hrow0 (some ⟨gq, 0, none⟩) at' cap (cs.take (at' * 13)) (by simp [Act.eval]) (by have := HLEN.out; have := HATI.out; rw [List.length_take]; omega) (.inr ⟨gq, 0, rfl, fun j u hj => by rw [Nat.zero_add]; exact Keeps.of_below (below_alloc _ _) _ _ _ (HCQ.out j u (takeE hj))⟩) (fun u hu => HONE.out u (List.mem_of_mem_take hu)) (by have := HATI.out; omega) (by simp) ?_))
                intro p5 m5 w5 hr5 hy5 hq5
                try (simp only [Nat.zero_add, List.nil_append] at hr5 hq5 ⊢)
                have B5 : Hid (Below wq.heap.size wq w5) := (below_alloc _ _).trans (hy5.below (by simp) (by intro g hg; simp [blkOf] at hg; omega))
                have R5 := Lib.hid hr5
                clear hr5 hy5 hq5 hrow0
                go_wp2_with (at_builtin; go_must (refine wpList_ecat w5 rfl (.tmp 63) (.tmp 67) rfl wq.heap.size p5 at' m5 (cs.take (at' * 13)) (by simp [Act.eval]) R5.out (some ⟨gq, n2 * 13, none⟩) (cur.length - n2) (cap - n2) (cs.drop (n2 * 13)) (by simp [Act.eval]) (by have := HLEN.out; have := HN2L.out; rw [List.length_drop]; omega) (.inr ⟨gq, n2 * 13, rfl, fun j u hj => Keeps.of_below B5.out _ _ _ (HCQ.out _ u (dropE hj))⟩) (fun u hu => HONE.out u (List.mem_of_mem_drop hu)) (by have := HATI.out; omega) B5.out.size ?_))
                intro p8 m8 w8 hr8 hy8 hq8
                have hbg : ∀ g ∈ blkOf (.slice p5 at' m5), wq.heap.size ≤ g := fun g hg => (blkOf_own R5.out g hg).1
                have B8 : Hid (Below wq.heap.size wq w8) := B5.out.trans (hy8.below B5.out.size hbg)
                have hlq : at' + (cur.length - n2) = (cut2 cur at').length := by rw [HL3.out]; have := HN2.out; have := HN2L.out; omega
                obtain ⟨F', hF'⟩ := eds_cut (at' := at') (n2 := at' + (cur.length - n2)) (p' := p8) (cap' := m8) HJ2.out (by have := HL2.out; omega) hlq (by rw [← HN2.out]; exact own_mono hr8 ZQ.out) B8.out (fun g hg => (blkOf_own hr8 g hg).1)
                have HFE := Lib.hid hF'
                clear hr8 hy8 hq8 hbg hlq hF'
                go_wp2_with fail
                go_roundw
                case rel => exact ⟨cut2 cur at', 0, p8, _, m8, _, F', rfl, rfl, HFE.out, fun j hj => by omega, HTC.out, HAC.out, HC4.out, Nat.zero_le _⟩
                case measure => simp [intOf, sliceLenT]; have := HL3.out; have := HL2.out; have := HN2.out; have := HATI.out; omega
        · have HRE : Hid (r = cur) := HTR.out.last (pair_end (i := at') (by omega) HP.out)
          have hge : ¬ (n' : Int) < cur.length := by omega
          clear hn'
          go_wp2_with fail
          go_ret
          rw [HRE.out]
          exact ⟨_, _, _, cs, F, rfl, HJ.out⟩
end Go.Proofs.YtfdhmkmeffgkgaaDoor
