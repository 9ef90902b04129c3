/- Walks: impl.partIn: where it stands what a path leads to. -/
import Derived.Test.YthllilkokkijaaaGStepsW
import Derived.Test.YthllilkokkijaaaGRoundP
import Derived.Test.YthllilkokkijaaaGCopyShW
import Derived.Test.YthllilkokkijaaaGFourP
namespace Go.Proofs.Ythllilkokkijaaa
open Go.RowKit Go.Shelf
attribute [local go_sem] Oper.semAt_some

/-- From place (b, o), where t stands, the path leads to place (b', o'), where u stands. -/
inductive Leads (w : World) : List ByteArray → Sh → Nat → Nat → Sh → Nat → Nat → Prop
  | nil (t : Sh) (b o : Nat) : Leads w [] t b o t b o
  | cons {s : ByteArray} {p : List ByteArray} {t u : Sh} {b o b' o' b2 o2 n m x : Nat} (h : x < t.su.length) (hs : stepR t s = (x : Int)) (hc : w.cell? ⟨b, o + 3, none⟩ = some (.slice (some ⟨b2, o2, none⟩) n m)) (hl : Leads w p t.su[x] b2 (o2 + x * 4) u b' o') : Leads w (s :: p) t b o u b' o'
theorem Leads.keep {w w' : World} (hk : Keeps w w') {p : List ByteArray} {t u : Sh} {b o b' o' : Nat} (h : Leads w p t b o u b' o') : Leads w' p t b o u b' o' := by
  induction h with
  | nil t b o => exact .nil t b o
  | cons h hs hc _ ih => exact .cons h hs (hk _ _ _ hc) ih
/-- A shape stands at a place. -/
def Stands (w : World) (t : Sh) (b o : Nat) : Prop := ∃ c0 c1 c2 c3, w.cell? ⟨b, o, none⟩ = some c0 ∧ w.cell? ⟨b, o + 1, none⟩ = some c1 ∧ w.cell? ⟨b, o + 2, none⟩ = some c2 ∧ w.cell? ⟨b, o + 3, none⟩ = some c3 ∧ IsSh w t (.agg #[c0, c1, c2, c3])
theorem Stands.keep {w w' : World} (hk : Keeps w w') {t : Sh} {b o : Nat} (h : Stands w t b o) : Stands w' t b o := by
  obtain ⟨c0, c1, c2, c3, h0, h1, h2, h3, h4⟩ := h
  exact ⟨c0, c1, c2, c3, hk _ _ _ h0, hk _ _ _ h1, hk _ _ _ h2, hk _ _ _ h3, IsSh.keep hk _ _ h4⟩
/-- What partIn tells. -/
def PiRes (w : World) (p : List ByteArray) (t : Sh) (b o : Nat) (r : Option Addr) : Prop :=
  (partP p t = none → r = none) ∧ ∀ u, partP p t = some u → ∃ b' o', r = some ⟨b', o', none⟩ ∧ Leads w p t b o u b' o' ∧ Stands w u b' o'
def PiPost (w0 : World) (p : List ByteArray) (t : Sh) (b o : Nat) (w : World) (e : Ending) (w' : World) : Prop := ∃ r, e = .returned (.pointer r) ∧ PiRes w0 p t b o r ∧ Below w.heap.size w w'
/-- partIn's contract at a path, of a shape that stood there in w0 already. -/
def PiAt (p : List ByteArray) : Prop := ∀ (t : Sh) (d b o : Nat) (v : Value) (w0 w : World), Below w0.heap.size w0 w → partOk d t = true → Stands w0 t b o → IsStrs w0 v p →
  Calls Try.prog 37 #[.pointer (some ⟨b, o, none⟩), v] w (PiPost w0 p t b o w)

/-- The steps of a right shape tell its parts. -/
theorem stepOf_child {d : Nat} {t : Sh} (hp : partOk d t = true) {x : Nat} (hx : x < t.su.length) : stepR t (stepOf t x) = (x : Int) := by
  cases d with
  | zero => cases t; simp [partOk] at hp
  | succ d =>
    cases t with | mk k sy na su =>
    simp only [partOk, Bool.and_eq_true] at hp
    have hx' : x < su.length := hx
    rcases sound_cases hp.1 with ⟨_, _, _, hn⟩ | ⟨_, _, _, _, _, hn⟩ | ⟨hk, _, _, hn⟩ | ⟨rfl, _, _, hw, hn⟩
    · omega
    · omega
    · have h0 : x = 0 := by omega
      subst h0
      have e1 : stepOf (.mk k sy na su) 0 = starS := if_neg (show ¬ k = 7 by omega)
      rw [e1]
      exact (if_pos rfl).trans (if_pos hk)
    · have hxn : x < na.length := by omega
      have e1 : stepOf (.mk 7 sy na su) x = na[x] := (if_pos rfl).trans (getD_at hxn)
      have hok : okAt na x = true := List.all_eq_true.1 hw x (List.mem_range.2 hxn)
      unfold okAt at hok
      rw [getD_at hxn, Bool.and_eq_true] at hok
      have hne : na[x] ≠ starS := by
        intro he
        rw [he] at hok
        exact absurd hok.1 (by decide)
      rw [e1]
      refine (if_neg hne).trans (posOf_at na _ x hxn ?_ rfl)
      intro hm
      have := hasB_true.2 hm
      rw [this] at hok
      exact absurd hok.2 (by decide)
theorem child_none {d : Nat} {t : Sh} {s : ByteArray} (hp : partOk d t = true) (h : ∀ x, x < t.su.length → stepOf t x ≠ s) : childR t s = none := by
  by_cases h0 : 0 ≤ stepR t s
  · exfalso
    obtain ⟨hlt, _, _⟩ := child_at hp h0
    refine h _ hlt ?_
    cases d with
    | zero => cases t; simp [partOk] at hp
    | succ d =>
      cases t with | mk k sy na su =>
      simp only [partOk, Bool.and_eq_true] at hp
      have e : stepR (.mk k sy na su) s = (if s = starS then (if k = 5 ∨ k = 6 then 0 else -1) else posOf na s) := rfl
      have e2 : ∀ x, stepOf (.mk k sy na su) x = if k = 7 then na.getD x ⟨#[]⟩ else starS := fun _ => rfl
      rw [e2]
      rw [e] at h0 hlt ⊢
      by_cases hs : s = starS
      · rw [if_pos hs] at h0 hlt ⊢
        by_cases hk : k = 5 ∨ k = 6
        · rw [if_neg (by omega), hs]
        · rw [if_neg hk] at h0; omega
      · rw [if_neg hs] at h0 hlt ⊢
        have key : ∀ (l : List ByteArray), 0 ≤ posOf l s → l.getD (posOf l s).toNat ⟨#[]⟩ = s := by
          intro l
          induction l with
          | nil => intro h; simp [posOf] at h
          | cons a l ih =>
            intro h
            unfold posOf at h ⊢
            by_cases ha : a = s
            · rw [if_pos ha]; simpa using ha
            · rw [if_neg ha] at h ⊢
              by_cases hl : posOf l s = -1
              · rw [if_pos hl] at h; omega
              · rw [if_neg hl] at h ⊢
                have := posOf_lo l s
                have e3 : (posOf l s + 1).toNat = (posOf l s).toNat + 1 := by omega
                rw [e3, List.getD_cons_succ]
                exact ih (by omega)
        have hlt2 := posOf_lt na s
        rcases sound_cases hp.1 with ⟨_, _, rfl, _⟩ | ⟨_, _, _, _, rfl, _⟩ | ⟨_, _, rfl, _⟩ | ⟨rfl, _, _, _, _⟩
        · simp at hlt2; omega
        · simp at hlt2; omega
        · simp at hlt2; omega
        · rw [if_pos rfl]; exact key na h0
  · exact child_no (by omega)

set_option maxRecDepth 100000 in
set_option maxHeartbeats 2000000 in
theorem pi_nil : PiAt [] := by
  intro t d b o v w0 w hw hd hst hp
  obtain ⟨_, _, a, cap, rfl, _, _, _⟩ := hp
  have HS := Lib.hid hst
  clear hst hd hw
  go_enter Try.func37, Try.ntmps37
  go_wp2_with fail
  refine bodyPost_ret (v := .pointer (some ⟨b, o, none⟩)) (by simp [results, Try.results37, go_sem]) rfl ?_
  refine ⟨_, rfl, ⟨fun h => (by cases h), fun u hu => ⟨b, o, rfl, ?_, ?_⟩⟩, ?_⟩
  · cases hu; exact .nil t b o
  · cases hu; exact HS.out
  · exact ((below_alloc w _).alloc (by simp) _).alloc (by simp; omega) _

theorem pi_res {w0 : World} {d : Nat} {t : Sh} {s : ByteArray} {p : List ByteArray} {b o b2 o2 n m x : Nat} {r : Option Addr} (hd : partOk d t = true) (hx : x < t.su.length) (hs : stepOf t x = s) (hc : w0.cell? ⟨b, o + 3, none⟩ = some (.slice (some ⟨b2, o2, none⟩) n m))
    (h : PiRes w0 p t.su[x] b2 (o2 + x * 4) r) : PiRes w0 (s :: p) t b o r := by
  have h1 := stepOf_child hd hx
  rw [hs] at h1
  have h2 : childR t s = some t.su[x] := by
    unfold childR
    rw [if_pos (by omega), h1, Int.toNat_natCast, List.getElem?_eq_getElem hx]
  have h3 : partP (s :: p) t = partP p t.su[x] := by simp only [partP, h2]
  refine ⟨fun hn => h.1 (h3 ▸ hn), fun u hu => ?_⟩
  obtain ⟨b', o', hr, hl, hst⟩ := h.2 u (h3 ▸ hu)
  exact ⟨b', o', hr, .cons hx h1 hc hl, hst⟩
theorem keeps_of_same {W W' : World} (h : Below W.heap.size W W') : KeepsOthers W W' := ⟨h.size, fun k o hk _ => by rw [h.block k (Array.getElem?_eq_some_iff.1 hk).1]; exact hk⟩

set_option maxRecDepth 100000 in
set_option maxHeartbeats 1000000 in
theorem pi_cons (s : ByteArray) (p : List ByteArray) (ih : PiAt p) : PiAt (s :: p) := by
  intro t d b o v w0 w hw hd hst hp
  obtain ⟨hl1, hl2, a, cap, rfl, hl3, hl4, hl5⟩ := hp
  obtain ⟨sb, so, rfl, hsa⟩ := IsStrs.all hl5 (k := 0) (by simp)
  obtain ⟨c0, c1, c2, c3, hc0, hc1, hc2, hc3, hc4⟩ := hst
  have hIs := hc4
  have hm : t.su.length ≤ 6 ∧ (t.kd = 7 → t.na.length = t.su.length) := by
    cases d with
    | zero => cases t; simp [partOk] at hd
    | succ d =>
      cases t with | mk k sy na su =>
      simp only [partOk, Bool.and_eq_true] at hd
      have := (sound_words hd.1).2.2
      refine ⟨this, fun h7 => ?_⟩
      rcases sound_cases hd.1 with ⟨hk, _⟩ | ⟨hk, _⟩ | ⟨hk, _⟩ | ⟨_, _, _, _, hn⟩
      · simp only [Sh.kd] at h7; omega
      · simp only [Sh.kd] at h7; omega
      · simp only [Sh.kd] at h7; omega
      · exact hn.symm
  obtain ⟨q1, i1, j1, q2, j2, q3, j3, rfl, rfl, rfl, rfl, hns, hps⟩ : ∃ q1 i1 j1 q2 j2 q3 j3, c0 = .int .i64 t.kd ∧ c1 = .slice q1 i1 j1 ∧ c2 = .slice q2 t.na.length j2 ∧ c3 = .slice q3 t.su.length j3 ∧ IsStrs w0 (.slice q2 t.na.length j2) t.na ∧ IsShs w0 (.slice q3 t.su.length j3) t.su := by
    cases t with | mk k sy na su =>
    obtain ⟨q1, i1, q2, i2, q3, i3, he, hk, h1, h2, h3⟩ := hc4.open
    simp only [Value.agg.injEq, Array.mk.injEq, List.cons.injEq, and_true] at he
    exact ⟨q1, _, i1, q2, i2, q3, i3, he.1, he.2.1, he.2.2.1, he.2.2.2, h2, h3⟩
  have hK0 := Keeps.of_below hw
  have k0 := hK0 _ _ _ hc0
  have k1 := hK0 _ _ _ hc1
  have k2 := hK0 _ _ _ hc2
  have k3 := hK0 _ _ _ hc3
  have hbz := World.block_lt_of_cell? w ⟨b, o, none⟩ k0
  have hbz0 := World.block_lt_of_cell? w0 ⟨b, o, none⟩ hc0
  obtain ⟨W0, hW, hbW, hz, N1, N2, N3, N4⟩ := four_new w (.cells #[.pointer (some ⟨b, o, none⟩)] 59) (.cells #[.slice (some ⟨sb, so, none⟩) (p.length + 1) cap] 22) (.cells #[.pointer none] 59) (.cells #[.int .i64 t.kd, .slice q1 i1 j1, .slice q2 t.na.length j2, .slice q3 t.su.length j3] 30)
  have hB3 : Below w.heap.size w (((w.alloc (.cells #[.pointer (some ⟨b, o, none⟩)] 59)).alloc (.cells #[.slice (some ⟨sb, so, none⟩) (p.length + 1) cap] 22)).alloc (.cells #[.pointer none] 59)) := ((below_alloc w _).alloc (by simp) _).alloc (by simp; omega) _
  have hK3 := Keeps.of_below hB3
  have f0 := hK3 _ _ _ k0
  have f1 := hK3 _ _ _ k1
  have f2 := hK3 _ _ _ k2
  have f3 := hK3 _ _ _ k3
  clear k0 k1 k2 k3
  refine (callsIn_wide (n := 10)).1 ?_
  refine callsIn_of_wp_marks Try.func37 rfl trivial ?_ rfl
  simp only [Try.ntmps37, List.size_toArray, List.length_cons, List.length_nil, Nat.reduceAdd, Nat.reduceSub, Array.replicate_succ, Array.replicate_zero, List.push_toArray, List.append_toArray, List.nil_append, List.cons_append]
  have hlp : ((p.length : Int) + 1 == 0) = false := by simp; omega
  gi_wp2
  refine ⟨trivial, ?_⟩
  refine (callsIn_wide.2 (stepsInto_any _ _ _ _ _ _ _ _ _ _ _)).mono ?_
  rintro e w' ⟨rfl, rfl⟩
  rw [← hW]
  have HN1 := Lib.hid N1
  have HN2 := Lib.hid N2
  have HN3 := Lib.hid N3
  have HZ := Lib.hid hz
  have HBW := Lib.hid hbW
  have HW0 := Lib.hid hw
  have HSA := Lib.hid hsa
  have HNS := Lib.hid hns
  have HPS := Lib.hid hps
  have hSo : Stands w0 t b o := ⟨_, _, _, _, hc0, hc1, hc2, hc3, hIs⟩
  have HSO := Lib.hid hSo
  have HC3 := Lib.hid hc3
  have HC0 := Lib.hid (And.intro hc0 (And.intro hc1 (And.intro hc2 hc3)))
  have HN4 := Lib.hid N4
  clear hc0 hc1 hc2 hc3 hc4 hIs f0 f1 f2 f3 hK0 hK3 hB3 hW N1 N2 N3 N4 hns hps hsa hSo
  gi_wp2
  refine wpIn_rangeFunc_ownG (F := Fence.wide) rfl (by decide) (gf := 60) (lb := #[.pointer (some ⟨w.heap.size + 1 + 1 + 1, 0, none⟩)]) rfl trivial (enters_of Try.func60 (by kernel_rfl) rfl)
    (steps_stops 9 (by decide) (w.heap.size + 1 + 1 + 1) w0.heap.size t q1 q2 q3 i1 j1 j2 j3 hm.2 hm.1 W0 (by rw [HZ.out]; omega) (Nat.le_trans hw.size HBW.out.size) HN4.out (fun _ W' hb => HNS.out.keep (Keeps.of_below ((hw.trans (HBW.out.mono hw.size)).trans hb)))) KpB.trans
    (fun W l o o' h1 h2 h3 h4 => ⟨belowK_b (w := W0) (Nat.le_trans hw.size HBW.out.size) W l o o' h1 h2 h3 h4, World.putObj_heap_other (by have := HZ.out; omega)⟩) (Below.refl _ _) (fun _ => rfl)
    (fun pre W => ((∀ y ∈ pre, stepOf t y.val ≠ s) ∧ W.cell? ⟨w.heap.size, 0, none⟩ = some (.pointer (some ⟨b, o, none⟩)) ∧ W.cell? ⟨w.heap.size + 1, 0, none⟩ = some (.slice (some ⟨sb, so, none⟩) (p.length + 1) cap) ∧ W.cell? ⟨w.heap.size + 1 + 1, 0, none⟩ = some (.pointer none) ∧ W.frozen? ⟨w.heap.size + 1 + 1, 0, none⟩ = false) ∧ Below w.heap.size w W)
    (fun c _ W => (c = .ret ∧ ∃ r, PiRes w0 (s :: p) t b o r ∧ W.cell? ⟨w.heap.size + 1 + 1, 0, none⟩ = some (.pointer r)) ∧ Below w.heap.size w W)
    (OwnFrom.and (Own.from (fun s A B row hs hg hr => ⟨hs.1, cell_kept hs.2.1 hg hr, cell_kept hs.2.2.1 hg hr, cell_kept hs.2.2.2.1 hg hr, (frozen_kept hs.2.2.2.1 hg hr).trans hs.2.2.2.2⟩) _) (ownFrom_below (Nat.le_refl _) HBW.out.size))
    (fun c => OwnFrom.and (Own.from (fun s A B row hs hg hr => ⟨hs.1, hs.2.elim fun r h => ⟨r, h.1, cell_kept h.2 hg hr⟩⟩) _) (ownFrom_below (Nat.le_refl _) HBW.out.size))
    ⟨⟨by simp, by simp [World.cell?, HN1.out], by simp [World.cell?, HN2.out], by simp [World.cell?, HN3.out], by simp [World.frozen?, HN3.out]⟩, HBW.out⟩
    ?a1 ?assign ?body ?done ?stop
  case assign =>
    intro l x W K hK
    gi_wp2
    exact hK
  case body =>
    rintro l pre ⟨xv, hxl⟩ W ⟨⟨hne, hcp, hcs, hcr, hfr⟩, hB⟩ _
    have hB0 := hw.trans (hB.mono hw.size)
    have hs0 := Keeps.of_below hB0 _ _ _ (HSA.out 0 (by simp))
    rw [Nat.add_zero, List.getElem_cons_zero] at hs0
    dsimp only
    by_cases hx : stepOf t xv = s
    · obtain ⟨b2, o2, hq3, d0, d1, d2, d3, g0, g1, g2, g3, g4⟩ : ∃ b2 o2, q3 = some ⟨b2, o2, none⟩ ∧ Stands w0 t.su[xv] b2 (o2 + xv * 4) := by
        obtain ⟨ax, cx, ex, lx, cx2, hxx⟩ := HPS.out
        simp only [Value.slice.injEq] at ex
        obtain ⟨b2, o2, ha, d0, d1, d2, d3, g0, g1, g2, g3, g4⟩ := IsShs.at hxx hxl
        exact ⟨b2, o2, ex.1.trans ha, d0, d1, d2, d3, g0, g1, g2, g3, g4⟩
      subst hq3
      have HST := Lib.hid (show Stands w0 t.su[xv] b2 (o2 + xv * 4) from ⟨_, _, _, _, g0, g1, g2, g3, g4⟩)
      obtain ⟨d', _, hd'⟩ : ∃ d', d' < d ∧ partOk d' t.su[xv] = true := by
        have h1 := stepOf_child hd hxl
        obtain ⟨_, _, d', h2, h3⟩ := child_at (s := stepOf t xv) hd (by omega)
        simp only [h1, Int.toNat_natCast] at h3
        exact ⟨d', h2, h3⟩
      have HPR := Lib.hid (fun r => pi_res (w0 := w0) (s := s) (p := p) (r := r) hd hxl hx HC3.out)
      have HIH := Lib.hid (fun v hv => ih t.su[xv] d' b2 (o2 + xv * 4) v w0 W.drew (hB0.drew) hd' HST.out hv)
      have hkk := Keeps.of_below hB0
      have e3 := hkk _ _ _ HC3.out
      clear g0 g1 g2 g3 g4 hd' hkk
      rw [hx]
      have hxi : (xv : Int) < t.su.length := by omega
      have hl3' : p.length + 1 ≤ cap := by simpa using hl3
      have hcap3 : (1 : Int) ≤ (p.length : Int) + 1 := by omega
      have hcap4 : ¬ (p.length : Int) + 1 < 1 := by omega
      by_cases hcn : cap = 1
      · subst hcn
        have hp0 : p.length = 0 := by omega
        have HVS : Hid (IsStrs w0 (.slice (some ⟨sb, so, none⟩) p.length 0) p) := by
          obtain rfl := List.eq_nil_of_length_eq_zero hp0
          exact ⟨by simp, by simp, some ⟨sb, so, none⟩, 0, rfl, by simp, by simp, .inl rfl⟩
        clear hp0 hl3' hl3 hl4 hl1 hl2 hl5 hm hd
        gi_wp2
        refine round_tail 8 (by kernel_rfl) (by kernel_rfl) (by kernel_rfl) (by rintro ⟨_, _, h⟩; exact h) ?_
        simp only [List.take_succ_cons, List.take_zero, List.drop_succ_cons, List.drop_zero]
        repeat still_step
        try refine wpStill_nil ?_
        change wpList _ _ _ _ _ W.drew
        go_wp2_with fail
        refine (HIH.out _ HVS.out).mono ?_
        rintro e w1 ⟨r, rfl, hr, hb1⟩
        have HR := Lib.hid (HPR.out r hr)
        have HB1 := Lib.hid (show Below W.heap.size W w1 from (Below.refl _ W).drew.trans hb1)
        have hc1 := (hb1.cell (p := ⟨w.heap.size + 1 + 1, 0, none⟩) (by have := World.block_lt_of_cell? W ⟨w.heap.size + 1 + 1, 0, none⟩ hcr; exact this)).trans (show W.drew.cell? ⟨w.heap.size + 1 + 1, 0, none⟩ = _ from hcr)
        have hf1 := (hb1.frozen (p := ⟨w.heap.size + 1 + 1, 0, none⟩) (by have := World.block_lt_of_cell? W ⟨w.heap.size + 1 + 1, 0, none⟩ hcr; exact this)).trans (show W.drew.frozen? ⟨w.heap.size + 1 + 1, 0, none⟩ = _ from hfr)
        clear hr hb1
        go_wp2_with fail
        gi_wp2
        exact ⟨((keeps_of_same HB1.out).trans (KeepsOthers.setCell _ _ _)).from _, ⟨rfl, r, HR.out, World.cell?_setCell_same' _ _ _ (by rw [hc1]; rfl)⟩, (hB.trans (HB1.out.mono hB.size)).setCell (p := ⟨w.heap.size + 1 + 1, 0, none⟩) (by show _ ≤ w.heap.size + 1 + 1; omega) _⟩
      · have HVS : Hid (IsStrs w0 (.slice (some ⟨sb, so + 1, none⟩) p.length (cap - 1)) p) := by
          refine ⟨by simp at hl1; omega, fun x hx => hl2 x (by simp [hx]), some ⟨sb, so + 1, none⟩, cap - 1, rfl, by omega, by omega, .inr ⟨sb, so + 1, rfl, fun i hi => ?_⟩⟩
          have := HSA.out (i + 1) (by simpa using hi)
          have e : so + (i + 1) = so + 1 + i := by omega
          rw [e, List.getElem_cons_succ] at this
          exact this
        have hcap1 : p.length + 1 ≤ cap := hl3'
        have hcap2 : (p.length : Int) + 1 ≤ cap := by omega
        clear hl3' hl3 hl4 hl1 hl2 hl5 hm hd
        gi_wp2
        refine round_tail 8 (by kernel_rfl) (by kernel_rfl) (by kernel_rfl) (by rintro ⟨_, _, h⟩; exact h) ?_
        simp only [List.take_succ_cons, List.take_zero, List.drop_succ_cons, List.drop_zero]
        repeat still_step
        try refine wpStill_nil ?_
        change wpList _ _ _ _ _ W.drew
        go_wp2_with fail
        refine (HIH.out _ HVS.out).mono ?_
        rintro e w1 ⟨r, rfl, hr, hb1⟩
        have HR := Lib.hid (HPR.out r hr)
        have HB1 := Lib.hid (show Below W.heap.size W w1 from (Below.refl _ W).drew.trans hb1)
        have hc1 := (hb1.cell (p := ⟨w.heap.size + 1 + 1, 0, none⟩) (by have := World.block_lt_of_cell? W ⟨w.heap.size + 1 + 1, 0, none⟩ hcr; exact this)).trans (show W.drew.cell? ⟨w.heap.size + 1 + 1, 0, none⟩ = _ from hcr)
        have hf1 := (hb1.frozen (p := ⟨w.heap.size + 1 + 1, 0, none⟩) (by have := World.block_lt_of_cell? W ⟨w.heap.size + 1 + 1, 0, none⟩ hcr; exact this)).trans (show W.drew.frozen? ⟨w.heap.size + 1 + 1, 0, none⟩ = _ from hfr)
        clear hr hb1
        go_wp2_with fail
        gi_wp2
        exact ⟨((keeps_of_same HB1.out).trans (KeepsOthers.setCell _ _ _)).from _, ⟨rfl, r, HR.out, World.cell?_setCell_same' _ _ _ (by rw [hc1]; rfl)⟩, (hB.trans (HB1.out.mono hB.size)).setCell (p := ⟨w.heap.size + 1 + 1, 0, none⟩) (by show _ ≤ w.heap.size + 1 + 1; omega) _⟩
    · have hq : ((stepOf t xv).toList == s.toList) = false := ba_ne hx
      gi_wp2
      exact ⟨(KeepsOthers.refl _).from _, ⟨Below.refl _ _, rfl⟩, ⟨fun y hy => (List.mem_append.1 hy).elim (hne y) (fun e => by simp at e; subst e; exact hx), hcp, hcs, hcr, hfr⟩, hB⟩
  case done =>
    rintro D ys W hD rfl ⟨⟨hne, hcp, hcs, hcr, hfr⟩, hB⟩ hK
    have HN : Hid (partP (s :: p) t = none) := by
      show _ = _
      simp only [partP]
      rw [child_none hd fun x hx => hne ⟨x, hx⟩ (List.mem_finRange _)]
    gi_wp2
    have hK' := (KeepsOthers.setCell W ⟨w.heap.size + 1 + 1, 0, none⟩ (.pointer none)).same D _ hK rfl
    refine ⟨by simp, .inl ⟨_, _, rfl, run_takeDeferred hK', ?_⟩⟩
    have hc5 := cell_kept (World.cell?_setCell_same' W ⟨w.heap.size + 1 + 1, 0, none⟩ (.pointer none) (by rw [hcr]; rfl)) (grownBy_putObj' _ D (.deferred none)) (fun r e => by cases e; exact ⟨_, hK', rfl⟩)
    refine ⟨.pointer none, ?_, none, rfl, ⟨fun _ => rfl, fun u hu => (by rw [HN.out] at hu; cases hu)⟩, (hB.setCell (p := ⟨w.heap.size + 1 + 1, 0, none⟩) (by show _ ≤ w.heap.size + 1 + 1; omega) _).trans (belowK_b (w := w) (Nat.le_refl _) _ D _ _ (by have := HZ.out; omega) hK' rfl rfl)⟩
    simp [results, Try.f37, go_sem, hc5]
  case stop =>
    rintro D c pre W hD _ ⟨⟨rfl, r, hr, hcr⟩, hB⟩ hK
    gi_wp2
    refine ⟨by simp, .inl ⟨_, _, rfl, run_takeDeferred hK, ?_⟩⟩
    have hc5 := cell_kept hcr (grownBy_putObj' _ D (.deferred none)) (fun r e => by cases e; exact ⟨_, hK, rfl⟩)
    refine ⟨.pointer r, ?_, r, rfl, hr, hB.trans (belowK_b (w := w) (Nat.le_refl _) W D _ _ (by have := HZ.out; omega) hK rfl rfl)⟩
    simp [results, Try.f37, go_sem, hc5]
/-- impl.partIn. -/
theorem pi_any : ∀ p : List ByteArray, PiAt p
  | [] => pi_nil
  | s :: p => pi_cons s p (pi_any p)
end Go.Proofs.Ythllilkokkijaaa
