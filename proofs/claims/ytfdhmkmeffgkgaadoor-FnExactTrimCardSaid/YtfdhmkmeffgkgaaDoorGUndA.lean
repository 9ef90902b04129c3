/- Walk: impl.copied. · Walk: impl.undone. -/
import Derived.Test.YtfdhmkmeffgkgaaDoorGEdBkP
import Derived.Test.YtfdhmkmeffgkgaaDoorGCpA
import Derived.Deep.RegionHeld3
import Derived.Deep.DeepCutAuto
namespace Go.Proofs.YtfdhmkmeffgkgaaDoor
open Go.RowKit

theorem cp_own {t : Ed} {w : World} {B lo1 hi1 lo4 hi4 lo5 hi5 : Nat} {p0 : Option Addr} {m0 : Nat} {p1 p2 p3 q1 q2 q3 : Option Addr} {n1 m1 n2 m2 n3 m3 i1 j1 i2 j2 i3 j3 : Nat} {F1 F2 : List Nat} (hkd : InI64' t.kd) (hpl : InI64' t.pl) (y3 : t.nm.size ≤ 9223372036854775807) (y4 : t.tn.size ≤ 9223372036854775807)
    (h1 : OwnStrs w B (.slice p0 t.path.length m0) t.path) (h2 : OwnSh w B t.sh (.agg #[.int .i64 t.sh.kd, .slice p1 n1 m1, .slice p2 n2 m2, .slice p3 n3 m3]) F1) (hn2 : F1.Nodup)
    (h3 : OwnSh w B t.ws (.agg #[.int .i64 t.ws.kd, .slice q1 i1 j1, .slice q2 i2 j2, .slice q3 i3 j3]) F2) (hn3 : F2.Nodup)
    (k1 : ∀ g ∈ blkOf (.slice p0 t.path.length m0), lo1 ≤ g ∧ g < hi1) (k4 : ∀ g ∈ F1, lo4 ≤ g ∧ g < hi4) (k5 : ∀ g ∈ F2, lo5 ≤ g ∧ g < hi5) (h14 : hi1 ≤ lo4) (h45 : hi4 ≤ lo5) (h15 : hi1 ≤ lo5) :
    OwnEd w B t (.agg #[.int .i64 t.kd, .slice p0 t.path.length m0, .int .i64 t.pl, .string t.nm, .string t.tn, .int .i64 t.sh.kd, .slice p1 n1 m1, .slice p2 n2 m2, .slice p3 n3 m3, .int .i64 t.ws.kd, .slice q1 i1 j1, .slice q2 i2 j2, .slice q3 i3 j3]) (blkOf (.slice p0 t.path.length m0) ++ (F1 ++ F2)) ∧ (blkOf (.slice p0 t.path.length m0) ++ (F1 ++ F2)).Nodup := by
  refine ⟨⟨_, _, _, _, _, _, _, _, _, _, _, _, _, _, _, _, _, _, _, _, F1, F2, rfl, hkd, hpl, y3, y4, h1, h2, h3, rfl⟩, List.nodup_append.2 ⟨blk_nodup _ _ _, List.nodup_append.2 ⟨hn2, hn3, fun a ha c hc e => ?_⟩, fun a ha c hc e => ?_⟩⟩
  · have := k4 a ha; have := k5 c hc; omega
  · have := k1 a ha
    rcases List.mem_append.1 hc with hc | hc
    · have := k4 c hc; omega
    · have := k5 c hc; omega
theorem cp_ret {r : Ed} {w u V wf : World} {d : Nat} {v : Value} {F : List Nat} (ho : OwnEd V u.heap.size r v F ∧ F.Nodup) (hy : Only [d] V wf) (h0 : w.heap.size ≤ u.heap.size) (hd : d < u.heap.size) (hd0 : w.heap.size ≤ d) (hb : Below w.heap.size w V) : EdPost r w (.returned v) wf :=
  ⟨_, _, rfl, OwnEd.move h0 (fun g hg => by have q := OwnEd.blocks ho.1 g hg; exact hy.block g q.2 (by simp; omega)) ho.1, ho.2, hb.trans (hy.below hb.size (by simpa using hd0))⟩

set_option maxRecDepth 100000 in
set_option maxHeartbeats 20000000 in
theorem copied_is (t : Ed) (v : Value) (w : World) (hok : edOk t = true) (h : IsEd w t v) :
    Calls Tryd.prog 44 #[v] w (EdPost (t) w) := by
  have HH := Lib.hid h
  obtain ⟨p0, m0, p1, n1, m1, p2, n2, m2, p3, n3, m3, q1, i1, j1, q2, i2, j2, q3, i3, j3, rfl, hk1, hk2, y3, y4, h5, h6, h7⟩ := h
  have HOK := Lib.hid hok
  obtain ⟨⟨g1, g2⟩, ⟨s1, s2⟩, s3, s4, s5, s6⟩ := ed_small hok
  cases t with | mk kd path pl nm tn sh ws =>
  dsimp only at *
  obtain ⟨k, rfl⟩ : ∃ k : Nat, kd = (k : Int) := ⟨kd.toNat, by omega⟩
  obtain ⟨W, hW⟩ : ∃ W, W = (w.alloc (.cells #[.int .i64 (k : Int), .slice p0 path.length m0, .int .i64 pl, .string nm, .string tn, .int .i64 sh.kd, .slice p1 n1 m1, .slice p2 n2 m2, .slice p3 n3 m3, .int .i64 ws.kd, .slice q1 i1 j1, .slice q2 i2 j2, .slice q3 i3 j3] 33)).alloc (.cells #[.int .i64 0, .slice none 0 0, .int .i64 0, .string ⟨#[]⟩, .string ⟨#[]⟩, .int .i64 0, .slice none 0 0, .slice none 0 0, .slice none 0 0, .int .i64 0, .slice none 0 0, .slice none 0 0, .slice none 0 0] 33) := ⟨_, rfl⟩
  obtain ⟨x0, x1⟩ := two_new w (.cells #[.int .i64 (k : Int), .slice p0 path.length m0, .int .i64 pl, .string nm, .string tn, .int .i64 sh.kd, .slice p1 n1 m1, .slice p2 n2 m2, .slice p3 n3 m3, .int .i64 ws.kd, .slice q1 i1 j1, .slice q2 i2 j2, .slice q3 i3 j3] 33) (.cells #[.int .i64 0, .slice none 0 0, .int .i64 0, .string ⟨#[]⟩, .string ⟨#[]⟩, .int .i64 0, .slice none 0 0, .slice none 0 0, .slice none 0 0, .int .i64 0, .slice none 0 0, .slice none 0 0, .slice none 0 0] 33)
  have hb : Below w.heap.size w W := by rw [hW]; exact (below_alloc w _).alloc (by simp) _
  have hWs : W.heap.size = w.heap.size + 1 + 1 := by rw [hW]; simp
  rw [← hW] at x0 x1
  have A0 := Lib.hid x0
  have D0 := Lib.hid x1
  have B0 := Lib.hid hb
  have HW := Lib.hid hW
  have WS := Lib.hid hWs
  have K1 := Lib.hid hk1
  have K2 := Lib.hid hk2
  have KP := Lib.hid (fun (w' : World) (hb' : Below W.heap.size W w') => h5.keep (Keeps.of_below (hb.trans (hb'.mono hb.size))))
  have KS := Lib.hid (fun (w' : World) (hb' : Below W.heap.size W w') => IsSh.keep (Keeps.of_below (hb.trans (hb'.mono hb.size))) _ _ h6)
  have KW := Lib.hid (fun (w' : World) (hb' : Below W.heap.size W w') => IsSh.keep (Keeps.of_below (hb.trans (hb'.mono hb.size))) _ _ h7)
  have C5 := Lib.hid s5
  have C6 := Lib.hid s6
  have P1 : Hid (path.length ≤ 8001) := by show _ ≤ _; omega
  have P2 : Hid (∀ s ∈ path, s.size ≤ 1099511627776) := fun s hs => by have := s2 s hs; omega
  have P3 : Hid (nm.size ≤ 1099511627776) := by show _ ≤ _; omega
  have P4 : Hid (tn.size ≤ 1099511627776) := by show _ ≤ _; omega
  have WS1 : Hid (w.heap.size + 1 ≤ W.heap.size) := by show _ ≤ _; omega
  clear x0 x1 hb hW hWs hk1 hk2 h5 h6 h7 s1 s2 s3 s4 s5 s6 hok g1 g2
  have HSK : Hid (∀ w', Below (w.heap.size + 1) W w' → (w'.cell? ⟨w.heap.size, 0, none⟩ = some (.int .i64 (k : Int)) ∧ w'.cell? ⟨w.heap.size, 1, none⟩ = some (.slice p0 path.length m0) ∧ w'.cell? ⟨w.heap.size, 2, none⟩ = some (.int .i64 pl) ∧ w'.cell? ⟨w.heap.size, 3, none⟩ = some (.string nm) ∧ w'.cell? ⟨w.heap.size, 4, none⟩ = some (.string tn) ∧ w'.cell? ⟨w.heap.size, 5, none⟩ = some (.int .i64 sh.kd) ∧ w'.cell? ⟨w.heap.size, 6, none⟩ = some (.slice p1 n1 m1) ∧ w'.cell? ⟨w.heap.size, 7, none⟩ = some (.slice p2 n2 m2) ∧ w'.cell? ⟨w.heap.size, 8, none⟩ = some (.slice p3 n3 m3) ∧ w'.cell? ⟨w.heap.size, 9, none⟩ = some (.int .i64 ws.kd) ∧ w'.cell? ⟨w.heap.size, 10, none⟩ = some (.slice q1 i1 j1) ∧ w'.cell? ⟨w.heap.size, 11, none⟩ = some (.slice q2 i2 j2) ∧ w'.cell? ⟨w.heap.size, 12, none⟩ = some (.slice q3 i3 j3))) := fun w' hb' => by
    have kk : ∀ b o c, b < w.heap.size + 1 → W.cell? ⟨b, o, none⟩ = some c → w'.cell? ⟨b, o, none⟩ = some c := fun b o c hlt hc => by rw [hb'.cell (p := ⟨b, o, none⟩) hlt]; exact hc
    have az : w.heap.size < w.heap.size + 1 := by omega
    exact ⟨kk _ _ _ az (cel A0.out 0 rfl), kk _ _ _ az (cel A0.out 1 rfl), kk _ _ _ az (cel A0.out 2 rfl), kk _ _ _ az (cel A0.out 3 rfl), kk _ _ _ az (cel A0.out 4 rfl), kk _ _ _ az (cel A0.out 5 rfl), kk _ _ _ az (cel A0.out 6 rfl), kk _ _ _ az (cel A0.out 7 rfl), kk _ _ _ az (cel A0.out 8 rfl), kk _ _ _ az (cel A0.out 9 rfl), kk _ _ _ az (cel A0.out 10 rfl), kk _ _ _ az (cel A0.out 11 rfl), kk _ _ _ az (cel A0.out 12 rfl)⟩
  go_enter Tryd.func44, Tryd.ntmps44
  go_upto_region 1 with fail
  rw [← HW.out]
  go_region_held3 (fun w' => w'.cell? ⟨w.heap.size, 0, none⟩ = some (.int .i64 (k : Int)) ∧ w'.cell? ⟨w.heap.size, 1, none⟩ = some (.slice p0 path.length m0) ∧ w'.cell? ⟨w.heap.size, 2, none⟩ = some (.int .i64 pl) ∧ w'.cell? ⟨w.heap.size, 3, none⟩ = some (.string nm) ∧ w'.cell? ⟨w.heap.size, 4, none⟩ = some (.string tn) ∧ w'.cell? ⟨w.heap.size, 5, none⟩ = some (.int .i64 sh.kd) ∧ w'.cell? ⟨w.heap.size, 6, none⟩ = some (.slice p1 n1 m1) ∧ w'.cell? ⟨w.heap.size, 7, none⟩ = some (.slice p2 n2 m2) ∧ w'.cell? ⟨w.heap.size, 8, none⟩ = some (.slice p3 n3 m3) ∧ w'.cell? ⟨w.heap.size, 9, none⟩ = some (.int .i64 ws.kd) ∧ w'.cell? ⟨w.heap.size, 10, none⟩ = some (.slice q1 i1 j1) ∧ w'.cell? ⟨w.heap.size, 11, none⟩ = some (.slice q2 i2 j2) ∧ w'.cell? ⟨w.heap.size, 12, none⟩ = some (.slice q3 i3 j3))
    (first
      | (have g9 := BX5; first | with_reducible exact HSK.out _ BX5.out | with_reducible exact HSK.out _ (setE_below BX5.out (Nat.le_refl _) _ _ _ _ _ _ _ _ _ _ _ _ _))
      | with_reducible exact HSK.out _ BX4.out
      | with_reducible exact HSK.out _ BX3.out
      | with_reducible exact HSK.out _ BX2.out
      | with_reducible exact HSK.out _ BX1.out
      | with_reducible exact HSK.out _ (Below.refl _ W).drew)
    (first
      | (go_at_call 64; (with_reducible show Go.Calls _ _ _ (W.drew) _); refine (copyWords_any _ path W.drew (KP.out _ (Below.refl _ W).drew) P1.out P2.out).mono ?_; rintro e w1 ⟨r1, x1, y1, rfl, ho, hb⟩; obtain rfl := own_len ho; have hbb : Below W.heap.size W w1 := (Below.refl _ W).drew.trans hb; have L1 : Hid (∀ g ∈ blkOf (.slice r1 path.length y1), W.heap.size ≤ g ∧ g < w1.heap.size) := fun g hg => (by have q := blkOf_own ho.2 g hg; exact q); have O1 := Lib.hid (OwnStrs.low (C := W.heap.size) ho (Nat.le_refl _)); have BB1 := Lib.hid hbb; have BX1 := Lib.hid (BB1.out.mono WS1.out); have Z1 := Lib.hid hbb.size; clear hb hbb ho)
      | (go_at_call 65; (with_reducible show Go.Calls _ _ #[Value.string nm] (w1) _); refine (clone_any nm w1 P3.out).mono ?_; rintro e w2 ⟨rfl, hb⟩; have hbb : Below w1.heap.size w1 w2 := hb; have BB2 := Lib.hid (BB1.out.trans (hbb.mono BB1.out.size)); have BX2 := Lib.hid (BB2.out.mono WS1.out); have Z2 := Lib.hid hbb.size; have O2 := Lib.hid (O1.out.block hbb); clear hb hbb)
      | (go_at_call 65; (with_reducible show Go.Calls _ _ #[Value.string tn] (w2) _); refine (clone_any tn w2 P4.out).mono ?_; rintro e w3 ⟨rfl, hb⟩; have hbb : Below w2.heap.size w2 w3 := hb; have BB3 := Lib.hid (BB2.out.trans (hbb.mono BB2.out.size)); have BX3 := Lib.hid (BB3.out.mono WS1.out); have Z3 := Lib.hid hbb.size; have O3 := Lib.hid (O2.out.block hbb); clear hb hbb)
      | (go_at_call 66; (with_reducible show Go.Calls _ _ #[(Value.agg #[.int .i64 sh.kd, .slice p1 n1 m1, .slice p2 n2 m2, .slice p3 n3 m3])] (w3) _); refine (cpI C5.out _ w3 (KS.out _ BB3.out)).mono ?_; rintro e w4 ⟨c0, c1, c2, c3, F4, rfl, ho, hn, hb⟩; obtain ⟨a41, b41, d41, a42, b42, d42, a43, b43, d43, rfl, rfl, rfl, rfl⟩ := (OwnSh.is _ _ _ ho).cells; have hbb : Below w3.heap.size w3 w4 := hb; have L4 : Hid (∀ g ∈ F4, w3.heap.size ≤ g ∧ g < w4.heap.size) := fun g hg => (by have q := OwnSh.blocks _ _ _ ho g hg; exact q); have N4 := Lib.hid hn; have S4 := Lib.hid (OwnSh.move (base' := W.heap.size) BB3.out.size _ _ _ (fun g _ => rfl) ho); have BB4 := Lib.hid (BB3.out.trans (hbb.mono BB3.out.size)); have BX4 := Lib.hid (BB4.out.mono WS1.out); have Z4 := Lib.hid hbb.size; have O4 := Lib.hid (O3.out.block hbb); clear hb hbb ho hn)
      | (go_at_call 66; (with_reducible show Go.Calls _ _ #[(Value.agg #[.int .i64 ws.kd, .slice q1 i1 j1, .slice q2 i2 j2, .slice q3 i3 j3])] (w4) _); refine (cpI C6.out _ w4 (KW.out _ BB4.out)).mono ?_; rintro e w5 ⟨c0, c1, c2, c3, F5, rfl, ho, hn, hb⟩; obtain ⟨a51, b51, d51, a52, b52, d52, a53, b53, d53, rfl, rfl, rfl, rfl⟩ := (OwnSh.is _ _ _ ho).cells; have hbb : Below w4.heap.size w4 w5 := hb; have L5 : Hid (∀ g ∈ F5, w4.heap.size ≤ g ∧ g < w5.heap.size) := fun g hg => (by have q := OwnSh.blocks _ _ _ ho g hg; exact q); have N5 := Lib.hid hn; have V5 := Lib.hid (OwnSh.move (base' := W.heap.size) BB4.out.size _ _ _ (fun g _ => rfl) ho); have BB5 := Lib.hid (BB4.out.trans (hbb.mono BB4.out.size)); have BX5 := Lib.hid (BB5.out.mono WS1.out); have Z5 := Lib.hid hbb.size; have O5 := Lib.hid (O4.out.block hbb); have S5 := Lib.hid (OwnSh.move (Nat.le_refl _) _ _ _ (fun g hg => hbb.block g (L4.out g hg).2) S4.out); have D5 := Lib.hid (blk_below D0.out BB5.out (by have := WS.out; omega)); have d0 := cel D5.out 0 rfl; have e0 := frz_of D5.out 0; have d1 := cel D5.out 1 rfl; have e1 := frz_of D5.out 1; have d2 := cel D5.out 2 rfl; have e2 := frz_of D5.out 2; have d3 := cel D5.out 3 rfl; have e3 := frz_of D5.out 3; have d4 := cel D5.out 4 rfl; have e4 := frz_of D5.out 4; have d5 := cel D5.out 5 rfl; have e5 := frz_of D5.out 5; have d6 := cel D5.out 6 rfl; have e6 := frz_of D5.out 6; have d7 := cel D5.out 7 rfl; have e7 := frz_of D5.out 7; have d8 := cel D5.out 8 rfl; have e8 := frz_of D5.out 8; have d9 := cel D5.out 9 rfl; have e9 := frz_of D5.out 9; have d10 := cel D5.out 10 rfl; have e10 := frz_of D5.out 10; have d11 := cel D5.out 11 rfl; have e11 := frz_of D5.out 11; have d12 := cel D5.out 12 rfl; have e12 := frz_of D5.out 12; clear hb hbb ho hn)
      | fail)
  all_goals
    go_wp2_with fail
    refine bodyPost_ret (v := .agg #[.int .i64 (k : Int), .slice r1 path.length y1, .int .i64 pl, .string nm, .string tn, .int .i64 sh.kd, .slice a41 b41 d41, .slice a42 b42 d42, .slice a43 b43 d43, .int .i64 ws.kd, .slice a51 b51 d51, .slice a52 b52 d52, .slice a53 b53 d53]) ?_ rfl ?_
    · simp [results, Tryd.results44, go_sem, d0, d1, d2, d3, d4, d5, d6, d7, d8, d9, d10, d11, d12]
    · exact cp_ret (d := w.heap.size + 1) (cp_own (t := ⟨(k : Int), path, pl, nm, tn, sh, ws⟩) K1.out K2.out y3 y4 O5.out S5.out N4.out V5.out N5.out L1.out L4.out L5.out (by have q2 := Z2.out; have q3 := Z3.out; omega) (Nat.le_refl _) (by have q2 := Z2.out; have q3 := Z3.out; have q4 := Z4.out; omega)) ((((((((((((((Only.refl [w.heap.size + 1] w5).set (by simp) 0 _).set (by simp) 1 _).set (by simp) 2 _).set (by simp) 3 _).set (by simp) 4 _).set (by simp) 5 _).set (by simp) 6 _).set (by simp) 7 _).set (by simp) 8 _).set (by simp) 9 _).set (by simp) 10 _).set (by simp) 11 _).set (by simp) 12 _) B0.out.size (by have := WS.out; omega) (by omega) (B0.out.trans (BB5.out.mono B0.out.size))
end Go.Proofs.YtfdhmkmeffgkgaaDoor
namespace Go.Proofs.YtfdhmkmeffgkgaaDoor
open Go.RowKit

theorem ed_fin {r : Ed} {w u V wf : World} {b d : Nat} {p0 : Option Addr} {m0 : Nat} {p1 p2 p3 q1 q2 q3 : Option Addr} {n1 m1 n2 m2 n3 m3 i1 j1 i2 j2 i3 j3 : Nat} {F1 F2 : List Nat} (hkd : InI64' r.kd) (hpl : InI64' r.pl) (y3 : r.nm.size ≤ 9223372036854775807) (y4 : r.tn.size ≤ 9223372036854775807)
    (h0 : w.heap.size ≤ u.heap.size) (hd : d < u.heap.size) (hd0 : w.heap.size ≤ d) (hub : u.heap.size ≤ b)
    (ho1 : OwnStrs V u.heap.size (.slice p0 r.path.length m0) r.path) (ho2 : OwnSh V u.heap.size r.sh (.agg #[.int .i64 r.sh.kd, .slice p1 n1 m1, .slice p2 n2 m2, .slice p3 n3 m3]) F1) (ho3 : OwnSh V u.heap.size r.ws (.agg #[.int .i64 r.ws.kd, .slice q1 i1 j1, .slice q2 i2 j2, .slice q3 i3 j3]) F2)
    (hnd : (b :: (blkOf (.slice p0 r.path.length m0) ++ (F1 ++ F2))).Nodup) (hy : Only [b, d] V wf) (hb : Below w.heap.size w V) :
    EdPost r w (.returned (.agg #[.int .i64 r.kd, .slice p0 r.path.length m0, .int .i64 r.pl, .string r.nm, .string r.tn, .int .i64 r.sh.kd, .slice p1 n1 m1, .slice p2 n2 m2, .slice p3 n3 m3, .int .i64 r.ws.kd, .slice q1 i1 j1, .slice q2 i2 j2, .slice q3 i3 j3])) wf := by
  obtain ⟨hnb, hnF⟩ := List.nodup_cons.1 hnd
  have e : ∀ g, u.heap.size ≤ g → g < V.heap.size → g ∈ blkOf (.slice p0 r.path.length m0) ++ (F1 ++ F2) → wf.heap[g]? = V.heap[g]? := fun g h1 h2 h3 =>
    hy.block g h2 (by simp only [List.mem_cons, List.not_mem_nil, or_false, not_or]; exact ⟨fun e => hnb (e ▸ h3), by omega⟩)
  refine ⟨_, _, rfl, ⟨_, _, _, _, _, _, _, _, _, _, _, _, _, _, _, _, _, _, _, _, F1, F2, rfl, hkd, hpl, y3, y4, ⟨ho1.1, own_mono (own_block ho1.2 fun g hg => ?_) h0⟩, OwnSh.move h0 _ _ _ (fun g hg => ?_) ho2, OwnSh.move h0 _ _ _ (fun g hg => ?_) ho3, rfl⟩, hnF, ?_⟩
  · have q := blkOf_own ho1.2 g hg
    exact e g q.1 q.2 (by simp [hg])
  · have q := OwnSh.blocks _ _ _ ho2 g hg
    exact e g q.1 q.2 (by simp [hg])
  · have q := OwnSh.blocks _ _ _ ho3 g hg
    exact e g q.1 q.2 (by simp [hg])
  · exact hb.trans (hy.below hb.size (by simp; omega))

set_option maxRecDepth 100000 in
set_option maxHeartbeats 20000000 in
theorem und_cut (t : Ed) (v : Value) (w : World) (hok : edOk t = true) (h : IsEd w t v) (hek : EkAt w) :
    Calls Tryd.prog 29 #[v] w (EdPost (undoneR t) w) := by
  have HH := Lib.hid h
  obtain ⟨p0, m0, p1, n1, m1, p2, n2, m2, p3, n3, m3, q1, i1, j1, q2, i2, j2, q3, i3, j3, rfl, hk1, hk2, y3, y4, h5, h6, h7⟩ := h
  have HOK := Lib.hid hok
  obtain ⟨⟨g1, g2⟩, ⟨s1, s2⟩, s3, s4, s5, s6⟩ := ed_small hok
  cases t with | mk kd path pl nm tn sh ws =>
  dsimp only at *
  obtain ⟨k, rfl⟩ : ∃ k : Nat, kd = (k : Int) := ⟨kd.toNat, by omega⟩
  obtain ⟨W, hW⟩ : ∃ W, W = (w.alloc (.cells #[.int .i64 (k : Int), .slice p0 path.length m0, .int .i64 pl, .string nm, .string tn, .int .i64 sh.kd, .slice p1 n1 m1, .slice p2 n2 m2, .slice p3 n3 m3, .int .i64 ws.kd, .slice q1 i1 j1, .slice q2 i2 j2, .slice q3 i3 j3] 33)).alloc (.cells #[.int .i64 0, .slice none 0 0, .int .i64 0, .string ⟨#[]⟩, .string ⟨#[]⟩, .int .i64 0, .slice none 0 0, .slice none 0 0, .slice none 0 0, .int .i64 0, .slice none 0 0, .slice none 0 0, .slice none 0 0] 33) := ⟨_, rfl⟩
  obtain ⟨x0, x1⟩ := two_new w (.cells #[.int .i64 (k : Int), .slice p0 path.length m0, .int .i64 pl, .string nm, .string tn, .int .i64 sh.kd, .slice p1 n1 m1, .slice p2 n2 m2, .slice p3 n3 m3, .int .i64 ws.kd, .slice q1 i1 j1, .slice q2 i2 j2, .slice q3 i3 j3] 33) (.cells #[.int .i64 0, .slice none 0 0, .int .i64 0, .string ⟨#[]⟩, .string ⟨#[]⟩, .int .i64 0, .slice none 0 0, .slice none 0 0, .slice none 0 0, .int .i64 0, .slice none 0 0, .slice none 0 0, .slice none 0 0] 33)
  have hb : Below w.heap.size w W := by rw [hW]; exact (below_alloc w _).alloc (by simp) _
  have hWs : W.heap.size = w.heap.size + 1 + 1 := by rw [hW]; simp
  rw [← hW] at x0 x1
  have A0 := Lib.hid x0
  have D0 := Lib.hid x1
  have B0 := Lib.hid hb
  have HW := Lib.hid hW
  have WS := Lib.hid hWs
  have K1 := Lib.hid hk1
  have K2 := Lib.hid hk2
  have EK := Lib.hid (hek.keep (Keeps.of_below hb))
  have k0 : (0 : Int) ≤ (k : Int) := by omega
  have k11 : (k : Int) < 11 := by omega
  have KN : Hid (k < 11) := by show _ < _; omega
  clear x0 x1 hb hW hWs hk1 hk2 h5 h6 h7 s1 s2 s3 s4 s5 s6 hok g1 g2 hek
  have a0 := cel A0.out 0 rfl
  have a1 := cel A0.out 1 rfl
  have a2 := cel A0.out 2 rfl
  have a3 := cel A0.out 3 rfl
  have a4 := cel A0.out 4 rfl
  have a5 := cel A0.out 5 rfl
  have a6 := cel A0.out 6 rfl
  have a7 := cel A0.out 7 rfl
  have a8 := cel A0.out 8 rfl
  have a9 := cel A0.out 9 rfl
  have a10 := cel A0.out 10 rfl
  have a11 := cel A0.out 11 rfl
  have a12 := cel A0.out 12 rfl
  go_enter Tryd.func29, Tryd.ntmps29
  go_wp2_with fail
  rw [← HW.out]
  refine (copied_is ⟨(k : Int), path, pl, nm, tn, sh, ws⟩ _ W HOK.out (HH.out.keep (Keeps.of_below B0.out))).mono ?_
  rintro e w1 ⟨v, F, rfl, ho, hn, hb1⟩
  have hlt := OwnEd.blocks ho
  obtain ⟨e0, l0, e1, u1, l1, e2, u2, l2, e3, u3, l3, v1, z1, h1, v2, z2, h2, v3, z3, h3, F1, F2, rfl, _, _, _, _, ho1, ho2, ho3, rfl⟩ := ho
  dsimp only at *
  obtain ⟨b, hbz⟩ : ∃ b, b = w1.heap.size := ⟨_, rfl⟩
  obtain ⟨w2, hw⟩ : ∃ w', w' = w1.alloc (.cells #[.int .i64 (k : Int), .slice e0 path.length l0, .int .i64 pl, .string nm, .string tn, .int .i64 sh.kd, .slice e1 u1 l1, .slice e2 u2 l2, .slice e3 u3 l3, .int .i64 ws.kd, .slice v1 z1 h1, .slice v2 z2 h2, .slice v3 z3 h3] 33) := ⟨_, rfl⟩
  have hc : w2.heap[b]? = some (.cells #[.int .i64 (k : Int), .slice e0 path.length l0, .int .i64 pl, .string nm, .string tn, .int .i64 sh.kd, .slice e1 u1 l1, .slice e2 u2 l2, .slice e3 u3 l3, .int .i64 ws.kd, .slice v1 z1 h1, .slice v2 z2 h2, .slice v3 z3 h3] 33 (0, 0)) := by rw [hw, hbz]; exact Go.Deep.blk_alloc_new _ _
  have hba : Below w1.heap.size w1 w2 := by rw [hw]; exact below_alloc _ _
  have hbb := hb1.trans (hba.mono hb1.size)
  obtain ⟨V, hV⟩ : ∃ V, V = w2.setCell ⟨b, 0, none⟩ (.int .i64 (edBackK k)) := ⟨_, rfl⟩
  have hoth : ∀ g, g ≠ b → V.heap[g]? = w2.heap[g]? := fun g hg => by rw [hV]; exact Below.heap_setCell _ _ _ _ hg
  have hcV : V.heap[b]? = some (.cells #[.int .i64 (edBackK k), .slice e0 path.length l0, .int .i64 pl, .string nm, .string tn, .int .i64 sh.kd, .slice e1 u1 l1, .slice e2 u2 l2, .slice e3 u3 l3, .int .i64 ws.kd, .slice v1 z1 h1, .slice v2 z2 h2, .slice v3 z3 h3] 33 (0, 0)) := by
    have := blk_set hc 0 (.int .i64 (edBackK k))
    rw [hV]; simpa only [List.setIfInBounds_toArray, List.set_cons_zero, List.set_cons_succ] using this
  have hup : ∀ g, g < w1.heap.size → V.heap[g]? = w1.heap[g]? := fun g hg => (hoth g (by omega)).trans (hba.block g hg)
  have C0 := Lib.hid hcV
  have Q1 : Hid (OwnStrs V W.heap.size (.slice e0 path.length l0) path) := ⟨ho1.1, own_block ho1.2 fun g hg => hup g (blkOf_own ho1.2 g hg).2⟩
  have Q2 := Lib.hid (OwnSh.move (Nat.le_refl _) _ _ _ (fun g hg => hup g (OwnSh.blocks _ _ _ ho2 g hg).2) ho2)
  have Q3 := Lib.hid (OwnSh.move (Nat.le_refl _) _ _ _ (fun g hg => hup g (OwnSh.blocks _ _ _ ho3 g hg).2) ho3)
  have QN : Hid ((b :: (blkOf (.slice e0 path.length l0) ++ (F1 ++ F2))).Nodup) := List.nodup_cons.2 ⟨fun hm => by have := (hlt _ hm).2; omega, hn⟩
  have UB : Hid (W.heap.size ≤ b) := by show _ ≤ _; rw [hbz]; exact hb1.size
  have hbV : Below W.heap.size W V := by rw [hV]; exact hbb.setCell (p := ⟨b, 0, none⟩) UB.out _
  have BV := Lib.hid (B0.out.trans (hbV.mono B0.out.size))
  have AV := Lib.hid (blk_below A0.out hbV (Array.getElem?_eq_some_iff.1 A0.out).1)
  have DV := Lib.hid (blk_below D0.out hbV (Array.getElem?_eq_some_iff.1 D0.out).1)
  have A2 := Lib.hid (blk_below A0.out hbb (Array.getElem?_eq_some_iff.1 A0.out).1)
  have HC2 := Lib.hid hc
  have hek2 := Keeps.of_below hbb _ _ _ (EK.out k KN.out).2.1
  have HW2 := Lib.hid hw
  have HV := Lib.hid hV
  have HBZ := Lib.hid hbz
  clear ho1 ho2 ho3 hn hb1 hlt hc hba hbb hoth hcV hup hbV hw hV a0 a1 a2 a3 a4 a5 a6 a7 a8 a9 a10 a11 a12
  go_upto_region 2 with fail
  rw [← HW2.out, ← HBZ.out]
  clear hbz
  have a0 := cel A2.out 0 rfl
  have c0 := cel HC2.out 0 rfl
  have f0 := frz_of HC2.out 0
  go_upto_region 3 with fail
  rw [← HV.out]
  clear a0 c0 f0 hek2
  have a0 := cel AV.out 0 rfl
  have c0 := cel C0.out 0 rfl
  have f0 := frz_of C0.out 0
  have d0 := cel DV.out 0 rfl
  have g0 := frz_of DV.out 0
  have c1 := cel C0.out 1 rfl
  have f1 := frz_of C0.out 1
  have d1 := cel DV.out 1 rfl
  have g1 := frz_of DV.out 1
  have c2 := cel C0.out 2 rfl
  have f2 := frz_of C0.out 2
  have d2 := cel DV.out 2 rfl
  have g2 := frz_of DV.out 2
  have c3 := cel C0.out 3 rfl
  have f3 := frz_of C0.out 3
  have d3 := cel DV.out 3 rfl
  have g3 := frz_of DV.out 3
  have c4 := cel C0.out 4 rfl
  have f4 := frz_of C0.out 4
  have d4 := cel DV.out 4 rfl
  have g4 := frz_of DV.out 4
  have c5 := cel C0.out 5 rfl
  have f5 := frz_of C0.out 5
  have d5 := cel DV.out 5 rfl
  have g5 := frz_of DV.out 5
  have c6 := cel C0.out 6 rfl
  have f6 := frz_of C0.out 6
  have d6 := cel DV.out 6 rfl
  have g6 := frz_of DV.out 6
  have c7 := cel C0.out 7 rfl
  have f7 := frz_of C0.out 7
  have d7 := cel DV.out 7 rfl
  have g7 := frz_of DV.out 7
  have c8 := cel C0.out 8 rfl
  have f8 := frz_of C0.out 8
  have d8 := cel DV.out 8 rfl
  have g8 := frz_of DV.out 8
  have c9 := cel C0.out 9 rfl
  have f9 := frz_of C0.out 9
  have d9 := cel DV.out 9 rfl
  have g9 := frz_of DV.out 9
  have c10 := cel C0.out 10 rfl
  have f10 := frz_of C0.out 10
  have d10 := cel DV.out 10 rfl
  have g10 := frz_of DV.out 10
  have c11 := cel C0.out 11 rfl
  have f11 := frz_of C0.out 11
  have d11 := cel DV.out 11 rfl
  have g11 := frz_of DV.out 11
  have c12 := cel C0.out 12 rfl
  have f12 := frz_of C0.out 12
  have d12 := cel DV.out 12 rfl
  have g12 := frz_of DV.out 12
  have nbd : ¬ b = w.heap.size + 1 := by have := UB.out; have := WS.out; omega
  have ndb : ¬ w.heap.size + 1 = b := fun h => nbd h.symm
  by_cases e3 : k = 3
  · have HU : Hid (undoneR ⟨(k : Int), path, pl, nm, tn, sh, ws⟩ = ⟨edBackK k, path, pl, tn, nm, sh, ws⟩) := by show _ = _; subst e3; rfl
    have b3 : ((k : Int) == 3) = true := by subst e3; rfl
    clear e3
    go_wp2_with fail
    refine bodyPost_ret (v := .agg #[.int .i64 (edBackK k), .slice e0 path.length l0, .int .i64 pl, .string tn, .string nm, .int .i64 sh.kd, .slice e1 u1 l1, .slice e2 u2 l2, .slice e3 u3 l3, .int .i64 ws.kd, .slice v1 z1 h1, .slice v2 z2 h2, .slice v3 z3 h3]) ?_ rfl ?_
    · simp [results, Tryd.results29, go_sem, d0, d1, d2, d3, d4, d5, d6, d7, d8, d9, d10, d11, d12]
    · rw [HU.out]
      exact ed_fin (d := w.heap.size + 1) (edBackK_in k) K2.out y4 y3 B0.out.size (by have := WS.out; omega) (by omega) UB.out Q1.out Q2.out Q3.out QN.out ((((((((((((((((Only.refl [b, w.heap.size + 1] V).set (by simp) 3 _).set (by simp) 4 _).set (by simp) 0 _).set (by simp) 1 _).set (by simp) 2 _).set (by simp) 3 _).set (by simp) 4 _).set (by simp) 5 _).set (by simp) 6 _).set (by simp) 7 _).set (by simp) 8 _).set (by simp) 9 _).set (by simp) 10 _).set (by simp) 11 _).set (by simp) 12 _) BV.out
  have b3 : ((k : Int) == 3) = false := by rw [beq_eq_false_iff_ne]; omega
  by_cases e10 : k = 10
  · have HU : Hid (undoneR ⟨(k : Int), path, pl, nm, tn, sh, ws⟩ = ⟨edBackK k, path, pl, nm, tn, ws, sh⟩) := by show _ = _; subst e10; rfl
    have b10 : ((k : Int) == 10) = true := by subst e10; rfl
    clear e3 e10
    go_wp2_with fail
    refine bodyPost_ret (v := .agg #[.int .i64 (edBackK k), .slice e0 path.length l0, .int .i64 pl, .string nm, .string tn, .int .i64 ws.kd, .slice v1 z1 h1, .slice v2 z2 h2, .slice v3 z3 h3, .int .i64 sh.kd, .slice e1 u1 l1, .slice e2 u2 l2, .slice e3 u3 l3]) ?_ rfl ?_
    · simp [results, Tryd.results29, go_sem, d0, d1, d2, d3, d4, d5, d6, d7, d8, d9, d10, d11, d12]
    · rw [HU.out]
      exact ed_fin (d := w.heap.size + 1) (edBackK_in k) K2.out y3 y4 B0.out.size (by have := WS.out; omega) (by omega) UB.out Q1.out Q3.out Q2.out ((((List.perm_append_comm).append_left _).cons b).nodup_iff.1 QN.out) ((((((((((((((((((((((Only.refl [b, w.heap.size + 1] V).set (by simp) 5 _).set (by simp) 6 _).set (by simp) 7 _).set (by simp) 8 _).set (by simp) 9 _).set (by simp) 10 _).set (by simp) 11 _).set (by simp) 12 _).set (by simp) 0 _).set (by simp) 1 _).set (by simp) 2 _).set (by simp) 3 _).set (by simp) 4 _).set (by simp) 5 _).set (by simp) 6 _).set (by simp) 7 _).set (by simp) 8 _).set (by simp) 9 _).set (by simp) 10 _).set (by simp) 11 _).set (by simp) 12 _) BV.out
  · have b10 : ((k : Int) == 10) = false := by rw [beq_eq_false_iff_ne]; omega
    have HU : Hid (undoneR ⟨(k : Int), path, pl, nm, tn, sh, ws⟩ = ⟨edBackK k, path, pl, nm, tn, sh, ws⟩) := by show _ = _; have n3 : ¬ (k : Int) = 3 := (by omega); have n10 : ¬ (k : Int) = 10 := (by omega); simp [undoneR, n3, n10]
    clear e3 e10
    go_wp2_with fail
    refine bodyPost_ret (v := .agg #[.int .i64 (edBackK k), .slice e0 path.length l0, .int .i64 pl, .string nm, .string tn, .int .i64 sh.kd, .slice e1 u1 l1, .slice e2 u2 l2, .slice e3 u3 l3, .int .i64 ws.kd, .slice v1 z1 h1, .slice v2 z2 h2, .slice v3 z3 h3]) ?_ rfl ?_
    · simp [results, Tryd.results29, go_sem, d0, d1, d2, d3, d4, d5, d6, d7, d8, d9, d10, d11, d12]
    · rw [HU.out]
      exact ed_fin (d := w.heap.size + 1) (edBackK_in k) K2.out y3 y4 B0.out.size (by have := WS.out; omega) (by omega) UB.out Q1.out Q2.out Q3.out QN.out ((((((((((((((Only.refl [b, w.heap.size + 1] V).set (by simp) 0 _).set (by simp) 1 _).set (by simp) 2 _).set (by simp) 3 _).set (by simp) 4 _).set (by simp) 5 _).set (by simp) 6 _).set (by simp) 7 _).set (by simp) 8 _).set (by simp) 9 _).set (by simp) 10 _).set (by simp) 11 _).set (by simp) 12 _) BV.out
end Go.Proofs.YtfdhmkmeffgkgaaDoor
