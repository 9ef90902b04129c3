/- Walk: impl.undone. -/
import Derived.Test.YtmdlciomhkielaaDoorGEdBkP
import Derived.Test.YtmdlciomhkielaaDoorGCpA
import Derived.Deep.RegionHeld3
import Derived.Deep.DeepCutAuto
namespace Go.Proofs.YtmdlciomhkielaaDoor
open Go.RowKit

theorem ed_fin {r : Ed} {w u V wf : World} {b d : Nat} {p0 : Option Addr} {m0 : Nat} {p1 p2 p3 q1 q2 q3 : Option Addr} {n1 m1 n2 m2 n3 m3 i1 j1 i2 j2 i3 j3 : Nat} {F1 F2 : List Nat} (hkd : InI64' r.kd) (hpl : InI64' r.pl) (y3 : r.nm.size ≤ 9223372036854775807) (y4 : r.tn.size ≤ 9223372036854775807)
    (h0 : w.heap.size ≤ u.heap.size) (hd : d < u.heap.size) (hd0 : w.heap.size ≤ d) (hub : u.heap.size ≤ b)
    (ho1 : OwnStrs V u.heap.size (.slice p0 r.path.length m0) r.path) (ho2 : OwnSh V u.heap.size r.sh (.agg #[.int .i64 r.sh.kd, .slice p1 n1 m1, .slice p2 n2 m2, .slice p3 n3 m3]) F1) (ho3 : OwnSh V u.heap.size r.ws (.agg #[.int .i64 r.ws.kd, .slice q1 i1 j1, .slice q2 i2 j2, .slice q3 i3 j3]) F2)
    (hnd : (b :: (blkOf (.slice p0 r.path.length m0) ++ (F1 ++ F2))).Nodup) (hy : Only [b, d] V wf) (hb : Below w.heap.size w V) :
    EdPost r w (.returned (.agg #[.int .i64 r.kd, .slice p0 r.path.length m0, .int .i64 r.pl, .string r.nm, .string r.tn, .int .i64 r.sh.kd, .slice p1 n1 m1, .slice p2 n2 m2, .slice p3 n3 m3, .int .i64 r.ws.kd, .slice q1 i1 j1, .slice q2 i2 j2, .slice q3 i3 j3])) wf := by
  obtain ⟨hnb, hnF⟩ := List.nodup_cons.1 hnd
  have e : ∀ g, u.heap.size ≤ g → g < V.heap.size → g ∈ blkOf (.slice p0 r.path.length m0) ++ (F1 ++ F2) → wf.heap[g]? = V.heap[g]? := fun g h1 h2 h3 =>
    hy.block g h2 (by simp only [List.mem_cons, List.not_mem_nil, or_false, not_or]; exact ⟨fun e => hnb (e ▸ h3), by omega⟩)
  refine ⟨_, _, rfl, ⟨_, _, _, _, _, _, _, _, _, _, _, _, _, _, _, _, _, _, _, _, F1, F2, rfl, hkd, hpl, y3, y4, ⟨ho1.1, own_mono (own_block ho1.2 fun g hg => ?_) h0⟩, OwnSh.move h0 _ _ _ (fun g hg => ?_) ho2, OwnSh.move h0 _ _ _ (fun g hg => ?_) ho3, rfl⟩, hnF, ?_⟩
  · have q := blkOf_own ho1.2 g hg
    exact e g q.1 q.2 (by simp [hg])
  · have q := OwnSh.blocks _ _ _ ho2 g hg
    exact e g q.1 q.2 (by simp [hg])
  · have q := OwnSh.blocks _ _ _ ho3 g hg
    exact e g q.1 q.2 (by simp [hg])
  · exact hb.trans (hy.below hb.size (by simp; omega))

set_option maxRecDepth 100000 in
set_option maxHeartbeats 20000000 in
theorem und_cut (t : Ed) (v : Value) (w : World) (hok : edOk t = true) (h : IsEd w t v) (hek : EkAt w) :
    Calls Tryd.prog 51 #[v] w (EdPost (undoneR t) w) := by
  obtain ⟨p0, m0, p1, n1, m1, p2, n2, m2, p3, n3, m3, q1, i1, j1, q2, i2, j2, q3, i3, j3, rfl, hk1, hk2, y3, y4, h5, h6, h7⟩ := h
  obtain ⟨⟨g1, g2⟩, ⟨s1, s2⟩, s3, s4, s5, s6⟩ := ed_small hok
  cases t with | mk kd path pl nm tn sh ws =>
  dsimp only at *
  obtain ⟨k, rfl⟩ : ∃ k : Nat, kd = (k : Int) := ⟨kd.toNat, by omega⟩
  obtain ⟨W, hW⟩ : ∃ W, W = (w.alloc (.cells #[.int .i64 (k : Int), .slice p0 path.length m0, .int .i64 pl, .string nm, .string tn, .int .i64 sh.kd, .slice p1 n1 m1, .slice p2 n2 m2, .slice p3 n3 m3, .int .i64 ws.kd, .slice q1 i1 j1, .slice q2 i2 j2, .slice q3 i3 j3] 51)).alloc (.cells #[.int .i64 0, .slice none 0 0, .int .i64 0, .string ⟨#[]⟩, .string ⟨#[]⟩, .int .i64 0, .slice none 0 0, .slice none 0 0, .slice none 0 0, .int .i64 0, .slice none 0 0, .slice none 0 0, .slice none 0 0] 51) := ⟨_, rfl⟩
  obtain ⟨x0, x1⟩ := two_new w (.cells #[.int .i64 (k : Int), .slice p0 path.length m0, .int .i64 pl, .string nm, .string tn, .int .i64 sh.kd, .slice p1 n1 m1, .slice p2 n2 m2, .slice p3 n3 m3, .int .i64 ws.kd, .slice q1 i1 j1, .slice q2 i2 j2, .slice q3 i3 j3] 51) (.cells #[.int .i64 0, .slice none 0 0, .int .i64 0, .string ⟨#[]⟩, .string ⟨#[]⟩, .int .i64 0, .slice none 0 0, .slice none 0 0, .slice none 0 0, .int .i64 0, .slice none 0 0, .slice none 0 0, .slice none 0 0] 51)
  have hb : Below w.heap.size w W := by rw [hW]; exact (below_alloc w _).alloc (by simp) _
  have hWs : W.heap.size = w.heap.size + 1 + 1 := by rw [hW]; simp
  rw [← hW] at x0 x1
  have A0 := Lib.hid x0
  have D0 := Lib.hid x1
  have B0 := Lib.hid hb
  have HW := Lib.hid hW
  have WS := Lib.hid hWs
  have K1 := Lib.hid hk1
  have K2 := Lib.hid hk2
  have KP := Lib.hid (fun (w' : World) (hb' : Below W.heap.size W w') => h5.keep (Keeps.of_below (hb.trans (hb'.mono hb.size))))
  have KS := Lib.hid (fun (w' : World) (hb' : Below W.heap.size W w') => IsSh.keep (Keeps.of_below (hb.trans (hb'.mono hb.size))) _ _ h6)
  have KW := Lib.hid (fun (w' : World) (hb' : Below W.heap.size W w') => IsSh.keep (Keeps.of_below (hb.trans (hb'.mono hb.size))) _ _ h7)
  have EK := Lib.hid (hek.keep (Keeps.of_below hb))
  have C5 := Lib.hid s5
  have C6 := Lib.hid s6
  have P1 : Hid (path.length ≤ 8001) := by show _ ≤ _; omega
  have P2 : Hid (∀ s ∈ path, s.size ≤ 1099511627776) := fun s hs => by have := s2 s hs; omega
  have P3 : Hid (nm.size ≤ 1099511627776) := by show _ ≤ _; omega
  have P4 : Hid (tn.size ≤ 1099511627776) := by show _ ≤ _; omega
  have k0 : (0 : Int) ≤ (k : Int) := by omega
  have k11 : (k : Int) < 11 := by omega
  clear x0 x1 hb hW hWs hk1 hk2 h5 h6 h7 hek s1 s2 s3 s4 s5 s6 hok g1 g2
  have HSK : Hid (∀ w', Below W.heap.size W w' → (w'.cell? ⟨w.heap.size, 0, none⟩ = some (.int .i64 (k : Int)) ∧ w'.cell? ⟨w.heap.size, 1, none⟩ = some (.slice p0 path.length m0) ∧ w'.cell? ⟨w.heap.size, 2, none⟩ = some (.int .i64 pl) ∧ w'.cell? ⟨w.heap.size, 3, none⟩ = some (.string nm) ∧ w'.cell? ⟨w.heap.size, 4, none⟩ = some (.string tn) ∧ w'.cell? ⟨w.heap.size, 5, none⟩ = some (.int .i64 sh.kd) ∧ w'.cell? ⟨w.heap.size, 6, none⟩ = some (.slice p1 n1 m1) ∧ w'.cell? ⟨w.heap.size, 7, none⟩ = some (.slice p2 n2 m2) ∧ w'.cell? ⟨w.heap.size, 8, none⟩ = some (.slice p3 n3 m3) ∧ w'.cell? ⟨w.heap.size, 9, none⟩ = some (.int .i64 ws.kd) ∧ w'.cell? ⟨w.heap.size, 10, none⟩ = some (.slice q1 i1 j1) ∧ w'.cell? ⟨w.heap.size, 11, none⟩ = some (.slice q2 i2 j2) ∧ w'.cell? ⟨w.heap.size, 12, none⟩ = some (.slice q3 i3 j3) ∧ w'.cell? ⟨0, k * 8 + 1, none⟩ = some (.int .i64 (edBackK k)))) := fun w' hb' => by
    have kk : ∀ b o c, b < W.heap.size → W.cell? ⟨b, o, none⟩ = some c → w'.cell? ⟨b, o, none⟩ = some c := fun b o c hlt hc => by rw [hb'.cell (p := ⟨b, o, none⟩) hlt]; exact hc
    have az := (Array.getElem?_eq_some_iff.1 A0.out).1
    exact ⟨kk _ _ _ az (cel A0.out 0 rfl), kk _ _ _ az (cel A0.out 1 rfl), kk _ _ _ az (cel A0.out 2 rfl), kk _ _ _ az (cel A0.out 3 rfl), kk _ _ _ az (cel A0.out 4 rfl), kk _ _ _ az (cel A0.out 5 rfl), kk _ _ _ az (cel A0.out 6 rfl), kk _ _ _ az (cel A0.out 7 rfl), kk _ _ _ az (cel A0.out 8 rfl), kk _ _ _ az (cel A0.out 9 rfl), kk _ _ _ az (cel A0.out 10 rfl), kk _ _ _ az (cel A0.out 11 rfl), kk _ _ _ az (cel A0.out 12 rfl), Keeps.of_below hb' _ _ _ (EK.out k (by omega)).2.1⟩
  go_enter Tryd.func51, Tryd.ntmps51
  go_upto_region 1 with fail
  rw [← HW.out]
  obtain ⟨r0, hr0⟩ : ∃ r0 : Ed, r0 = ⟨edBackK k, path, pl, nm, tn, sh, ws⟩ := ⟨_, rfl⟩
  go_cut [3] (fun x wc => Hid (UdCut ⟨edBackK k, path, pl, nm, tn, sh, ws⟩ W x wc))
  case first =>
    go_region_held3 (fun w' => w'.cell? ⟨w.heap.size, 0, none⟩ = some (.int .i64 (k : Int)) ∧ w'.cell? ⟨w.heap.size, 1, none⟩ = some (.slice p0 path.length m0) ∧ w'.cell? ⟨w.heap.size, 2, none⟩ = some (.int .i64 pl) ∧ w'.cell? ⟨w.heap.size, 3, none⟩ = some (.string nm) ∧ w'.cell? ⟨w.heap.size, 4, none⟩ = some (.string tn) ∧ w'.cell? ⟨w.heap.size, 5, none⟩ = some (.int .i64 sh.kd) ∧ w'.cell? ⟨w.heap.size, 6, none⟩ = some (.slice p1 n1 m1) ∧ w'.cell? ⟨w.heap.size, 7, none⟩ = some (.slice p2 n2 m2) ∧ w'.cell? ⟨w.heap.size, 8, none⟩ = some (.slice p3 n3 m3) ∧ w'.cell? ⟨w.heap.size, 9, none⟩ = some (.int .i64 ws.kd) ∧ w'.cell? ⟨w.heap.size, 10, none⟩ = some (.slice q1 i1 j1) ∧ w'.cell? ⟨w.heap.size, 11, none⟩ = some (.slice q2 i2 j2) ∧ w'.cell? ⟨w.heap.size, 12, none⟩ = some (.slice q3 i3 j3) ∧ w'.cell? ⟨0, k * 8 + 1, none⟩ = some (.int .i64 (edBackK k)))
      (first
        | (have g9 := NB5; first | with_reducible exact HSK.out _ BB5.out | with_reducible exact HSK.out _ (setE_below BB5.out hz5 _ _ _ _ _ _ _ _ _ _ _ _ _))
        | with_reducible exact HSK.out _ BB5.out
        | with_reducible exact HSK.out _ (BB5.out.alloc BB5.out.size _)
        | with_reducible exact HSK.out _ BB4.out
        | with_reducible exact HSK.out _ (BB4.out.alloc BB4.out.size _)
        | with_reducible exact HSK.out _ BB3.out
        | with_reducible exact HSK.out _ (BB3.out.alloc BB3.out.size _)
        | with_reducible exact HSK.out _ BB2.out
        | with_reducible exact HSK.out _ (BB2.out.alloc BB2.out.size _)
        | with_reducible exact HSK.out _ BB1.out
        | with_reducible exact HSK.out _ (BB1.out.alloc BB1.out.size _)
        | with_reducible exact HSK.out _ ((Below.refl _ W).alloc (Nat.le_refl _) _).drew
        | with_reducible exact HSK.out _ (Below.refl _ W).drew)
      (first
        | (go_at_call 45; (with_reducible show Go.Calls _ _ _ (W.drew) _); refine (copyWords_any _ path W.drew (KP.out _ (Below.refl _ W).drew) P1.out P2.out).mono ?_; rintro e w1 ⟨r1, x1, y1, rfl, ho, hb⟩; obtain rfl := own_len ho; have hbb : Below W.heap.size W w1 := (Below.refl _ W).drew.trans hb; have L1 : Hid (∀ g ∈ blkOf (.slice r1 path.length y1), W.heap.size ≤ g ∧ g < w1.heap.size) := fun g hg => (by have q := blkOf_own ho.2 g hg; exact q); have O1 := Lib.hid (OwnStrs.low (C := W.heap.size) ho (Nat.le_refl _)); have BB1 := Lib.hid hbb; have Z1 := Lib.hid hbb.size; clear hb hbb ho)
        | (go_at_call 45; (with_reducible show Go.Calls _ _ _ ((W.alloc (.cells #[.int .i64 0, .slice none 0 0, .int .i64 0, .string ⟨#[]⟩, .string ⟨#[]⟩, .int .i64 0, .slice none 0 0, .slice none 0 0, .slice none 0 0, .int .i64 0, .slice none 0 0, .slice none 0 0, .slice none 0 0] 51)).drew) _); refine (copyWords_any _ path (W.alloc (.cells #[.int .i64 0, .slice none 0 0, .int .i64 0, .string ⟨#[]⟩, .string ⟨#[]⟩, .int .i64 0, .slice none 0 0, .slice none 0 0, .slice none 0 0, .int .i64 0, .slice none 0 0, .slice none 0 0, .slice none 0 0] 51)).drew (KP.out _ ((Below.refl _ W).alloc (Nat.le_refl _) _).drew) P1.out P2.out).mono ?_; rintro e w1 ⟨r1, x1, y1, rfl, ho, hb⟩; obtain rfl := own_len ho; have hbb : Below W.heap.size W w1 := (below_alloc W _).drew.trans (hb.mono (show W.heap.size ≤ (W.alloc (.cells #[.int .i64 0, .slice none 0 0, .int .i64 0, .string ⟨#[]⟩, .string ⟨#[]⟩, .int .i64 0, .slice none 0 0, .slice none 0 0, .slice none 0 0, .int .i64 0, .slice none 0 0, .slice none 0 0, .slice none 0 0] 51)).heap.size by simp)); have L1 : Hid (∀ g ∈ blkOf (.slice r1 path.length y1), W.heap.size + 1 ≤ g ∧ g < w1.heap.size) := fun g hg => (by have q := blkOf_own ho.2 g hg; have z := (show ((W.alloc (.cells #[.int .i64 0, .slice none 0 0, .int .i64 0, .string ⟨#[]⟩, .string ⟨#[]⟩, .int .i64 0, .slice none 0 0, .slice none 0 0, .slice none 0 0, .int .i64 0, .slice none 0 0, .slice none 0 0, .slice none 0 0] 51)).drew).heap.size = W.heap.size + 1 by simp); rw [z] at q; exact q); have O1 := Lib.hid (OwnStrs.low (C := W.heap.size) ho (show W.heap.size ≤ ((W.alloc (.cells #[.int .i64 0, .slice none 0 0, .int .i64 0, .string ⟨#[]⟩, .string ⟨#[]⟩, .int .i64 0, .slice none 0 0, .slice none 0 0, .slice none 0 0, .int .i64 0, .slice none 0 0, .slice none 0 0, .slice none 0 0] 51)).drew).heap.size by simp)); have BB1 := Lib.hid hbb; have Z1 := Lib.hid (show W.heap.size + 1 ≤ w1.heap.size from (by have q := hb.size; simpa using q)); have NB1 := Lib.hid (And.intro (blk_below (w := (W.alloc (.cells #[.int .i64 0, .slice none 0 0, .int .i64 0, .string ⟨#[]⟩, .string ⟨#[]⟩, .int .i64 0, .slice none 0 0, .slice none 0 0, .slice none 0 0, .int .i64 0, .slice none 0 0, .slice none 0 0, .slice none 0 0] 51)).drew) (Go.Deep.blk_alloc_new W (.cells #[.int .i64 0, .slice none 0 0, .int .i64 0, .string ⟨#[]⟩, .string ⟨#[]⟩, .int .i64 0, .slice none 0 0, .slice none 0 0, .slice none 0 0, .int .i64 0, .slice none 0 0, .slice none 0 0, .slice none 0 0] 51)) hb (show W.heap.size < (W.alloc (.cells #[.int .i64 0, .slice none 0 0, .int .i64 0, .string ⟨#[]⟩, .string ⟨#[]⟩, .int .i64 0, .slice none 0 0, .slice none 0 0, .slice none 0 0, .int .i64 0, .slice none 0 0, .slice none 0 0, .slice none 0 0] 51)).heap.size by simp)) (And.intro (Nat.le_refl W.heap.size) (show W.heap.size < w1.heap.size from Nat.lt_of_lt_of_le (show W.heap.size < (W.alloc (.cells #[.int .i64 0, .slice none 0 0, .int .i64 0, .string ⟨#[]⟩, .string ⟨#[]⟩, .int .i64 0, .slice none 0 0, .slice none 0 0, .slice none 0 0, .int .i64 0, .slice none 0 0, .slice none 0 0, .slice none 0 0] 51)).heap.size by simp) hb.size))); clear hb hbb ho)
        | (have g9 := NB1; clear g9; go_at_call 82; (with_reducible show Go.Calls _ _ #[Value.string nm] (w1) _); refine (clone_any nm w1 P3.out).mono ?_; rintro e w2 ⟨rfl, hb⟩; have hbb : Below w1.heap.size w1 w2 := hb; have BB2 := Lib.hid (BB1.out.trans (hbb.mono BB1.out.size)); have Z2 := Lib.hid hbb.size; have O2 := Lib.hid (O1.out.block hbb); have NB2 := Lib.hid (And.intro (blk_below NB1.out.1 hbb NB1.out.2.2) (And.intro NB1.out.2.1 (Nat.lt_of_lt_of_le NB1.out.2.2 hbb.size))); clear hb hbb)
        | (go_at_call 82; (with_reducible show Go.Calls _ _ #[Value.string nm] (w1) _); refine (clone_any nm w1 P3.out).mono ?_; rintro e w2 ⟨rfl, hb⟩; have hbb : Below w1.heap.size w1 w2 := hb; have BB2 := Lib.hid (BB1.out.trans (hbb.mono BB1.out.size)); have Z2 := Lib.hid hbb.size; have O2 := Lib.hid (O1.out.block hbb); clear hb hbb)
        | (go_at_call 82; (with_reducible show Go.Calls _ _ #[Value.string nm] ((w1.alloc (.cells #[.int .i64 0, .slice none 0 0, .int .i64 0, .string ⟨#[]⟩, .string ⟨#[]⟩, .int .i64 0, .slice none 0 0, .slice none 0 0, .slice none 0 0, .int .i64 0, .slice none 0 0, .slice none 0 0, .slice none 0 0] 51))) _); refine (clone_any nm (w1.alloc (.cells #[.int .i64 0, .slice none 0 0, .int .i64 0, .string ⟨#[]⟩, .string ⟨#[]⟩, .int .i64 0, .slice none 0 0, .slice none 0 0, .slice none 0 0, .int .i64 0, .slice none 0 0, .slice none 0 0, .slice none 0 0] 51)) P3.out).mono ?_; rintro e w2 ⟨rfl, hb⟩; have hbb : Below w1.heap.size w1 w2 := (below_alloc w1 _).trans (hb.mono (show w1.heap.size ≤ (w1.alloc (.cells #[.int .i64 0, .slice none 0 0, .int .i64 0, .string ⟨#[]⟩, .string ⟨#[]⟩, .int .i64 0, .slice none 0 0, .slice none 0 0, .slice none 0 0, .int .i64 0, .slice none 0 0, .slice none 0 0, .slice none 0 0] 51)).heap.size by simp)); have BB2 := Lib.hid (BB1.out.trans (hbb.mono BB1.out.size)); have Z2 := Lib.hid (show w1.heap.size + 1 ≤ w2.heap.size from (by have q := hb.size; simpa using q)); have O2 := Lib.hid (O1.out.block hbb); have NB2 := Lib.hid (And.intro (blk_below (Go.Deep.blk_alloc_new w1 (.cells #[.int .i64 0, .slice none 0 0, .int .i64 0, .string ⟨#[]⟩, .string ⟨#[]⟩, .int .i64 0, .slice none 0 0, .slice none 0 0, .slice none 0 0, .int .i64 0, .slice none 0 0, .slice none 0 0, .slice none 0 0] 51)) hb (show w1.heap.size < (w1.alloc (.cells #[.int .i64 0, .slice none 0 0, .int .i64 0, .string ⟨#[]⟩, .string ⟨#[]⟩, .int .i64 0, .slice none 0 0, .slice none 0 0, .slice none 0 0, .int .i64 0, .slice none 0 0, .slice none 0 0, .slice none 0 0] 51)).heap.size by simp)) (And.intro BB1.out.size (show w1.heap.size < w2.heap.size from Nat.lt_of_lt_of_le (show w1.heap.size < (w1.alloc (.cells #[.int .i64 0, .slice none 0 0, .int .i64 0, .string ⟨#[]⟩, .string ⟨#[]⟩, .int .i64 0, .slice none 0 0, .slice none 0 0, .slice none 0 0, .int .i64 0, .slice none 0 0, .slice none 0 0, .slice none 0 0] 51)).heap.size by simp) hb.size))); clear hb hbb)
        | (have g9 := NB2; clear g9; go_at_call 82; (with_reducible show Go.Calls _ _ #[Value.string tn] (w2) _); refine (clone_any tn w2 P4.out).mono ?_; rintro e w3 ⟨rfl, hb⟩; have hbb : Below w2.heap.size w2 w3 := hb; have BB3 := Lib.hid (BB2.out.trans (hbb.mono BB2.out.size)); have Z3 := Lib.hid hbb.size; have O3 := Lib.hid (O2.out.block hbb); have NB3 := Lib.hid (And.intro (blk_below NB2.out.1 hbb NB2.out.2.2) (And.intro NB2.out.2.1 (Nat.lt_of_lt_of_le NB2.out.2.2 hbb.size))); clear hb hbb)
        | (go_at_call 82; (with_reducible show Go.Calls _ _ #[Value.string tn] (w2) _); refine (clone_any tn w2 P4.out).mono ?_; rintro e w3 ⟨rfl, hb⟩; have hbb : Below w2.heap.size w2 w3 := hb; have BB3 := Lib.hid (BB2.out.trans (hbb.mono BB2.out.size)); have Z3 := Lib.hid hbb.size; have O3 := Lib.hid (O2.out.block hbb); clear hb hbb)
        | (go_at_call 82; (with_reducible show Go.Calls _ _ #[Value.string tn] ((w2.alloc (.cells #[.int .i64 0, .slice none 0 0, .int .i64 0, .string ⟨#[]⟩, .string ⟨#[]⟩, .int .i64 0, .slice none 0 0, .slice none 0 0, .slice none 0 0, .int .i64 0, .slice none 0 0, .slice none 0 0, .slice none 0 0] 51))) _); refine (clone_any tn (w2.alloc (.cells #[.int .i64 0, .slice none 0 0, .int .i64 0, .string ⟨#[]⟩, .string ⟨#[]⟩, .int .i64 0, .slice none 0 0, .slice none 0 0, .slice none 0 0, .int .i64 0, .slice none 0 0, .slice none 0 0, .slice none 0 0] 51)) P4.out).mono ?_; rintro e w3 ⟨rfl, hb⟩; have hbb : Below w2.heap.size w2 w3 := (below_alloc w2 _).trans (hb.mono (show w2.heap.size ≤ (w2.alloc (.cells #[.int .i64 0, .slice none 0 0, .int .i64 0, .string ⟨#[]⟩, .string ⟨#[]⟩, .int .i64 0, .slice none 0 0, .slice none 0 0, .slice none 0 0, .int .i64 0, .slice none 0 0, .slice none 0 0, .slice none 0 0] 51)).heap.size by simp)); have BB3 := Lib.hid (BB2.out.trans (hbb.mono BB2.out.size)); have Z3 := Lib.hid (show w2.heap.size + 1 ≤ w3.heap.size from (by have q := hb.size; simpa using q)); have O3 := Lib.hid (O2.out.block hbb); have NB3 := Lib.hid (And.intro (blk_below (Go.Deep.blk_alloc_new w2 (.cells #[.int .i64 0, .slice none 0 0, .int .i64 0, .string ⟨#[]⟩, .string ⟨#[]⟩, .int .i64 0, .slice none 0 0, .slice none 0 0, .slice none 0 0, .int .i64 0, .slice none 0 0, .slice none 0 0, .slice none 0 0] 51)) hb (show w2.heap.size < (w2.alloc (.cells #[.int .i64 0, .slice none 0 0, .int .i64 0, .string ⟨#[]⟩, .string ⟨#[]⟩, .int .i64 0, .slice none 0 0, .slice none 0 0, .slice none 0 0, .int .i64 0, .slice none 0 0, .slice none 0 0, .slice none 0 0] 51)).heap.size by simp)) (And.intro BB2.out.size (show w2.heap.size < w3.heap.size from Nat.lt_of_lt_of_le (show w2.heap.size < (w2.alloc (.cells #[.int .i64 0, .slice none 0 0, .int .i64 0, .string ⟨#[]⟩, .string ⟨#[]⟩, .int .i64 0, .slice none 0 0, .slice none 0 0, .slice none 0 0, .int .i64 0, .slice none 0 0, .slice none 0 0, .slice none 0 0] 51)).heap.size by simp) hb.size))); clear hb hbb)
        | (have g9 := NB3; clear g9; go_at_call 93; (with_reducible show Go.Calls _ _ #[(Value.agg #[.int .i64 sh.kd, .slice p1 n1 m1, .slice p2 n2 m2, .slice p3 n3 m3])] (w3) _); refine (cpI C5.out _ w3 (KS.out _ BB3.out)).mono ?_; rintro e w4 ⟨c0, c1, c2, c3, F4, rfl, ho, hn, hb⟩; obtain ⟨a41, b41, d41, a42, b42, d42, a43, b43, d43, rfl, rfl, rfl, rfl⟩ := (OwnSh.is _ _ _ ho).cells; have hbb : Below w3.heap.size w3 w4 := hb; have L4 : Hid (∀ g ∈ F4, w3.heap.size ≤ g ∧ g < w4.heap.size) := fun g hg => (by have q := OwnSh.blocks _ _ _ ho g hg; exact q); have N4 := Lib.hid hn; have S4 := Lib.hid (OwnSh.move (base' := W.heap.size) (Nat.le_trans BB3.out.size (Nat.le_refl _)) _ _ _ (fun g _ => rfl) ho); have BB4 := Lib.hid (BB3.out.trans (hbb.mono BB3.out.size)); have Z4 := Lib.hid hbb.size; have O4 := Lib.hid (O3.out.block hbb); have NB4 := Lib.hid (And.intro (blk_below NB3.out.1 hbb NB3.out.2.2) (And.intro NB3.out.2.1 (Nat.lt_of_lt_of_le NB3.out.2.2 hbb.size))); clear hb hbb ho hn)
        | (go_at_call 93; (with_reducible show Go.Calls _ _ #[(Value.agg #[.int .i64 sh.kd, .slice p1 n1 m1, .slice p2 n2 m2, .slice p3 n3 m3])] (w3) _); refine (cpI C5.out _ w3 (KS.out _ BB3.out)).mono ?_; rintro e w4 ⟨c0, c1, c2, c3, F4, rfl, ho, hn, hb⟩; obtain ⟨a41, b41, d41, a42, b42, d42, a43, b43, d43, rfl, rfl, rfl, rfl⟩ := (OwnSh.is _ _ _ ho).cells; have hbb : Below w3.heap.size w3 w4 := hb; have L4 : Hid (∀ g ∈ F4, w3.heap.size ≤ g ∧ g < w4.heap.size) := fun g hg => (by have q := OwnSh.blocks _ _ _ ho g hg; exact q); have N4 := Lib.hid hn; have S4 := Lib.hid (OwnSh.move (base' := W.heap.size) (Nat.le_trans BB3.out.size (Nat.le_refl _)) _ _ _ (fun g _ => rfl) ho); have BB4 := Lib.hid (BB3.out.trans (hbb.mono BB3.out.size)); have Z4 := Lib.hid hbb.size; have O4 := Lib.hid (O3.out.block hbb); clear hb hbb ho hn)
        | (go_at_call 93; (with_reducible show Go.Calls _ _ #[(Value.agg #[.int .i64 sh.kd, .slice p1 n1 m1, .slice p2 n2 m2, .slice p3 n3 m3])] ((w3.alloc (.cells #[.int .i64 0, .slice none 0 0, .int .i64 0, .string ⟨#[]⟩, .string ⟨#[]⟩, .int .i64 0, .slice none 0 0, .slice none 0 0, .slice none 0 0, .int .i64 0, .slice none 0 0, .slice none 0 0, .slice none 0 0] 51))) _); refine (cpI C5.out _ (w3.alloc (.cells #[.int .i64 0, .slice none 0 0, .int .i64 0, .string ⟨#[]⟩, .string ⟨#[]⟩, .int .i64 0, .slice none 0 0, .slice none 0 0, .slice none 0 0, .int .i64 0, .slice none 0 0, .slice none 0 0, .slice none 0 0] 51)) (KS.out _ (BB3.out.alloc BB3.out.size _))).mono ?_; rintro e w4 ⟨c0, c1, c2, c3, F4, rfl, ho, hn, hb⟩; obtain ⟨a41, b41, d41, a42, b42, d42, a43, b43, d43, rfl, rfl, rfl, rfl⟩ := (OwnSh.is _ _ _ ho).cells; have hbb : Below w3.heap.size w3 w4 := (below_alloc w3 _).trans (hb.mono (show w3.heap.size ≤ (w3.alloc (.cells #[.int .i64 0, .slice none 0 0, .int .i64 0, .string ⟨#[]⟩, .string ⟨#[]⟩, .int .i64 0, .slice none 0 0, .slice none 0 0, .slice none 0 0, .int .i64 0, .slice none 0 0, .slice none 0 0, .slice none 0 0] 51)).heap.size by simp)); have L4 : Hid (∀ g ∈ F4, w3.heap.size + 1 ≤ g ∧ g < w4.heap.size) := fun g hg => (by have q := OwnSh.blocks _ _ _ ho g hg; have z := (show ((w3.alloc (.cells #[.int .i64 0, .slice none 0 0, .int .i64 0, .string ⟨#[]⟩, .string ⟨#[]⟩, .int .i64 0, .slice none 0 0, .slice none 0 0, .slice none 0 0, .int .i64 0, .slice none 0 0, .slice none 0 0, .slice none 0 0] 51))).heap.size = w3.heap.size + 1 by simp); rw [z] at q; exact q); have N4 := Lib.hid hn; have S4 := Lib.hid (OwnSh.move (base' := W.heap.size) (Nat.le_trans BB3.out.size (show w3.heap.size ≤ ((w3.alloc (.cells #[.int .i64 0, .slice none 0 0, .int .i64 0, .string ⟨#[]⟩, .string ⟨#[]⟩, .int .i64 0, .slice none 0 0, .slice none 0 0, .slice none 0 0, .int .i64 0, .slice none 0 0, .slice none 0 0, .slice none 0 0] 51))).heap.size by simp)) _ _ _ (fun g _ => rfl) ho); have BB4 := Lib.hid (BB3.out.trans (hbb.mono BB3.out.size)); have Z4 := Lib.hid (show w3.heap.size + 1 ≤ w4.heap.size from (by have q := hb.size; simpa using q)); have O4 := Lib.hid (O3.out.block hbb); have NB4 := Lib.hid (And.intro (blk_below (Go.Deep.blk_alloc_new w3 (.cells #[.int .i64 0, .slice none 0 0, .int .i64 0, .string ⟨#[]⟩, .string ⟨#[]⟩, .int .i64 0, .slice none 0 0, .slice none 0 0, .slice none 0 0, .int .i64 0, .slice none 0 0, .slice none 0 0, .slice none 0 0] 51)) hb (show w3.heap.size < (w3.alloc (.cells #[.int .i64 0, .slice none 0 0, .int .i64 0, .string ⟨#[]⟩, .string ⟨#[]⟩, .int .i64 0, .slice none 0 0, .slice none 0 0, .slice none 0 0, .int .i64 0, .slice none 0 0, .slice none 0 0, .slice none 0 0] 51)).heap.size by simp)) (And.intro BB3.out.size (show w3.heap.size < w4.heap.size from Nat.lt_of_lt_of_le (show w3.heap.size < (w3.alloc (.cells #[.int .i64 0, .slice none 0 0, .int .i64 0, .string ⟨#[]⟩, .string ⟨#[]⟩, .int .i64 0, .slice none 0 0, .slice none 0 0, .slice none 0 0, .int .i64 0, .slice none 0 0, .slice none 0 0, .slice none 0 0] 51)).heap.size by simp) hb.size))); clear hb hbb ho hn)
        | (have g9 := NB4; clear g9; go_at_call 93; (with_reducible show Go.Calls _ _ #[(Value.agg #[.int .i64 ws.kd, .slice q1 i1 j1, .slice q2 i2 j2, .slice q3 i3 j3])] (w4) _); refine (cpI C6.out _ w4 (KW.out _ BB4.out)).mono ?_; rintro e w5 ⟨c0, c1, c2, c3, F5, rfl, ho, hn, hb⟩; obtain ⟨a51, b51, d51, a52, b52, d52, a53, b53, d53, rfl, rfl, rfl, rfl⟩ := (OwnSh.is _ _ _ ho).cells; have hbb : Below w4.heap.size w4 w5 := hb; have L5 : Hid (∀ g ∈ F5, w4.heap.size ≤ g ∧ g < w5.heap.size) := fun g hg => (by have q := OwnSh.blocks _ _ _ ho g hg; exact q); have N5 := Lib.hid hn; have V5 := Lib.hid (OwnSh.move (base' := W.heap.size) (Nat.le_trans BB4.out.size (Nat.le_refl _)) _ _ _ (fun g _ => rfl) ho); have BB5 := Lib.hid (BB4.out.trans (hbb.mono BB4.out.size)); have Z5 := Lib.hid hbb.size; have O5 := Lib.hid (O4.out.block hbb); have S5 := Lib.hid (OwnSh.move (Nat.le_refl _) _ _ _ (fun g hg => hbb.block g (OwnSh.blocks _ _ _ S4.out g hg).2) S4.out); have NB5 := Lib.hid (And.intro (blk_below NB4.out.1 hbb NB4.out.2.2) (And.intro NB4.out.2.1 (Nat.lt_of_lt_of_le NB4.out.2.2 hbb.size))); obtain ⟨_, _, _, _, _, _, _, _, _, _, _, _, _, _⟩ := blk13 NB5.out.1; obtain ⟨_, _, _, _, _, _, _, _, _, _, _, _, _⟩ := frz13 NB5.out.1; have hz5 := NB5.out.2.1; clear hb hbb ho hn)
        | (go_at_call 93; (with_reducible show Go.Calls _ _ #[(Value.agg #[.int .i64 ws.kd, .slice q1 i1 j1, .slice q2 i2 j2, .slice q3 i3 j3])] (w4) _); refine (cpI C6.out _ w4 (KW.out _ BB4.out)).mono ?_; rintro e w5 ⟨c0, c1, c2, c3, F5, rfl, ho, hn, hb⟩; obtain ⟨a51, b51, d51, a52, b52, d52, a53, b53, d53, rfl, rfl, rfl, rfl⟩ := (OwnSh.is _ _ _ ho).cells; have hbb : Below w4.heap.size w4 w5 := hb; have L5 : Hid (∀ g ∈ F5, w4.heap.size ≤ g ∧ g < w5.heap.size) := fun g hg => (by have q := OwnSh.blocks _ _ _ ho g hg; exact q); have N5 := Lib.hid hn; have V5 := Lib.hid (OwnSh.move (base' := W.heap.size) (Nat.le_trans BB4.out.size (Nat.le_refl _)) _ _ _ (fun g _ => rfl) ho); have BB5 := Lib.hid (BB4.out.trans (hbb.mono BB4.out.size)); have Z5 := Lib.hid hbb.size; have O5 := Lib.hid (O4.out.block hbb); have S5 := Lib.hid (OwnSh.move (Nat.le_refl _) _ _ _ (fun g hg => hbb.block g (OwnSh.blocks _ _ _ S4.out g hg).2) S4.out); clear hb hbb ho hn)
        | (go_at_call 93; (with_reducible show Go.Calls _ _ #[(Value.agg #[.int .i64 ws.kd, .slice q1 i1 j1, .slice q2 i2 j2, .slice q3 i3 j3])] ((w4.alloc (.cells #[.int .i64 0, .slice none 0 0, .int .i64 0, .string ⟨#[]⟩, .string ⟨#[]⟩, .int .i64 0, .slice none 0 0, .slice none 0 0, .slice none 0 0, .int .i64 0, .slice none 0 0, .slice none 0 0, .slice none 0 0] 51))) _); refine (cpI C6.out _ (w4.alloc (.cells #[.int .i64 0, .slice none 0 0, .int .i64 0, .string ⟨#[]⟩, .string ⟨#[]⟩, .int .i64 0, .slice none 0 0, .slice none 0 0, .slice none 0 0, .int .i64 0, .slice none 0 0, .slice none 0 0, .slice none 0 0] 51)) (KW.out _ (BB4.out.alloc BB4.out.size _))).mono ?_; rintro e w5 ⟨c0, c1, c2, c3, F5, rfl, ho, hn, hb⟩; obtain ⟨a51, b51, d51, a52, b52, d52, a53, b53, d53, rfl, rfl, rfl, rfl⟩ := (OwnSh.is _ _ _ ho).cells; have hbb : Below w4.heap.size w4 w5 := (below_alloc w4 _).trans (hb.mono (show w4.heap.size ≤ (w4.alloc (.cells #[.int .i64 0, .slice none 0 0, .int .i64 0, .string ⟨#[]⟩, .string ⟨#[]⟩, .int .i64 0, .slice none 0 0, .slice none 0 0, .slice none 0 0, .int .i64 0, .slice none 0 0, .slice none 0 0, .slice none 0 0] 51)).heap.size by simp)); have L5 : Hid (∀ g ∈ F5, w4.heap.size + 1 ≤ g ∧ g < w5.heap.size) := fun g hg => (by have q := OwnSh.blocks _ _ _ ho g hg; have z := (show ((w4.alloc (.cells #[.int .i64 0, .slice none 0 0, .int .i64 0, .string ⟨#[]⟩, .string ⟨#[]⟩, .int .i64 0, .slice none 0 0, .slice none 0 0, .slice none 0 0, .int .i64 0, .slice none 0 0, .slice none 0 0, .slice none 0 0] 51))).heap.size = w4.heap.size + 1 by simp); rw [z] at q; exact q); have N5 := Lib.hid hn; have V5 := Lib.hid (OwnSh.move (base' := W.heap.size) (Nat.le_trans BB4.out.size (show w4.heap.size ≤ ((w4.alloc (.cells #[.int .i64 0, .slice none 0 0, .int .i64 0, .string ⟨#[]⟩, .string ⟨#[]⟩, .int .i64 0, .slice none 0 0, .slice none 0 0, .slice none 0 0, .int .i64 0, .slice none 0 0, .slice none 0 0, .slice none 0 0] 51))).heap.size by simp)) _ _ _ (fun g _ => rfl) ho); have BB5 := Lib.hid (BB4.out.trans (hbb.mono BB4.out.size)); have Z5 := Lib.hid (show w4.heap.size + 1 ≤ w5.heap.size from (by have q := hb.size; simpa using q)); have O5 := Lib.hid (O4.out.block hbb); have S5 := Lib.hid (OwnSh.move (Nat.le_refl _) _ _ _ (fun g hg => hbb.block g (OwnSh.blocks _ _ _ S4.out g hg).2) S4.out); have NB5 := Lib.hid (And.intro (blk_below (Go.Deep.blk_alloc_new w4 (.cells #[.int .i64 0, .slice none 0 0, .int .i64 0, .string ⟨#[]⟩, .string ⟨#[]⟩, .int .i64 0, .slice none 0 0, .slice none 0 0, .slice none 0 0, .int .i64 0, .slice none 0 0, .slice none 0 0, .slice none 0 0] 51)) hb (show w4.heap.size < (w4.alloc (.cells #[.int .i64 0, .slice none 0 0, .int .i64 0, .string ⟨#[]⟩, .string ⟨#[]⟩, .int .i64 0, .slice none 0 0, .slice none 0 0, .slice none 0 0, .int .i64 0, .slice none 0 0, .slice none 0 0, .slice none 0 0] 51)).heap.size by simp)) (And.intro BB4.out.size (show w4.heap.size < w5.heap.size from Nat.lt_of_lt_of_le (show w4.heap.size < (w4.alloc (.cells #[.int .i64 0, .slice none 0 0, .int .i64 0, .string ⟨#[]⟩, .string ⟨#[]⟩, .int .i64 0, .slice none 0 0, .slice none 0 0, .slice none 0 0, .int .i64 0, .slice none 0 0, .slice none 0 0, .slice none 0 0] 51)).heap.size by simp) hb.size))); obtain ⟨_, _, _, _, _, _, _, _, _, _, _, _, _, _⟩ := blk13 NB5.out.1; obtain ⟨_, _, _, _, _, _, _, _, _, _, _, _, _⟩ := frz13 NB5.out.1; have hz5 := NB5.out.2.1; clear hb hbb ho hn)
        | fail)
    all_goals
      go_wp2_with fail
      go_meet
      first
        | (have g := NB5; refine ⟨_, rfl, g.out.2.1, ?_, putE_below BB5.out g.out.2.1 _ _ _ _ _ _ _ _ _ _ _ _ _⟩; refine ud_blk (w := w5) (putE_blk g.out.1 _ _ _ _ _ _ _ _ _ _ _ _ _) (fun q h1 h2 => (putE_only w5 _ _ _ _ _ _ _ _ _ _ _ _ _ _).block q h1 (by simpa using h2)) O5.out S5.out N4.out V5.out N5.out L1.out L4.out L5.out ?_ ?_ ?_ ?_ ?_ ?_)
        | (refine ⟨_, rfl, BB5.out.size, ?_, BB5.out.alloc BB5.out.size _⟩; refine ud_blk (w := w5) (Go.Deep.blk_alloc_new _ _) (fun q h1 _ => (below_alloc _ _).block q h1) O5.out S5.out N4.out V5.out N5.out L1.out L4.out L5.out ?_ ?_ ?_ ?_ ?_ ?_)
      all_goals
        have q1 := Z1.out
        have q2 := Z2.out
        have q3 := Z3.out
        have q4 := Z4.out
        have q5 := Z5.out
        omega
  case rest =>
    rename World => V
    obtain ⟨b, rfl, hub, ⟨e0, l0, e1, u1, l1, e2, u2, l2, e3, u3, l3, v1, z1, h1, v2, z2, h2, v3, z3, h3, F1, F2, hc, ho1, ho2, ho3, hnd⟩, hbV⟩ := hcut.out
    have C0 := Lib.hid hc
    have Q1 := Lib.hid ho1
    have Q2 := Lib.hid ho2
    have Q3 := Lib.hid ho3
    have QN := Lib.hid hnd
    have UB := Lib.hid hub
    have BV := Lib.hid (B0.out.trans (hbV.mono B0.out.size))
    have AV := Lib.hid (blk_below A0.out hbV (Array.getElem?_eq_some_iff.1 A0.out).1)
    have DV := Lib.hid (blk_below D0.out hbV (Array.getElem?_eq_some_iff.1 D0.out).1)
    clear hcut hc ho1 ho2 ho3 hnd hub hbV
    have a0 := cel AV.out 0 rfl
    have c0 := cel C0.out 0 rfl
    have f0 := frz_of C0.out 0
    have d0 := cel DV.out 0 rfl
    have g0 := frz_of DV.out 0
    have c1 := cel C0.out 1 rfl
    have f1 := frz_of C0.out 1
    have d1 := cel DV.out 1 rfl
    have g1 := frz_of DV.out 1
    have c2 := cel C0.out 2 rfl
    have f2 := frz_of C0.out 2
    have d2 := cel DV.out 2 rfl
    have g2 := frz_of DV.out 2
    have c3 := cel C0.out 3 rfl
    have f3 := frz_of C0.out 3
    have d3 := cel DV.out 3 rfl
    have g3 := frz_of DV.out 3
    have c4 := cel C0.out 4 rfl
    have f4 := frz_of C0.out 4
    have d4 := cel DV.out 4 rfl
    have g4 := frz_of DV.out 4
    have c5 := cel C0.out 5 rfl
    have f5 := frz_of C0.out 5
    have d5 := cel DV.out 5 rfl
    have g5 := frz_of DV.out 5
    have c6 := cel C0.out 6 rfl
    have f6 := frz_of C0.out 6
    have d6 := cel DV.out 6 rfl
    have g6 := frz_of DV.out 6
    have c7 := cel C0.out 7 rfl
    have f7 := frz_of C0.out 7
    have d7 := cel DV.out 7 rfl
    have g7 := frz_of DV.out 7
    have c8 := cel C0.out 8 rfl
    have f8 := frz_of C0.out 8
    have d8 := cel DV.out 8 rfl
    have g8 := frz_of DV.out 8
    have c9 := cel C0.out 9 rfl
    have f9 := frz_of C0.out 9
    have d9 := cel DV.out 9 rfl
    have g9 := frz_of DV.out 9
    have c10 := cel C0.out 10 rfl
    have f10 := frz_of C0.out 10
    have d10 := cel DV.out 10 rfl
    have g10 := frz_of DV.out 10
    have c11 := cel C0.out 11 rfl
    have f11 := frz_of C0.out 11
    have d11 := cel DV.out 11 rfl
    have g11 := frz_of DV.out 11
    have c12 := cel C0.out 12 rfl
    have f12 := frz_of C0.out 12
    have d12 := cel DV.out 12 rfl
    have g12 := frz_of DV.out 12
    have nbd : ¬ b = w.heap.size + 1 := by have := UB.out; have := WS.out; omega
    have ndb : ¬ w.heap.size + 1 = b := fun h => nbd h.symm
    by_cases e3 : k = 3
    · have HU : Hid (undoneR ⟨(k : Int), path, pl, nm, tn, sh, ws⟩ = ⟨edBackK k, path, pl, tn, nm, sh, ws⟩) := by show _ = _; subst e3; rfl
      have b3 : ((k : Int) == 3) = true := by subst e3; rfl
      clear e3
      go_wp2_with fail
      refine bodyPost_ret (v := .agg #[.int .i64 (edBackK k), .slice e0 path.length l0, .int .i64 pl, .string tn, .string nm, .int .i64 sh.kd, .slice e1 u1 l1, .slice e2 u2 l2, .slice e3 u3 l3, .int .i64 ws.kd, .slice v1 z1 h1, .slice v2 z2 h2, .slice v3 z3 h3]) ?_ rfl ?_
      · simp [results, Tryd.results51, go_sem, d0, d1, d2, d3, d4, d5, d6, d7, d8, d9, d10, d11, d12]
      · rw [HU.out]
        exact ed_fin (d := w.heap.size + 1) (edBackK_in k) K2.out y4 y3 B0.out.size (by have := WS.out; omega) (by omega) UB.out Q1.out Q2.out Q3.out QN.out ((((((((((((((((Only.refl [b, w.heap.size + 1] V).set (by simp) 3 _).set (by simp) 4 _).set (by simp) 0 _).set (by simp) 1 _).set (by simp) 2 _).set (by simp) 3 _).set (by simp) 4 _).set (by simp) 5 _).set (by simp) 6 _).set (by simp) 7 _).set (by simp) 8 _).set (by simp) 9 _).set (by simp) 10 _).set (by simp) 11 _).set (by simp) 12 _) BV.out
    have b3 : ((k : Int) == 3) = false := by rw [beq_eq_false_iff_ne]; omega
    by_cases e10 : k = 10
    · have HU : Hid (undoneR ⟨(k : Int), path, pl, nm, tn, sh, ws⟩ = ⟨edBackK k, path, pl, nm, tn, ws, sh⟩) := by show _ = _; subst e10; rfl
      have b10 : ((k : Int) == 10) = true := by subst e10; rfl
      clear e3 e10
      go_wp2_with fail
      refine bodyPost_ret (v := .agg #[.int .i64 (edBackK k), .slice e0 path.length l0, .int .i64 pl, .string nm, .string tn, .int .i64 ws.kd, .slice v1 z1 h1, .slice v2 z2 h2, .slice v3 z3 h3, .int .i64 sh.kd, .slice e1 u1 l1, .slice e2 u2 l2, .slice e3 u3 l3]) ?_ rfl ?_
      · simp [results, Tryd.results51, go_sem, d0, d1, d2, d3, d4, d5, d6, d7, d8, d9, d10, d11, d12]
      · rw [HU.out]
        exact ed_fin (d := w.heap.size + 1) (edBackK_in k) K2.out y3 y4 B0.out.size (by have := WS.out; omega) (by omega) UB.out Q1.out Q3.out Q2.out ((((List.perm_append_comm).append_left _).cons b).nodup_iff.1 QN.out) ((((((((((((((((((((((Only.refl [b, w.heap.size + 1] V).set (by simp) 5 _).set (by simp) 6 _).set (by simp) 7 _).set (by simp) 8 _).set (by simp) 9 _).set (by simp) 10 _).set (by simp) 11 _).set (by simp) 12 _).set (by simp) 0 _).set (by simp) 1 _).set (by simp) 2 _).set (by simp) 3 _).set (by simp) 4 _).set (by simp) 5 _).set (by simp) 6 _).set (by simp) 7 _).set (by simp) 8 _).set (by simp) 9 _).set (by simp) 10 _).set (by simp) 11 _).set (by simp) 12 _) BV.out
    · have b10 : ((k : Int) == 10) = false := by rw [beq_eq_false_iff_ne]; omega
      have HU : Hid (undoneR ⟨(k : Int), path, pl, nm, tn, sh, ws⟩ = ⟨edBackK k, path, pl, nm, tn, sh, ws⟩) := by show _ = _; have n3 : ¬ (k : Int) = 3 := (by omega); have n10 : ¬ (k : Int) = 10 := (by omega); simp [undoneR, n3, n10]
      clear e3 e10
      go_wp2_with fail
      refine bodyPost_ret (v := .agg #[.int .i64 (edBackK k), .slice e0 path.length l0, .int .i64 pl, .string nm, .string tn, .int .i64 sh.kd, .slice e1 u1 l1, .slice e2 u2 l2, .slice e3 u3 l3, .int .i64 ws.kd, .slice v1 z1 h1, .slice v2 z2 h2, .slice v3 z3 h3]) ?_ rfl ?_
      · simp [results, Tryd.results51, go_sem, d0, d1, d2, d3, d4, d5, d6, d7, d8, d9, d10, d11, d12]
      · rw [HU.out]
        exact ed_fin (d := w.heap.size + 1) (edBackK_in k) K2.out y3 y4 B0.out.size (by have := WS.out; omega) (by omega) UB.out Q1.out Q2.out Q3.out QN.out ((((((((((((((Only.refl [b, w.heap.size + 1] V).set (by simp) 0 _).set (by simp) 1 _).set (by simp) 2 _).set (by simp) 3 _).set (by simp) 4 _).set (by simp) 5 _).set (by simp) 6 _).set (by simp) 7 _).set (by simp) 8 _).set (by simp) 9 _).set (by simp) 10 _).set (by simp) 11 _).set (by simp) 12 _) BV.out
end Go.Proofs.YtmdlciomhkielaaDoor
