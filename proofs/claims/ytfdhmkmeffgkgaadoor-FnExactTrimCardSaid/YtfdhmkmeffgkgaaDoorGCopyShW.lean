/- Walks: impl.shapeCopied. -/
import Derived.Test.YtfdhmkmeffgkgaaDoorGCopyShP
import Derived.Test.YtfdhmkmeffgkgaaDoorGCpA
import Derived.Test.YtfdhmkmeffgkgaaDoorGPutSP
import Derived.Deep.RegionWith
import Derived.Deep.RegionHeld3
namespace Go.Proofs.YtfdhmkmeffgkgaaDoor
open Go.RowKit

/-- impl.shapeCopied's contract at the right shapes of so many levels. -/
def CoAt (d : Nat) : Prop := ∀ (t : Sh) (v : Value) (w : World), partOk d t = true → IsSh w t v → Calls Tryd.prog 66 #[v] w (ToPost t w)

/-- The copy's block with its words, ahead of its parts. -/
def CoCut (k : Int) (sy na : List ByteArray) (u : World) (x : Value) (wc : World) : Prop :=
  ∃ b p1 n1 m1 p2 n2 m2, x = .pointer (some ⟨b, 0, none⟩) ∧ u.heap.size ≤ b ∧ wc.heap[b]? = some (.cells #[.int .i64 k, .slice p1 n1 m1, .slice p2 n2 m2, .slice none 0 0] 31 (0, 0)) ∧
    OwnStrs wc u.heap.size (.slice p1 n1 m1) sy ∧ OwnStrs wc u.heap.size (.slice p2 n2 m2) na ∧ (b :: (blkOf (.slice p1 n1 m1) ++ blkOf (.slice p2 n2 m2))).Nodup ∧ Below u.heap.size u wc
theorem blk_nodup (p : Option Addr) (n m : Nat) : (blkOf (.slice p n m)).Nodup := by cases p <;> simp [blkOf]
theorem OwnStrs.low {w : World} {B C : Nat} {v : Value} {l : List ByteArray} (h : OwnStrs w B v l) (hB : C ≤ B) : OwnStrs w C v l := ⟨h.1, own_mono h.2 hB⟩
theorem co_nodup {b : Nat} {p1 p2 : Option Addr} {n1 m1 n2 m2 : Nat} (h1 : ∀ g ∈ blkOf (.slice p1 n1 m1), g ≠ b) (h2 : ∀ g ∈ blkOf (.slice p2 n2 m2), g ≠ b) (h3 : ∀ g ∈ blkOf (.slice p1 n1 m1), ∀ q ∈ blkOf (.slice p2 n2 m2), g ≠ q) :
    (b :: (blkOf (.slice p1 n1 m1) ++ blkOf (.slice p2 n2 m2))).Nodup := by
  refine List.nodup_cons.2 ⟨fun h => ?_, List.nodup_append.2 ⟨blk_nodup _ _ _, blk_nodup _ _ _, h3⟩⟩
  rcases List.mem_append.1 h with h | h
  · exact h1 b h rfl
  · exact h2 b h rfl
theorem co_cut1 {k : Int} {sy na : List ByteArray} {u w1 w2 : World} {B1 : Nat} {p1 p2 : Option Addr} {n1 m1 n2 m2 : Nat} (h1 : OwnStrs w1 B1 (.slice p1 n1 m1) sy) (hB1 : u.heap.size ≤ B1) (hb : Below w1.heap.size w1 w2)
    (h2 : OwnStrs w2 w1.heap.size (.slice p2 n2 m2) na) (hu1 : Below u.heap.size u w1) (hu : Below u.heap.size u w2) :
    CoCut k sy na u (.pointer (some ⟨w2.heap.size, 0, none⟩)) (w2.alloc (.cells #[.int .i64 k, .slice p1 n1 m1, .slice p2 n2 m2, .slice none 0 0] 31)) := by
  have l1 := blkOf_own h1.2
  have l2 := blkOf_own h2.2
  have hz := hb.size
  have hz1 := hu1.size
  exact ⟨_, _, _, _, _, _, _, rfl, hu.size, Go.Deep.blk_alloc_new _ _, ((h1.low hB1).block hb).block (below_alloc _ _), (h2.low hz1).block (below_alloc _ _),
    co_nodup (fun g hg => by have := l1 g hg; omega) (fun g hg => by have := l2 g hg; omega) (fun g hg q hq => by have := l1 g hg; have := l2 q hq; omega), hu.alloc hu.size _⟩
theorem co_cut2 {k : Int} {sy na : List ByteArray} {u w1 w2 : World} {B1 B2 b : Nat} {p1 p2 : Option Addr} {n1 m1 n2 m2 : Nat} {d0 d1 d2 d3 : Value} (h1 : OwnStrs w1 B1 (.slice p1 n1 m1) sy) (hB1 : u.heap.size ≤ B1) (h12 : OwnStrs w2 B1 (.slice p1 n1 m1) sy)
    (h2 : OwnStrs w2 B2 (.slice p2 n2 m2) na) (hB2 : w1.heap.size ≤ B2) (hu1 : Below u.heap.size u w1) (hu : Below u.heap.size u w2) (hz : w2.heap[b]? = some (.cells #[d0, d1, d2, d3] 31 (0, 0))) (hub : u.heap.size ≤ b) (hb1 : b < B1 ∨ w1.heap.size ≤ b) (hb2 : b < B2) :
    CoCut k sy na u (.pointer (some ⟨b, 0, none⟩)) (putS w2 b (.int .i64 k) (.slice p1 n1 m1) (.slice p2 n2 m2) (.slice none 0 0)) := by
  have l1 := blkOf_own h1.2
  have l2 := blkOf_own h2.2
  have hz1 := hu1.size
  have e : ∀ g, g ≠ b → (putS w2 b (.int .i64 k) (.slice p1 n1 m1) (.slice p2 n2 m2) (.slice none 0 0)).heap[g]? = w2.heap[g]? := fun g hg => putS_other _ _ _ _ _ _ hg
  refine ⟨_, _, _, _, _, _, _, rfl, hub, putS_blk hz _ _ _ _, ⟨h1.1, own_mono (own_block h12.2 fun g hg => e g (by have := l1 g hg; omega)) hB1⟩, ⟨h2.1, own_mono (own_block h2.2 fun g hg => e g (by have := l2 g hg; omega)) (by omega)⟩,
    co_nodup (fun g hg => by have := l1 g hg; omega) (fun g hg => by have := l2 g hg; omega) (fun g hg q hq => by have := l1 g hg; have := l2 q hq; omega), putS_below hu hub _ _ _ _⟩

/-- .. with parts: at the end the copy is put into the result's block. -/
theorem co_post {w W wr : World} {su : List Sh} {p p1 p2 : Option Addr} {cap gv n1 m1 n2 m2 : Nat} {cs : List Value} {F : List Nat} {k : Int} {sy na : List ByteArray} (hk : InI64' k) (hI : CpInv W wr gv k (.slice p1 n1 m1) (.slice p2 n2 m2) su su.length p cap cs F)
    (hb : Below w.heap.size w wr) {B : Nat} (hs1 : OwnStrs W B (.slice p1 n1 m1) sy) (hs2 : OwnStrs W B (.slice p2 n2 m2) na) (hn : (gv :: (blkOf (.slice p1 n1 m1) ++ blkOf (.slice p2 n2 m2))).Nodup) (hB : w.heap.size + 1 < B) {c0 c1 c2 c3 : Value} (hW : B ≤ W.heap.size) :
    ToPost (.mk k sy na su) w (.returned (.agg #[.int .i64 k, .slice p1 n1 m1, .slice p2 n2 m2, .slice p su.length cap])) (putS wr (w.heap.size + 1) c0 c1 c2 c3) := by
  obtain ⟨h1, h2, h3, h4, h5, h6⟩ := hI
  rw [List.take_length] at h3
  have lr := blkOf_own h2
  have lF := h3.lt
  have l1 := blkOf_own hs1.2
  have l2 := blkOf_own hs2.2
  have hn1 := List.nodup_cons.1 hn
  have hn2 := List.nodup_append.1 hn1.2
  have e : ∀ q, q ≠ w.heap.size + 1 → (putS wr (w.heap.size + 1) c0 c1 c2 c3).heap[q]? = wr.heap[q]? := fun q hq => putS_other _ _ _ _ _ _ hq
  have e1 : ∀ q, q < W.heap.size → q ≠ gv → wr.heap[q]? = W.heap[q]? := fun q hq hne => h5.block q hq (by simpa using hne)
  refine ⟨_, _, _, _, blkOf (.slice p1 n1 m1) ++ (blkOf (.slice p2 n2 m2) ++ (blkOf (.slice p su.length cap) ++ F)), rfl, ?_, ?_, putS_below hb (by omega) _ _ _ _⟩
  · simp only [OwnSh]
    refine ⟨_, _, _, cs, F, rfl, hk, ⟨hs1.1, own_mono (own_block hs1.2 fun q hq => ?_) (by omega)⟩, ⟨hs2.1, own_mono (own_block hs2.2 fun q hq => ?_) (by omega)⟩, own_mono (own_block h2 fun q hq => e q (by have := lr q hq; omega)) (by omega), h3.move (by omega) fun q hq => e q (by have := lF q hq; omega), rfl⟩
    · have := l1 q hq
      rw [e q (by omega), e1 q (by omega) (fun he => hn1.1 (by rw [← he]; exact List.mem_append.2 (.inl hq)))]
    · have := l2 q hq
      rw [e q (by omega), e1 q (by omega) (fun he => hn1.1 (by rw [← he]; exact List.mem_append.2 (.inr hq)))]
  · refine List.nodup_append.2 ⟨hn2.1, List.nodup_append.2 ⟨hn2.2.1, h4, fun a ha b hb => ?_⟩, fun a ha b hb => ?_⟩
    · have := l2 a ha
      rcases List.mem_append.1 hb with hb | hb
      · have := lr b hb; omega
      · have := lF b hb; omega
    · rcases List.mem_append.1 hb with hb | hb
      · exact hn2.2.2 a ha b hb
      · have := l1 a ha
        rcases List.mem_append.1 hb with hb | hb
        · have := lr b hb; omega
        · have := lF b hb; omega

theorem CpInv.alloc {W wr : World} {gv j cap : Nat} {k : Int} {vs vn : Value} {l : List Sh} {p : Option Addr} {cs : List Value} {F : List Nat} (h : CpInv W wr gv k vs vn l j p cap cs F) (o : Obj) : CpInv W (wr.alloc o) gv k vs vn l j p cap cs F := by
  obtain ⟨h1, h2, h3, h4, h5, h6⟩ := h
  have hb := below_alloc wr o
  exact ⟨blk_below h1 hb (Array.getElem?_eq_some_iff.1 h1).1, own_block h2 fun q hq => hb.block q (blkOf_own h2 q hq).2, h3.move (Nat.le_refl _) fun q hq => hb.block q (h3.lt q hq).2, h4, h5.trans (Only.of_below hb), h6⟩

/-- What the words of a right shape are like. -/
theorem sound_words {k : Int} {sy na : List ByteArray} {n : Nat} (h : soundOf k sy na n = true) : (sy.length ≤ 6 ∧ ∀ s ∈ sy, s.size ≤ 8) ∧ (na.length ≤ 6 ∧ ∀ s ∈ na, s.size ≤ 8) ∧ n ≤ 6 := by
  rcases sound_cases h with ⟨_, rfl, rfl, hn⟩ | ⟨_, _, h6, hw, rfl, hn⟩ | ⟨_, rfl, rfl, hn⟩ | ⟨_, rfl, h6, hw, hn⟩
  · exact ⟨⟨by simp, by simp⟩, ⟨by simp, by simp⟩, by omega⟩
  · exact ⟨⟨h6, words_size hw⟩, ⟨by simp, by simp⟩, by omega⟩
  · exact ⟨⟨by simp, by simp⟩, ⟨by simp, by simp⟩, by omega⟩
  · exact ⟨⟨by simp, by simp⟩, ⟨h6, words_size hw⟩, by omega⟩

set_option maxRecDepth 100000 in
set_option maxHeartbeats 4000000 in
theorem co_gen (d : Nat) (ih : CoAt d) (k : Int) (sy na : List ByteArray) (su : List Sh) (v : Value) (w : World) (q : (sy.length ≤ 6 ∧ ∀ s ∈ sy, s.size ≤ 8) ∧ (na.length ≤ 6 ∧ ∀ s ∈ na, s.size ≤ 8) ∧ su.length ≤ 6) (hp : su.all (partOk d) = true) (h : IsSh w (.mk k sy na su) v) :
    Calls Tryd.prog 66 #[v] w (ToPost (.mk k sy na su) w) := by
  obtain ⟨p1, m1, p2, m2, p3, m3, rfl, hk, h1, h2, h3⟩ := h.open
  obtain ⟨⟨q1, q2⟩, ⟨q3, q4⟩, h6⟩ := q
  obtain ⟨a3, cap3, e3, _, hc3, g3⟩ := h3
  simp only [Value.slice.injEq] at e3
  obtain ⟨rfl, _, rfl⟩ := e3
  obtain ⟨W0, hW⟩ : ∃ W0, W0 = (w.alloc (.cells #[.int .i64 k, .slice p1 sy.length m1, .slice p2 na.length m2, .slice p3 su.length m3] 31)).alloc (.cells #[.int .i64 0, .slice none 0 0, .slice none 0 0, .slice none 0 0] 31) := ⟨_, rfl⟩
  obtain ⟨x0, x1⟩ := two_new w (.cells #[.int .i64 k, .slice p1 sy.length m1, .slice p2 na.length m2, .slice p3 su.length m3] 31) (.cells #[.int .i64 0, .slice none 0 0, .slice none 0 0, .slice none 0 0] 31)
  have hb : Below w.heap.size w W0 := by rw [hW]; exact (below_alloc w _).alloc (by simp) _
  have hWs : W0.heap.size = w.heap.size + 1 + 1 := by rw [hW]; simp
  rw [← hW] at x0 x1
  have X0 := Lib.hid x0
  have X1 := Lib.hid x1
  have H1 := Lib.hid (h1.keep (Keeps.of_below hb))
  have H2 := Lib.hid (h2.keep (Keeps.of_below hb))
  have H3 := Lib.hid g3
  have HK := Lib.hid hk
  have HP := Lib.hid hp
  have IH := Lib.hid ih
  have HB := Lib.hid hb
  have HW := Lib.hid hW
  have HWS := Lib.hid hWs
  have HL1 : Hid (sy.length ≤ 8001) := by show _ ≤ _; omega
  have HL2 : Hid (na.length ≤ 8001) := by show _ ≤ _; omega
  have HS1 : Hid (∀ s ∈ sy, s.size ≤ 1099511627776) := fun s hs => by have := q2 s hs; omega
  have HS2 : Hid (∀ s ∈ na, s.size ≤ 1099511627776) := fun s hs => by have := q4 s hs; omega
  clear g3 hp ih hb x0 x1 hW hWs h1 h2 h hk q1 q2 q3 q4
  obtain ⟨a0, a1, a2, a3', _, _, _, _, az⟩ := blk4 X0.out
  have HSK : Hid (∀ w', Below W0.heap.size W0 w' → (w'.cell? ⟨w.heap.size, 0, none⟩ = some (.int .i64 k) ∧ w'.cell? ⟨w.heap.size, 1, none⟩ = some (.slice p1 sy.length m1) ∧ w'.cell? ⟨w.heap.size, 2, none⟩ = some (.slice p2 na.length m2))) := fun w' hb' => by
    have kk : ∀ b o c, b < W0.heap.size → W0.cell? ⟨b, o, none⟩ = some c → w'.cell? ⟨b, o, none⟩ = some c := fun b o c hlt hc => by rw [hb'.cell (p := ⟨b, o, none⟩) hlt]; exact hc
    exact ⟨kk _ _ _ az a0, kk _ _ _ az a1, kk _ _ _ az a2⟩
  clear a0 a1 a2 a3' az
  go_enter Tryd.func66, Tryd.ntmps66
  go_upto_region 1 with fail
  rw [← HW.out]
  go_cut [3] (fun x wc => Hid (CoCut k sy na W0 x wc))
  case first =>
    go_region_held3 (fun w' => w'.cell? ⟨w.heap.size, 0, none⟩ = some (.int .i64 k) ∧ w'.cell? ⟨w.heap.size, 1, none⟩ = some (.slice p1 sy.length m1) ∧ w'.cell? ⟨w.heap.size, 2, none⟩ = some (.slice p2 na.length m2))
      (first
        | exact HSK.out _ (Below.refl _ W0).drew
        | exact HSK.out _ ((Below.refl _ W0).alloc (Nat.le_refl _) _).drew
        | exact HSK.out _ BB1.out
        | exact HSK.out _ BB2.out
        | exact HSK.out _ (BB1.out.alloc BB1.out.size _)
        | exact HSK.out _ (BB2.out.alloc BB2.out.size _)
        | exact HSK.out _ (putS_below BB2.out (Nat.le_refl W0.heap.size) _ _ _ _)
        | exact HSK.out _ (putS_below BB2.out BB1.out.size _ _ _ _))
      (first
        | (go_at_call_of 64 (Value.slice p1 sy.length m1); refine (copyWords_any _ sy W0.drew (H1.out.keep keeps_drew) HL1.out HS1.out).mono ?_; rintro e v1 ⟨r1, i1, j1, rfl, ho, hb⟩; have O1 := Lib.hid (show OwnStrs v1 W0.heap.size (.slice r1 i1 j1) sy from ho); have BB1 := Lib.hid (show Below W0.heap.size W0 v1 from (Below.refl _ W0).drew.trans hb); clear ho hb)
        | (go_at_call_of 64 (Value.slice p1 sy.length m1); refine (copyWords_any _ sy (W0.alloc (.cells #[.int .i64 0, .slice none 0 0, .slice none 0 0, .slice none 0 0] 31)).drew (H1.out.keep (Keeps.of_below (below_alloc W0 _).drew)) HL1.out HS1.out).mono ?_; rintro e v1 ⟨r1, i1, j1, rfl, ho, hb⟩; have O1 := Lib.hid (show OwnStrs v1 (W0.alloc (.cells #[.int .i64 0, .slice none 0 0, .slice none 0 0, .slice none 0 0] 31)).heap.size (.slice r1 i1 j1) sy from ho); have BB1 := Lib.hid (show Below W0.heap.size W0 v1 from (below_alloc W0 _).drew.trans (hb.mono (show W0.heap.size ≤ (W0.alloc (.cells #[.int .i64 0, .slice none 0 0, .slice none 0 0, .slice none 0 0] 31)).heap.size by simp))); have NB1 := Lib.hid (And.intro (blk_below (w := (W0.alloc (.cells #[.int .i64 0, .slice none 0 0, .slice none 0 0, .slice none 0 0] 31)).drew) (Go.Deep.blk_alloc_new W0 (.cells #[.int .i64 0, .slice none 0 0, .slice none 0 0, .slice none 0 0] 31)) hb (show W0.heap.size < (W0.alloc (.cells #[.int .i64 0, .slice none 0 0, .slice none 0 0, .slice none 0 0] 31)).heap.size by simp)) (And.intro (show W0.heap.size < (W0.alloc (.cells #[.int .i64 0, .slice none 0 0, .slice none 0 0, .slice none 0 0] 31)).heap.size by simp) (show W0.heap.size < v1.heap.size from Nat.lt_of_lt_of_le (show W0.heap.size < (W0.alloc (.cells #[.int .i64 0, .slice none 0 0, .slice none 0 0, .slice none 0 0] 31)).heap.size by simp) hb.size))); clear ho hb)
        | (have g9 := NB1; clear g9; go_at_call_of 64 (Value.slice p2 na.length m2); refine (copyWords_any _ na v1 (H2.out.keep (Keeps.of_below BB1.out)) HL2.out HS2.out).mono ?_; rintro e v2 ⟨r2, i2, j2, rfl, ho, hb⟩; have O2 := Lib.hid ho; have O12 := Lib.hid (O1.out.block hb); have BB2 := Lib.hid (BB1.out.trans (hb.mono BB1.out.size)); have NB2 := Lib.hid (And.intro (blk_below NB1.out.1 hb NB1.out.2.2) (And.intro NB1.out.2.1 NB1.out.2.2)); have LB := Lib.hid hb; obtain ⟨_, _, _, _, _, _, _, _, _⟩ := blk4 NB2.out.1; clear ho hb)
        | (go_at_call_of 64 (Value.slice p2 na.length m2); refine (copyWords_any _ na v1 (H2.out.keep (Keeps.of_below BB1.out)) HL2.out HS2.out).mono ?_; rintro e v2 ⟨r2, i2, j2, rfl, ho, hb⟩; have O2 := Lib.hid ho; have BB2 := Lib.hid (BB1.out.trans (hb.mono BB1.out.size)); have LB := Lib.hid hb; clear ho hb)
        | (go_at_call_of 64 (Value.slice p2 na.length m2); refine (copyWords_any _ na (v1.alloc (.cells #[.int .i64 0, .slice none 0 0, .slice none 0 0, .slice none 0 0] 31)) (H2.out.keep (Keeps.of_below (BB1.out.alloc BB1.out.size _))) HL2.out HS2.out).mono ?_; rintro e v2 ⟨r2, i2, j2, rfl, ho, hb⟩; have O2 := Lib.hid (show OwnStrs v2 (v1.alloc (.cells #[.int .i64 0, .slice none 0 0, .slice none 0 0, .slice none 0 0] 31)).heap.size (.slice r2 i2 j2) na from ho); have O12 := Lib.hid ((O1.out.block (below_alloc v1 _)).block hb); have BB2 := Lib.hid (BB1.out.trans (((below_alloc v1 _).trans (hb.mono (show v1.heap.size ≤ (v1.alloc (.cells #[.int .i64 0, .slice none 0 0, .slice none 0 0, .slice none 0 0] 31)).heap.size by simp))).mono BB1.out.size)); have NB3 := Lib.hid (blk_below (Go.Deep.blk_alloc_new v1 (.cells #[.int .i64 0, .slice none 0 0, .slice none 0 0, .slice none 0 0] 31)) hb (show v1.heap.size < (v1.alloc (.cells #[.int .i64 0, .slice none 0 0, .slice none 0 0, .slice none 0 0] 31)).heap.size by simp)); obtain ⟨_, _, _, _, _, _, _, _, _⟩ := blk4 NB3.out; clear ho hb)
        | fail)
    all_goals
      go_wp2_with fail
      go_meet
      first
        | (have g2 := NB2; exact co_cut2 O1.out (by simp) O12.out O2.out (Nat.le_refl _) BB1.out BB2.out g2.out.1 (Nat.le_refl _) (.inl g2.out.2.1) g2.out.2.2)
        | (have g3 := NB3; exact co_cut2 O1.out (Nat.le_refl _) O12.out O2.out (by simp) BB1.out BB2.out g3.out BB1.out.size (.inr (Nat.le_refl _)) (by simp))
        | exact co_cut1 O1.out (Nat.le_refl _) LB.out O2.out BB1.out BB2.out
  case rest =>
    rename World => W
    obtain ⟨gv, r1, i1, j1, r2, i2, j2, rfl, hgv, hgb, hs1, hs2, hnd, hbW⟩ := hcut.out
    have hgz : gv < W.heap.size := (Array.getElem?_eq_some_iff.1 hgb).1
    have Y0 := Lib.hid (blk_below X0.out hbW (Array.getElem?_eq_some_iff.1 X0.out).1)
    have Y1 := Lib.hid (blk_below X1.out hbW (Array.getElem?_eq_some_iff.1 X1.out).1)
    have HBW := Lib.hid (HB.out.trans (hbW.mono HB.out.size))
    have HWW := Lib.hid hbW.size
    have HGV := Lib.hid hgv
    have HS1' := Lib.hid hs1
    have HS2' := Lib.hid hs2
    have HND := Lib.hid hnd
    have HI0 : Hid (CpInv W W gv k (.slice r1 i1 j1) (.slice r2 i2 j2) su 0 none 0 [] []) := ⟨hgb, World.ownsRow_nil _ _ _ _, by simp [OwnAll], by simp [blkOf], Only.refl _ _, hgz⟩
    clear hgv hgb hs1 hs2 hnd hbW hcut hgz
    obtain ⟨a0, a1, a2, a3', _, _, _, _, az⟩ := blk4 Y0.out
    go_wp2_with fail
    go_loopw [18] (fun i wr => ∃ (j : Nat) (p : Option Addr) (cap : Nat) (cs : List Value) (F : List Nat), j ≤ su.length ∧ i = .int .i64 j ∧ Hid (CpInv W wr gv k (.slice r1 i1 j1) (.slice r2 i2 j2) su j p cap cs F)) (fun i _ => su.length - (intOf i).toNat)
    case atStart => exact ⟨0, none, 0, [], [], Nat.zero_le _, rfl, HI0.out⟩
    case round =>
      clear a0 a1 a2 a3' az
      obtain ⟨j, p, cap, cs, F, hj, rfl, HI⟩ := hrel
      obtain ⟨i1', _, _, _, i5, _⟩ := HI.out
      have HR := Lib.hid (show wr.heap[w.heap.size + 1]? = _ from (i5.block _ (by have := HWW.out; have := HWS.out; omega) (by intro h; have := List.mem_singleton.1 h; have := HGV.out; have := HWS.out; omega)).trans Y1.out)
      have HV := Lib.hid i1'
      have HBr : Hid (Below w.heap.size w wr) := HBW.out.trans (i5.below (by have := HWW.out; have := HWS.out; omega) (by have := HGV.out; have := HWS.out; simp; omega))
      clear i1' i5
      obtain ⟨b0, b1, b2, b3, f0, f1, f2, f3, bz⟩ := blk4 HV.out
      by_cases hlt : j < su.length
      · obtain ⟨b, off, rfl, c0, c1, c2, c3, s0, s1, s2, s3, s4⟩ := IsShs.at H3.out hlt
        have hKp := Keeps.of_below HBr.out
        have k0 := hKp _ _ _ s0
        have k1 := hKp _ _ _ s1
        have k2 := hKp _ _ _ s2
        have k3 := hKp _ _ _ s3
        obtain ⟨q1, i1', y1, q2, i2', y2, q3, i3, y3, rfl, rfl, rfl, rfl⟩ := s4.cells
        obtain ⟨W1, hW1⟩ : ∃ W1, W1 = wr.alloc (.cells #[.int .i64 su[j].kd, .slice q1 i1' y1, .slice q2 i2' y2, .slice q3 i3 y3] 31) := ⟨_, rfl⟩
        have hba : Below wr.heap.size wr W1 := by rw [hW1]; exact below_alloc _ _
        have hnw : W1.heap[wr.heap.size]? = some (.cells #[.int .i64 su[j].kd, .slice q1 i1' y1, .slice q2 i2' y2, .slice q3 i3 y3] 31 (0, 0)) := by rw [hW1]; exact Go.Deep.blk_alloc_new _ _
        have HI1 : Hid (CpInv W W1 gv k (.slice r1 i1 j1) (.slice r2 i2 j2) su j p cap cs F) := by rw [hW1]; exact HI.out.alloc _
        have K4 := Lib.hid (IsSh.keep (Keeps.of_below hba) _ _ (IsSh.keep hKp _ _ s4))
        have HPj := Lib.hid (List.all_eq_true.1 HP.out su[j] (List.getElem_mem hlt))
        have HV1 := Lib.hid HI1.out.1
        have HNW := Lib.hid hnw
        have HW1 := Lib.hid hW1
        clear s0 s1 s2 s3 s4 hKp hba hnw hW1
        go_wp2_with fail
        rw [← HW1.out]
        clear k0 k1 k2 k3 b0 b1 b2 b3 f0 f1 f2 f3 bz
        obtain ⟨b0, b1, b2, b3, f0, f1, f2, f3, bz⟩ := blk4 HV1.out
        obtain ⟨n0, n1', n2', n3, _, _, _, _, nz⟩ := blk4 HNW.out
        go_region_law (first
          | (go_simp; go_at_call 66; refine (IH.out su[j] _ _ HPj.out (IsSh.keep keeps_drew _ _ K4.out)).mono ?_; rintro e w1 ⟨c0, c1, c2, c3, F1, rfl, ho1, hn1, hb1⟩; obtain ⟨x1, y1', z1, x2, y2', z2, x3, y3', z3, rfl, rfl, rfl, rfl⟩ := (OwnSh.is _ _ _ ho1).cells; have HO1 := Lib.hid ho1; have HN1 := Lib.hid hn1; have HB1 := Lib.hid (show Below W1.heap.size W1 w1 from (Below.refl _ W1).drew.trans hb1); obtain ⟨_, _, _, _, _, _, _, _, _⟩ := blk4 (blk_below (w := W1) HV1.out HB1.out bz); clear ho1 hn1 hb1)
          | (refine step_shp w1 rfl _ _ rfl W.heap.size p j cap cs _ _ _ _ _ _ _ _ _ _ rfl (own_block HI1.out.2.1 fun q hq => HB1.out.block q (blkOf_own HI1.out.2.1 q hq).2) rfl (by omega) (Nat.le_trans HI1.out.2.2.2.2.1.size HB1.out.size) ?_; intro p' cap' w2 ho2 hy2 hp2; have HO2 := Lib.hid ho2; have HY2 := Lib.hid hy2; have HP2 := Lib.hid hp2; have hv2 := blk_below (w := W1) HV1.out HB1.out bz; rw [← hy2.block _ (Array.getElem?_eq_some_iff.1 hv2).1 (fun hx => by have := blkOf_own HI1.out.2.1 _ hx; have := HI1.out.2.2.2.2.2; omega)] at hv2; obtain ⟨_, _, _, _, _, _, _, _, _⟩ := blk4 hv2; clear ho2 hy2 hp2 hv2))
        all_goals
          have HI2 := Lib.hid (cp_step HI1.out hlt HO1.out HN1.out HB1.out HO2.out HY2.out HP2.out)
          clear b0 b1 b2 b3 f0 f1 f2 f3 bz n0 n1' n2' n3 nz
          go_wp2_with fail
          go_roundw
          case rel => exact ⟨j + 1, p', cap', _, _, hlt, by go_num, HI2.out⟩
          case measure => simp [intOf]; omega
      · obtain rfl : j = su.length := by omega
        obtain ⟨r0, r1', r2', r3, e0, e1, e2, e3, rz⟩ := blk4 HR.out
        go_wp2_with fail
        refine bodyPost_ret (v := .agg #[.int .i64 k, .slice r1 i1 j1, .slice r2 i2 j2, .slice p su.length cap]) (by simp [results, Tryd.results66, go_sem, *]) rfl ?_
        exact co_post HK.out HI.out HBr.out HS1'.out HS2'.out HND.out (by have := HWS.out; omega) HWW.out

theorem co_step (d : Nat) (ih : CoAt d) : CoAt (d + 1) := by
  intro t v w hp h
  cases t with | mk k sy na su =>
  simp only [partOk, Bool.and_eq_true] at hp
  exact co_gen d ih k sy na su v w (sound_words hp.1) hp.2 h

/-- impl.shapeCopied. -/
theorem co_any : ∀ d : Nat, CoAt d
  | 0 => fun t v w hp _ => by cases t; simp [partOk] at hp
  | d + 1 => co_step d (co_any d)
/-- .. of what has nothing. -/
theorem co_zero (k : Int) (v : Value) (w : World) (h : IsSh w (.mk k [] [] []) v) : Calls Tryd.prog 66 #[v] w (ToPost (.mk k [] [] []) w) :=
  co_gen 0 (co_any 0) k [] [] [] v w ⟨⟨by simp, by simp⟩, ⟨by simp, by simp⟩, by simp⟩ rfl h
end Go.Proofs.YtfdhmkmeffgkgaaDoor
