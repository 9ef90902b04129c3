/- Walks: spec.l04Ill, l01Min, l04Items. · Walks: spec.l04Items. -/
import Derived.Test.YtbpidhlpakobiaaGreatDoorHUnD
import Derived.Test.YtbpidhlpakobiaaGreatDoorHSpFitW
import Derived.Test.YtbpidhlpakobiaaGreatDoorHGetC
import Derived.Test.YtbpidhlpakobiaaGreatDoorHUnPl
import Derived.Test.YtbpidhlpakobiaaGreatDoorHUnB1
import Derived.Deep.DeepCutAuto
import Derived.Deep.LoopGhost
namespace Go.Proofs.YtbpidhlpakobiaaGreatDoor
open Go.RowKit

theorem ill_any (c : Int) (w : World) : Calls Tryz.prog 67 #[.int .i64 c] w fun e w' => e = .returned (.agg #[.int .i64 0, .int .i64 0, .string ⟨#[]⟩, .slice none 0 0, .int .i64 0, .int .i64 c]) ∧ Below w.heap.size w w' := by
  go_enter Tryz.func67, Tryz.ntmps67
  go_wp2_with fail
  refine bodyPost_ret (v := .agg #[.int .i64 0, .int .i64 0, .string ⟨#[]⟩, .slice none 0 0, .int .i64 0, .int .i64 c]) (by simp [results, Tryz.results67, go_sem]) rfl ?_
  exact ⟨rfl, below_alloc _ _⟩
theorem min_any (a b : Nat) (w : World) : Calls Tryz.prog 142 #[.int .i64 a, .int .i64 b] w fun e w' => e = .returned (.int .i64 ((min a b : Nat) : Int)) ∧ w = w' := by
  by_cases h : (a : Int) < b
  all_goals
    go_enter Tryz.func142, Tryz.ntmps142
    go_wp2_with fail
    go_ret
    exact ⟨ret_int (by omega), rfl⟩

/-- spec.l04Unpack's contract at the right shapes of so many levels. -/
def SuAt (d : Nat) : Prop := ∀ (s : Sh) (bs : ByteArray) (p : Int) (v : Value) (w : World), partOk d s = true → bs.size ≤ 8000 → 0 ≤ p → p ≤ bs.size → IsSh w s v →
  Calls Tryz.prog 69 #[v, .string bs, .int .i64 p] w (UnpPost w (unB bs s p))

/-- What is read so far: the row's slice in the sixth.. in a block of six. -/
structure Rows6 (W wr : World) (g : Nat) (at' : Int) (its : List Va) (q : Option Addr) (j m : Nat) (cs : List Value) (F : List Nat) : Prop where
  row : wr.ownsRow W.heap.size 29 4 (.slice q j m) j cs
  own : OwnVas wr W.heap.size its cs F
  nodup : (blkOf (.slice q j m) ++ F).Nodup
  blk : wr.heap[g]? = some (.cells #[.int .i64 0, .int .i64 0, .string ⟨#[]⟩, .slice q j m, .int .i64 at', .int .i64 0] 50 (0, 0))
  only : Only [g] W wr
  glt : g < W.heap.size
theorem Rows6.step {W wr w1 w2 : World} {g : Nat} {a0 at' : Int} {its : List Va} {q q' : Option Addr} {j m m' : Nat} {cs : List Value} {F F1 : List Nat} {x : Va} {k n : Int} {t : ByteArray} {p3 : Option Addr} {n3 m3 : Nat} {B1 : Nat} (h : Rows6 W wr g a0 its q j m cs F) (hB : wr.heap.size ≤ B1)
    (ho1 : OwnVa w1 B1 x (.agg #[.int .i64 k, .int .i64 n, .string t, .slice p3 n3 m3]) F1) (hn1 : F1.Nodup) (hb1 : Only [g] wr w1) (hg1 : w1.heap[g]? = some (.cells #[.int .i64 0, .int .i64 0, .string ⟨#[]⟩, .slice q j m, .int .i64 at', .int .i64 0] 50 (0, 0)))
    (ho2 : w2.ownsRow W.heap.size 29 4 (.slice q' (j + 1) m') (j + 1) (cs ++ [.int .i64 k, .int .i64 n, .string t, .slice p3 n3 m3])) (hy2 : Only (blkOf (.slice q j m)) w1 w2) (hp2 : ∀ b ∈ blkOf (.slice q' (j + 1) m'), b ∈ blkOf (.slice q j m) ∨ w1.heap.size ≤ b) :
    Rows6 W (w2.setCell ⟨g, 3, none⟩ (.slice q' (j + 1) m')) g at' (its ++ [x]) q' (j + 1) m' (cs ++ [.int .i64 k, .int .i64 n, .string t, .slice p3 n3 m3]) (F ++ F1) := by
  obtain ⟨h2, h3, h4, h5, h6, h7⟩ := h
  have lr := blkOf_own h2
  have lF := h3.lt
  have l1 := OwnVa.blocks _ _ _ ho1
  have l2 := blkOf_own ho2
  have d4 := (List.nodup_append.1 h4).2.2
  have hg2 : w2.heap[g]? = some (.cells #[.int .i64 0, .int .i64 0, .string ⟨#[]⟩, .slice q j m, .int .i64 at', .int .i64 0] 50 (0, 0)) := by
    rw [hy2.block g (Array.getElem?_eq_some_iff.1 hg1).1 fun hx => by have := lr g hx; omega]; exact hg1
  have e : ∀ b, b ≠ g → (w2.setCell ⟨g, 3, none⟩ (.slice q' (j + 1) m')).heap[b]? = w2.heap[b]? := fun b hb => Below.heap_setCell _ _ _ _ hb
  have hsz := h6.size
  refine ⟨own_block ho2 fun b hb => e b (by have := l2 b hb; omega), ?_, ?_, ?_, ?_, h7⟩
  · have a3 : OwnVas w2 W.heap.size its cs F := h3.move (Nat.le_refl _) fun b hb => by
      rw [hy2.block b (Nat.lt_of_lt_of_le (lF b hb).2 hb1.size) fun hx => d4 b hx b hb rfl, hb1.block b (lF b hb).2 (by simp; have := lF b hb; omega)]
    have a1 : OwnVa w2 W.heap.size x (.agg #[.int .i64 k, .int .i64 n, .string t, .slice p3 n3 m3]) F1 := OwnVa.move (by omega) _ _ _ (fun b hb => hy2.block b (l1 b hb).2 fun hx => by have := lr b hx; have := l1 b hb; omega) ho1
    exact (OwnVas.snoc a3 a1).move (Nat.le_refl _) fun b hb => e b (by
      rcases List.mem_append.1 hb with hb | hb
      · have := lF b hb; omega
      · have := l1 b hb; omega)
  · rw [List.nodup_append, List.nodup_append]
    have hF := (List.nodup_append.1 h4).2.1
    refine ⟨?_, ⟨hF, hn1, fun a ha b hb => by have := lF a ha; have := l1 b hb; omega⟩, fun a ha b hb => ?_⟩
    · cases q' <;> simp [blkOf]
    · rcases hp2 a ha with hx | hx
      · rcases List.mem_append.1 hb with hb | hb
        · exact d4 a hx b hb
        · have := lr a hx; have := l1 b hb; omega
      · rcases List.mem_append.1 hb with hb | hb
        · have := lF b hb; have := hb1.size; omega
        · have := l1 b hb; omega
  · rw [Go.heap_setCell_same w2 g 3 _ _ _ hg2]; rfl
  · refine Only.set ?_ (by simp) _ _
    refine ⟨hy2.os.trans (hb1.os.trans h6.os), hy2.tape.trans (hb1.tape.trans h6.tape), hy2.output.trans (hb1.output.trans h6.output), Nat.le_trans h6.size (Nat.le_trans hb1.size hy2.size), fun b hb hne => ?_⟩
    have hbw : b < wr.heap.size := Nat.lt_of_lt_of_le hb h6.size
    rw [hy2.block b (Nat.lt_of_lt_of_le hbw hb1.size) fun hx => by have := lr b hx; omega, hb1.block b hbw hne, h6.block b hb hne]
end Go.Proofs.YtbpidhlpakobiaaGreatDoor
namespace Go.Proofs.YtbpidhlpakobiaaGreatDoor
open Go.RowKit

theorem min_to (a b : Int) (k : Nat) (h : (if a < b then a else b) = k) (w : World) : Calls Tryz.prog 142 #[.int .i64 a, .int .i64 b] w fun e w' => e = .returned (.int .i64 k) ∧ w = w' := by
  by_cases h1 : a < b
  · rw [if_pos h1] at h
    go_enter Tryz.func142, Tryz.ntmps142
    go_wp2_with fail
    go_ret
    exact ⟨ret_int (by omega), rfl⟩
  · rw [if_neg h1] at h
    go_enter Tryz.func142, Tryz.ntmps142
    go_wp2_with fail
    go_ret
    exact ⟨ret_int (by omega), rfl⟩

/-- A result of one call, in a block of its own. -/
def OneU (w wc : World) (g : Nat) (r : UnR) (k n : Int) (t : ByteArray) (q : Option Addr) (l m : Nat) (F : List Nat) : Prop :=
  w.heap.size ≤ g ∧ wc.heap[g]? = some (.cells #[.int .i64 k, .int .i64 n, .string t, .slice q l m, .int .i64 r.2.1, .int .i64 r.2.2] 50 (0, 0)) ∧ OwnVa wc w.heap.size r.1 (.agg #[.int .i64 k, .int .i64 n, .string t, .slice q l m]) F ∧ F.Nodup ∧ g ∉ F ∧ Below w.heap.size w wc

theorem putU_same {w : World} {b : Nat} {T : TypeId} {c0 c1 c2 c3 c4 c5 : Value} (h : w.heap[b]? = some (.cells #[c0, c1, c2, c3, c4, c5] T (0, 0))) (k n : Int) (t : ByteArray) (v : Value) (q c : Int) :
    (putU w b k n t v q c).heap[b]? = some (.cells #[.int .i64 k, .int .i64 n, .string t, v, .int .i64 q, .int .i64 c] T (0, 0)) := by
  unfold putU putV
  have h0 := Go.heap_setCell_same w b 0 _ _ (.int .i64 k) h
  have h1 := Go.heap_setCell_same _ b 1 _ _ (.int .i64 n) h0
  have h2 := Go.heap_setCell_same _ b 2 _ _ (.string t) h1
  have h3 := Go.heap_setCell_same _ b 3 _ _ v h2
  have h4 := Go.heap_setCell_same _ b 4 _ _ (.int .i64 q) h3
  have h5 := Go.heap_setCell_same _ b 5 _ _ (.int .i64 c) h4
  rw [h5]
  simp
theorem unp_end0 {w w1 : World} {x : Va} {q c : Int} {k n : Int} {t : ByteArray} {p : Option Addr} {l m : Nat} {F : List Nat} (hb : Below w.heap.size w w1) (hown : OwnVa w1 w.heap.size x (.agg #[.int .i64 k, .int .i64 n, .string t, .slice p l m]) F) (hF : ∀ g ∈ F, g ≠ w.heap.size) (hnd : F.Nodup) :
    UnpPost w (x, q, c) (.returned (.agg #[.int .i64 k, .int .i64 n, .string t, .slice p l m, .int .i64 q, .int .i64 c])) (putU w1 w.heap.size k n t (.slice p l m) q c) :=
  ⟨k, n, t, p, l, m, F, rfl, OwnVa.move (Nat.le_refl _) _ _ _ (fun g hg => putU_other _ _ _ _ _ _ _ _ (hF g hg)) hown, hnd,
    (((((hb.setCell (p := ⟨w.heap.size, 0, none⟩) (Nat.le_refl _) _).setCell (p := ⟨w.heap.size, 1, none⟩) (Nat.le_refl _) _).setCell (p := ⟨w.heap.size, 2, none⟩) (Nat.le_refl _) _).setCell (p := ⟨w.heap.size, 3, none⟩) (Nat.le_refl _) _).setCell (p := ⟨w.heap.size, 4, none⟩) (Nat.le_refl _) _).setCell (p := ⟨w.heap.size, 5, none⟩) (Nat.le_refl _) _⟩
theorem Rows6.later {W wr wc : World} {g : Nat} {a0 : Int} {its : List Va} {q : Option Addr} {j m : Nat} {cs : List Value} {F : List Nat} (h : Rows6 W wr g a0 its q j m cs F) (hb : Below wr.heap.size wr wc) : Rows6 W wc g a0 its q j m cs F := by
  have hs := h.only.size
  refine ⟨own_block h.row fun b hx => hb.block b (blkOf_own h.row b hx).2, h.own.move (Nat.le_refl _) fun b hx => hb.block b (h.own.lt b hx).2, h.nodup, blk_below h.blk hb (Array.getElem?_eq_some_iff.1 h.blk).1, h.only.trans (Only.of_below hb), h.glt⟩
theorem one_late {wr w3 : World} {r : UnR} {k n : Int} {t : ByteArray} {q : Option Addr} {l m : Nat} {F : List Nat} (ho : OwnVa w3 wr.drew.heap.size r.1 (.agg #[.int .i64 k, .int .i64 n, .string t, .slice q l m]) F) (hn : F.Nodup) (hb : Below wr.drew.heap.size wr.drew w3) :
    OneU wr (w3.alloc (.cells #[.int .i64 k, .int .i64 n, .string t, .slice q l m, .int .i64 r.2.1, .int .i64 r.2.2] 50)) w3.heap.size r k n t q l m F := by
  have hb' : Below wr.heap.size wr w3 := (Below.refl _ wr).drew.trans hb
  exact ⟨hb'.size, Go.Deep.blk_alloc_new _ _, OwnVa.move (Nat.le_refl _) _ _ _ (fun g hg => Below.heap_alloc _ _ _ (OwnVa.blocks _ _ _ ho g hg).2) ho, hn,
    fun h => Nat.lt_irrefl _ (OwnVa.blocks _ _ _ ho _ h).2, hb'.trans ((below_alloc w3 _).mono hb'.size)⟩
theorem one_early {wr w3 : World} {r : UnR} {k n : Int} {t : ByteArray} {q : Option Addr} {l m : Nat} {F : List Nat} (ho : OwnVa w3 (wr.alloc (.cells #[.int .i64 0, .int .i64 0, .string ⟨#[]⟩, .slice none 0 0, .int .i64 0, .int .i64 0] 50)).drew.heap.size r.1 (.agg #[.int .i64 k, .int .i64 n, .string t, .slice q l m]) F) (hn : F.Nodup) (hb : Below (wr.alloc (.cells #[.int .i64 0, .int .i64 0, .string ⟨#[]⟩, .slice none 0 0, .int .i64 0, .int .i64 0] 50)).drew.heap.size (wr.alloc (.cells #[.int .i64 0, .int .i64 0, .string ⟨#[]⟩, .slice none 0 0, .int .i64 0, .int .i64 0] 50)).drew w3) :
    OneU wr (putU w3 wr.heap.size k n t (.slice q l m) r.2.1 r.2.2) wr.heap.size r k n t q l m F := by
  have hz : (wr.alloc (.cells #[.int .i64 0, .int .i64 0, .string ⟨#[]⟩, .slice none 0 0, .int .i64 0, .int .i64 0] 50)).drew.heap.size = wr.heap.size + 1 := by show (wr.alloc _).heap.size = _; simp
  have hx := blk_below (w := (wr.alloc (.cells #[.int .i64 0, .int .i64 0, .string ⟨#[]⟩, .slice none 0 0, .int .i64 0, .int .i64 0] 50)).drew) (b := wr.heap.size) (Go.Deep.blk_alloc_new wr _) hb (by omega)
  have hF : ∀ g ∈ F, wr.heap.size + 1 ≤ g := fun g hg => by have := (OwnVa.blocks _ _ _ ho g hg).1; omega
  have hb' : Below wr.heap.size wr w3 := (below_alloc wr _).drew.trans (hb.mono (by omega))
  refine ⟨Nat.le_refl _, putU_same hx _ _ _ _ _ _, OwnVa.move (by omega) _ _ _ (fun g hg => putU_other _ _ _ _ _ _ _ _ (by have := hF g hg; omega)) ho, hn, fun h => by have := hF _ h; omega, ?_⟩
  exact (((((hb'.setCell (p := ⟨wr.heap.size, 0, none⟩) (Nat.le_refl _) _).setCell (p := ⟨wr.heap.size, 1, none⟩) (Nat.le_refl _) _).setCell (p := ⟨wr.heap.size, 2, none⟩) (Nat.le_refl _) _).setCell (p := ⟨wr.heap.size, 3, none⟩) (Nat.le_refl _) _).setCell (p := ⟨wr.heap.size, 4, none⟩) (Nat.le_refl _) _).setCell (p := ⟨wr.heap.size, 5, none⟩) (Nat.le_refl _) _

set_option maxRecDepth 100000 in
set_option maxHeartbeats 20000000 in
theorem items_any (d : Nat) (ih : SuAt d) (l : List Sh) (hp : ∀ x ∈ l, partOk d x = true) (a : Option Addr) (m : Nat) (many : Nat) (bs : ByteArray) (p : Int) (w : World) (fs : List (Int → UnR)) (hl : fs.length = many) (h6 : many ≤ 6) (hl6 : l.length ≤ 6)
    (hg : ∀ i (h : i < fs.length), ∃ (j : Nat) (hj : j < l.length), (if (i : Int) < (l.length : Int) - 1 then (i : Int) else (l.length : Int) - 1) = j ∧ fs[i] = unB bs l[j]) (hb : bs.size ≤ 8000) (h0 : 0 ≤ p) (h1 : p ≤ bs.size) (hs : IsShs w (.slice a l.length m) l) :
    Calls Tryz.prog 115 #[.slice a l.length m, .int .i64 many, .string bs, .int .i64 p] w (UnpPost w (itemsU 0 (seqU fs p))) := by
  obtain ⟨R, hR⟩ : ∃ R, seqU fs p = R := ⟨_, rfl⟩
  rw [hR]
  have HR : Hid (R = joinU [] (seqU (fs.drop 0) p)) := by show _ = _; rw [List.drop_zero, joinU_nil]; exact hR.symm
  obtain ⟨a3', cap3, e3, _, hc3, g3⟩ := hs
  simp only [Value.slice.injEq] at e3
  obtain ⟨rfl, _, rfl⟩ := e3
  have HA := Lib.hid g3
  have IH := Lib.hid ih
  have HP := Lib.hid hp
  have HG := Lib.hid hg
  have HL := Lib.hid hl
  have HPl := Lib.hid (And.intro h0 h1)
  have HB8 := Lib.hid hb
  obtain ⟨W, hW⟩ : ∃ W, W = (w.alloc (.cells #[.int .i64 0, .int .i64 0, .string ⟨#[]⟩, .slice none 0 0, .int .i64 0, .int .i64 0] 50)).alloc (.cells #[.int .i64 0, .int .i64 0, .string ⟨#[]⟩, .slice none 0 0, .int .i64 p, .int .i64 0] 50) := ⟨_, rfl⟩
  have hX := two_new w (.cells #[.int .i64 0, .int .i64 0, .string ⟨#[]⟩, .slice none 0 0, .int .i64 0, .int .i64 0] 50) (.cells #[.int .i64 0, .int .i64 0, .string ⟨#[]⟩, .slice none 0 0, .int .i64 p, .int .i64 0] 50)
  have hbw := (below_alloc w (.cells #[.int .i64 0, .int .i64 0, .string ⟨#[]⟩, .slice none 0 0, .int .i64 0, .int .i64 0] 50)).alloc (by simp) (.cells #[.int .i64 0, .int .i64 0, .string ⟨#[]⟩, .slice none 0 0, .int .i64 p, .int .i64 0] 50)
  rw [← hW] at hX hbw
  have S1 := Lib.hid hX.1
  have S2 := Lib.hid hX.2
  have BW := Lib.hid hbw
  have HW := Lib.hid hW
  have HWz : Hid (w.heap.size + 1 < W.heap.size) := (Array.getElem?_eq_some_iff.1 hX.2).1
  clear hR hp hg hl h0 h1 hb hX hbw hW g3 ih
  go_enter Tryz.func115, Tryz.ntmps115
  go_wp2_with fail
  rw [← HW.out]
  go_loopg [10] many (fun k i wr => ∃ (j : Nat) (q : Option Addr) (m' : Nat) (cs : List Value) (F : List Nat) (its : List Va) (p' : Int), j ≤ many ∧ i = .int .i64 j ∧ k + j = many ∧ Hid (its.length = j) ∧ Hid (R = joinU its (seqU (fs.drop j) p')) ∧ Hid (0 ≤ p' ∧ p' ≤ bs.size) ∧ Hid (Rows6 W wr (w.heap.size + 1) p' its q j m' cs F))
  case atStart => exact ⟨0, none, 0, [], [], [], p, Nat.zero_le _, rfl, rfl, rfl, HR.out, HPl.out, ⟨World.ownsRow_nil _ _ _ _, by simp [OwnVas], by simp [blkOf], S2.out, Only.refl _ _, HWz.out⟩⟩
  case round =>
    obtain ⟨j, q, m', cs, F, its, p', hj, rfl, hk, HIl, HE, HPp, HRs⟩ := hrel
    have hgz : w.heap.size + 1 < wr.heap.size := Nat.lt_of_lt_of_le HRs.out.glt HRs.out.only.size
    obtain ⟨a0, a1, a2, a3, a4, a5, f0, f1, f2, f3, f4, f5, az⟩ := blk6 HRs.out.blk
    by_cases hlt : j < many
    · obtain ⟨jj, hjj, hmin, hfj⟩ := HG.out j (by rw [HL.out]; exact hlt)
      have HMin := Lib.hid hmin
      obtain ⟨b, off, rfl, c0, c1, c2, c3, g0, g1, g2, g3, g4⟩ := IsShs.at HA.out hjj
      have hBr : Below w.heap.size w wr := BW.out.trans (HRs.out.only.below BW.out.size (by simp))
      have hKp : Keeps w wr := Keeps.of_below hBr
      have k0 := hKp _ _ _ g0
      have k1 := hKp _ _ _ g1
      have k2 := hKp _ _ _ g2
      have k3 := hKp _ _ _ g3
      obtain ⟨q1, i1, y1, q2, i2, y2, q3, i3, y3, rfl, rfl, rfl, rfl⟩ := g4.cells
      have HBr := Lib.hid hBr
      have hjl : j < fs.length := by rw [HL.out]; exact hlt
      have HJb := Lib.hid (fun (c : Int) => joinU_bad hjl HE.out (c := c))
      have HJo := Lib.hid (joinU_ok hjl HE.out)
      obtain ⟨r, hr⟩ : ∃ r, fs[j] p' = r := ⟨_, rfl⟩
      rw [hr] at HJb HJo
      have hin : r.2.2 = 0 → In8 bs.size r.2.1 := by
        rw [← hr, hfj]
        exact unB_in (Nat.le_refl _) d l[jj] (HP.out _ (List.getElem_mem hjj)) p' HPp.out
      have HIn := Lib.hid hin
      have HBad : Hid (Bad r) := by show Bad _; rw [← hr, hfj]; exact unB_bad _ _ _
      have HCall : Hid (∀ wx, Below wr.heap.size wr wx → Calls Tryz.prog 69 #[.agg #[.int .i64 l[jj].kd, .slice q1 i1 y1, .slice q2 i2 y2, .slice q3 i3 y3], .string bs, .int .i64 p'] wx (UnpPost wx r)) := by
        intro wx hx
        rw [← hr, hfj]
        exact IH.out l[jj] bs p' _ wx (HP.out _ (List.getElem_mem hjj)) HB8.out HPp.out.1 HPp.out.2 (IsSh.keep (hKp.trans (Keeps.of_below hx)) _ _ g4)
      clear hjl hr hin hfj hmin hBr hKp g0 g1 g2 g3 g4 a0 a1 a2 a3 a5 f0 f1 f2 f3 f4 f5
      have hw1 : IntKind.i64.wrap ((l.length : Int) - 1) = (l.length : Int) - 1 := IntWalk.i64_in _ (by omega)
      have hbz : b < wr.heap.size := World.block_lt_of_cell? wr ⟨b, off + jj * 4, none⟩ k0
      go_wp2_with fail
      go_upto_region 5 with fail
      go_cut [11] (fun b11 wc => ∃ (g : Nat) (k n : Int) (t : ByteArray) (q : Option Addr) (l m : Nat) (F : List Nat), b11 = .pointer (some ⟨g, 0, none⟩) ∧ Hid (OneU wr wc g r k n t q l m F))
      case first =>
        go_region_with (first
          | (go_at_call 142; refine (min_to _ _ jj HMin.out _).mono ?_; rintro e w' ⟨rfl, rfl⟩)
          | (go_at_call 69; refine (HCall.out (wr.alloc (.cells #[.int .i64 0, .int .i64 0, .string ⟨#[]⟩, .slice none 0 0, .int .i64 0, .int .i64 0] 50)).drew (below_alloc wr _).drew).mono ?_; rintro e w3 ⟨k, n, t, q, l, m, F, rfl, ho3, hn3, hb3⟩; obtain ⟨z0, z1, z2, z3, z4, z5, y0, y1, y2, y3, y4, y5, zz⟩ := blk6 (blk_below (w := (wr.alloc (.cells #[.int .i64 0, .int .i64 0, .string ⟨#[]⟩, .slice none 0 0, .int .i64 0, .int .i64 0] 50)).drew) (Go.Deep.blk_alloc_new wr _) hb3 (by simp)); have HEa := Lib.hid (one_early ho3 hn3 hb3); unfold putU putV at HEa; clear ho3 hn3 hb3)
          | (go_at_call 69; refine (HCall.out wr.drew (Below.refl _ _).drew).mono ?_; rintro e w3 ⟨k, n, t, q, l, m, F, rfl, ho3, hn3, hb3⟩; have HLa := Lib.hid (one_late ho3 hn3 hb3); clear ho3 hn3 hb3))
        all_goals
          go_wp2_with fail
          go_meet
          first
            | exact ⟨_, _, _, _, _, _, _, _, rfl, HLa.out⟩
            | exact ⟨_, _, _, _, _, _, _, _, rfl, HEa.out⟩
      case rest =>
        obtain ⟨g, k', n, t, q3', l3', m3', F3, rfl, HO⟩ := hcut
        have hgg : wr.heap.size ≤ g := HO.out.1
        have hne : ¬ w.heap.size + 1 = g := by omega
        obtain ⟨y0, y1, y2, y3, y4, y5, _, _, _, _, _, _, yz⟩ := blk6 HO.out.2.1
        have RS2 : Hid (Rows6 W wc (w.heap.size + 1) p' its q j m' cs F) := HRs.out.later HO.out.2.2.2.2.2
        by_cases hc : r.2.2 = 0
        · have HJ := Lib.hid (HJo.out hc)
          have HI8 := Lib.hid (HIn.out hc)
          rw [hc] at y5
          obtain ⟨b0, b1, b2, b3, b4, b5, f0, f1, f2, f3, f4, f5, bz⟩ := blk6 RS2.out.blk
          obtain ⟨wd, hwd⟩ : ∃ wd, wd = wc.setCell ⟨w.heap.size + 1, 4, none⟩ (.int .i64 r.2.1) := ⟨_, rfl⟩
          have HWd := Lib.hid hwd
          have D1 : Hid (wd.heap[w.heap.size + 1]? = some (.cells #[.int .i64 0, .int .i64 0, .string ⟨#[]⟩, .slice q j m', .int .i64 r.2.1, .int .i64 0] 50 (0, 0))) := by
            show _ = _
            rw [hwd, Go.heap_setCell_same _ _ 4 _ _ _ RS2.out.blk]; rfl
          have D2 : Hid (Only [w.heap.size + 1] wr wd) := by show Only _ _ _; rw [hwd]; exact (Only.of_below HO.out.2.2.2.2.2).set (by simp) _ _
          have hoth : ∀ b, b ≠ w.heap.size + 1 → wd.heap[b]? = wc.heap[b]? := fun b hb => by rw [hwd]; exact Below.heap_setCell _ _ _ _ hb
          have D3 : Hid (OwnVa wd wr.heap.size r.1 (.agg #[.int .i64 k', .int .i64 n, .string t, .slice q3' l3' m3']) F3) := OwnVa.move (Nat.le_refl _) _ _ _ (fun b hb => hoth b (by have := (OwnVa.blocks _ _ _ HO.out.2.2.1 b hb).1; omega)) HO.out.2.2.1
          have D4 : Hid (wd.ownsRow W.heap.size 29 4 (.slice q j m') j cs) := own_block RS2.out.row fun b hb => hoth b (by have := (blkOf_own RS2.out.row b hb).1; have := HRs.out.glt; omega)
          have HZ : Hid (W.heap.size ≤ wd.heap.size) := Nat.le_trans HRs.out.only.size D2.out.size
          have HSZ : Hid (wd.heap.size = wc.heap.size) := by show _ = _; rw [hwd, size_set]
          have HLn : Hid ((its ++ [r.1]).length = j + 1) := by show _ = _; rw [List.length_append, HIl.out]; rfl
          clear hw1 hbz k0 k1 k2 k3 a4 hoth hwd
          go_wp2_with (at_builtin; go_must (rw [← HWd.out]; refine wpList_va wd rfl (.tmp 40) (.tmp 43) rfl W.heap.size q j m' cs k' n t q3' l3' m3' rfl D4.out (by rw [HSZ.out]; rfl) (by omega) HZ.out ?_))
          intro q' m5 w5 hown hon hloc
          have ST := Lib.hid (HRs.out.step (Nat.le_refl _) D3.out HO.out.2.2.2.1 D2.out D1.out hown hon hloc)
          have G5 : w5.heap[w.heap.size + 1]? = some (.cells #[.int .i64 0, .int .i64 0, .string ⟨#[]⟩, .slice q j m', .int .i64 r.2.1, .int .i64 0] 50 (0, 0)) := by
            rw [hon.block _ (Array.getElem?_eq_some_iff.1 D1.out).1 fun hx => by have := (blkOf_own RS2.out.row _ hx).1; have := HRs.out.glt; omega]
            exact D1.out
          obtain ⟨_, _, _, x3, _, _, _, _, _, v3, _, _, xz⟩ := blk6 G5
          clear hown hon hloc G5 b0 b1 b2 b3 b4 b5 f0 f1 f2 f3 f4 f5 y0 y1 y2 y3 y4 y5
          go_wp2_with fail
          go_roundg (many - (j + 1))
          case rel => exact ⟨j + 1, q', m5, _, _, its ++ [r.1], r.2.1, hlt, by go_num, by omega, HLn.out, HJ.out, HI8, ST.out⟩
          case measure => omega
        · obtain ⟨c, hcc'⟩ : ∃ c, r.2.2 = c := ⟨_, rfl⟩
          have HB := Lib.hid (HJb.out c hcc' (by rw [← hcc']; exact hc))
          have B3 := Lib.hid (HBr.out.trans (HO.out.2.2.2.2.2.mono HBr.out.size))
          have hz1 : w.heap.size < wc.heap.size := by omega
          rw [hcc'] at hc y5
          have Z8 : wc.heap[w.heap.size]? = some (.cells #[.int .i64 0, .int .i64 0, .string ⟨#[]⟩, .slice none 0 0, .int .i64 0, .int .i64 0] 50 (0, 0)) := by
            rw [HO.out.2.2.2.2.2.block _ (by omega), HRs.out.only.block _ (by have := HWz.out; omega) (by simp)]
            exact S1.out
          have hz2 : ¬ w.heap.size = g := by omega
          obtain ⟨x0, x1, x2, x3, x4, x5, v0, v1, v2, v3, v4, v5, xz⟩ := blk6 Z8
          have HZ8 := Lib.hid Z8
          clear hw1 hbz k0 k1 k2 k3 a4 Z8
          go_wp2_with fail
          refine bodyPost_ret (v := .agg #[.int .i64 k', .int .i64 n, .string t, .slice q3' l3' m3', .int .i64 r.2.1, .int .i64 c]) (by simp [results, Tryz.results115, go_sem, x0, x1, x2, x3, x4, x5]) rfl ?_
          have e1 : itemsU 0 R = (r.1, r.2.1, c) := by
            have e := HBad.out (by rw [hcc']; exact hc)
            rw [HB.out]
            unfold itemsU
            rw [if_pos hc, ← hcc']
            exact e.symm
          rw [e1]
          exact unp_end0 B3.out (OwnVa.move' HO.out.2.2.1 HBr.out.size) (fun b hb => by have := (OwnVa.blocks _ _ _ HO.out.2.2.1 b hb).1; omega) HO.out.2.2.2.1
    · have hje : j = many := by omega
      have HB := Lib.hid (joinU_end (by rw [HL.out]; omega) HE.out)
      have Z8 : wr.heap[w.heap.size]? = some (.cells #[.int .i64 0, .int .i64 0, .string ⟨#[]⟩, .slice none 0 0, .int .i64 0, .int .i64 0] 50 (0, 0)) := by
        rw [HRs.out.only.block _ (by have := HWz.out; omega) (by simp)]
        exact S1.out
      obtain ⟨x0, x1, x2, x3, x4, x5, v0, v1, v2, v3, v4, v5, xz⟩ := blk6 Z8
      have B3 : Hid (Below w.heap.size w wr) := BW.out.trans (HRs.out.only.below BW.out.size (by simp))
      have hge : ¬ (j : Int) < (many : Int) := by omega
      clear Z8 hje
      go_wp2_with fail
      refine bodyPost_ret (v := .agg #[.int .i64 0, .int .i64 0, .string ⟨#[]⟩, .slice q j m', .int .i64 p', .int .i64 0]) (by simp [results, Tryz.results115, go_sem, x0, x1, x2, x3, x4, x5]) rfl ?_
      have e1 : itemsU 0 R = (.mk 0 0 ⟨#[]⟩ its, p', 0) := by rw [HB.out]; unfold itemsU; rw [if_neg (by simp)]
      rw [e1]
      have hown : OwnVa wr w.heap.size (.mk 0 0 ⟨#[]⟩ its) (.agg #[.int .i64 0, .int .i64 0, .string ⟨#[]⟩, .slice q j m']) (blkOf (.slice q j m') ++ F) := by
        simp only [OwnVa]
        refine ⟨_, cs, F, rfl, by unfold InI64'; omega, by unfold InI64'; omega, by decide, ?_, HRs.out.own.move BW.out.size (fun _ _ => rfl), rfl⟩
        rw [HIl.out]
        exact own_mono HRs.out.row BW.out.size
      refine unp_end0 B3.out hown (fun b hb => ?_) HRs.out.nodup
      have hw := HWz.out
      rcases List.mem_append.1 hb with hb | hb
      · have := blkOf_own HRs.out.row b hb; omega
      · have := HRs.out.own.lt b hb; omega
end Go.Proofs.YtbpidhlpakobiaaGreatDoor
