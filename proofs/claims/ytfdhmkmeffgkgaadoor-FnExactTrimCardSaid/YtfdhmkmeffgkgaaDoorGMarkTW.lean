/- Walks: laws.markText, laws.markStringS: marks put into strings of the law's own. -/
import Derived.Test.YtfdhmkmeffgkgaaDoorGToW
import Derived.Test.YtfdhmkmeffgkgaaDoorGWoA
import Derived.Test.YtfdhmkmeffgkgaaDoorGOwn
import Derived.Deep.RegionWith
namespace Go.Proofs.YtfdhmkmeffgkgaaDoor
open Go.RowKit

/-- Nothing has turned but what stands in the blocks F, and what is new. -/
structure Only (F : List Nat) (w w' : World) : Prop where
  os : w'.os = w.os
  tape : w'.tape = w.tape
  output : w'.output = w.output
  size : w.heap.size ≤ w'.heap.size
  block : ∀ g, g < w.heap.size → g ∉ F → w'.heap[g]? = w.heap[g]?
theorem Only.refl (F : List Nat) (w : World) : Only F w w := ⟨rfl, rfl, rfl, Nat.le_refl _, fun _ _ _ => rfl⟩
theorem Only.trans {F : List Nat} {a b c : World} (h : Only F a b) (k : Only F b c) : Only F a c :=
  ⟨k.os.trans h.os, k.tape.trans h.tape, k.output.trans h.output, Nat.le_trans h.size k.size, fun g hg hf => (k.block g (Nat.lt_of_lt_of_le hg h.size) hf).trans (h.block g hg hf)⟩
theorem Only.mono {F G : List Nat} {a b : World} (h : Only F a b) (hs : ∀ g ∈ F, g ∈ G) : Only G a b :=
  ⟨h.os, h.tape, h.output, h.size, fun g hg hf => h.block g hg fun hx => hf (hs g hx)⟩
theorem Only.of_below {F : List Nat} {a b : World} (h : Below a.heap.size a b) : Only F a b := ⟨h.os, h.tape, h.output, h.size, fun g hg _ => h.block g hg⟩
theorem Only.below {F : List Nat} {a b : World} {B : Nat} (h : Only F a b) (hB : B ≤ a.heap.size) (hF : ∀ g ∈ F, B ≤ g) : Below B a b :=
  ⟨h.os, h.tape, h.output, h.size, fun k hk => h.block k (by omega) fun hx => by have := hF k hx; omega⟩
theorem Only.set {F : List Nat} {a b : World} (h : Only F a b) {g : Nat} (hg : g ∈ F) (j : Nat) (v : Value) : Only F a (b.setCell ⟨g, j, none⟩ v) :=
  ⟨h.os, h.tape, h.output, by rw [size_set]; exact h.size, fun k hk hf => by
    rw [Below.heap_setCell _ _ _ _ (show k ≠ g from fun e => hf (e ▸ hg))]; exact h.block k hk hf⟩

/-- A number's last digit. -/
def dgB (q : Nat) : UInt8 := UInt8.ofNat (48 + q % 10)
/-- The digits of a number, none of nought. -/
def digsB (k : Nat) : List UInt8 := if k = 0 then [] else digsB (k / 10) ++ [dgB k]
termination_by k
decreasing_by omega
/-- The mark of a number. -/
def mkT (k : Nat) : ByteArray := if k = 0 then ⟨#[109, 48]⟩ else ⟨#[109]⟩ ++ ⟨(digsB k).toArray⟩
theorem digsB_step {k : Nat} (h : 0 < k) {s : List UInt8} : digsB k ++ s = digsB (k / 10) ++ (dgB k :: s) := by
  rw [digsB, if_neg (by omega)]; simp
theorem mkT_size (k : Nat) (h : k ≤ 1099511627776) : (mkT k).size ≤ 1099511627777 := by
  unfold mkT
  split
  · decide
  · have key : ∀ n : Nat, (digsB n).length ≤ n := by
      intro n
      induction n using Nat.strongRecOn with
      | ind n ih =>
        rw [digsB]
        split
        · simp
        · have := ih (n / 10) (by omega)
          rw [List.length_append]; simp; omega
    have := key k
    rw [ByteArray.size_append]
    show 1 + (List.toArray _).size ≤ _
    rw [List.size_toArray]; omega

theorem conv_one (wr : World) (q : Nat) : (convert 79 9 (.slice (some ⟨wr.heap.size, 0, none⟩) 1 1)).run Tryd.prog (wr.alloc (.cells #[.int .u8 (48 + (q : Int) % 10)] 5)) =
    .ok (.string ⟨#[dgB q]⟩) (wr.alloc (.cells #[.int .u8 (48 + (q : Int) % 10)] 5)) := by
  have hc : (48 + (q : Int) % 10) = ((dgB q).toNat : Int) := by
    have : (dgB q).toNat = 48 + q % 10 := by unfold dgB; rw [UInt8.toNat_ofNat']; omega
    rw [this]; omega
  rw [hc]
  have ho : OwnB (wr.alloc (.cells #[.int .u8 ((dgB q).toNat : Int)] 5)) wr.heap.size (.slice (some ⟨wr.heap.size, 0, none⟩) 1 1) [dgB q] :=
    World.ownsRow_lit wr #[.int .u8 ((dgB q).toNat : Int)] 1 (Nat.le_refl _) (by decide) rfl
  exact ho.str

set_option maxRecDepth 100000 in
set_option maxHeartbeats 1000000 in
theorem markText_any (k : Nat) (hk : k ≤ 1099511627776) (w : World) :
    Calls Tryd.prog 37 #[.int .i64 k] w fun e w' => e = .returned (.string (mkT k)) ∧ Below w.heap.size w w' := by
  by_cases h0 : k = 0
  · subst h0
    have HR : Hid (mkT 0 = ⟨#[109, 48]⟩) := rfl
    rw [HR.out]
    go_enter Tryd.func37, Tryd.ntmps37
    go_wp2_with fail
    go_ret
    exact ⟨rfl, Below.refl _ _⟩
  · have HR : Hid (mkT k = ⟨#[109]⟩ ++ ⟨(digsB k).toArray⟩) := by show _ = _; unfold mkT; rw [if_neg h0]
    have hpos : (0 : Int) < (k : Int) := by omega
    obtain ⟨r, hr⟩ : ∃ r, r = mkT k := ⟨_, rfl⟩
    have HM := Lib.hid hr
    rw [← hr]
    clear h0 hr
    go_enter Tryd.func37, Tryd.ntmps37
    go_wp2_with fail
    go_loopw [0, 3] (fun a o wr => ∃ (q : Nat) (s : ByteArray), a = .int .i64 q ∧ o = .string s ∧ Hid (digsB k = digsB q ++ s.data.toList) ∧ q + s.size ≤ k ∧ Hid (Below w.heap.size w wr)) (fun a _ _ => (intOf a).toNat)
    case atStart => exact ⟨k, ⟨#[]⟩, rfl, rfl, (List.append_nil _).symm, Nat.le_refl _, Below.refl _ _⟩
    case round =>
      obtain ⟨q, s, rfl, rfl, HD, hq, HB⟩ := hrel
      by_cases hlt : 0 < q
      · have HDn := Lib.hid (HD.out.trans (digsB_step hlt))
        have b1 : (0 : Int) < (q : Int) := by omega
        have hcv := conv_one wr q
        have hb1 := HB.out.alloc HB.out.size (.cells #[.int .u8 (48 + (q : Int) % 10)] 5)
        have HB1 := Lib.hid hb1
        have hs1 : ¬ 9223372036854775807 < 1 + s.size := by omega
        clear hb1
        go_wp2_with fail
        go_roundw
        case rel => exact ⟨q / 10, ⟨#[dgB q]⟩ ++ s, by rw [Int.natCast_ediv]; rfl, rfl, by show _ = _; rw [HDn.out]; simp, by rw [ByteArray.size_append]; show q / 10 + (1 + s.size) ≤ k; omega, HB1.out⟩
        case measure => simp [intOf]; omega
      · obtain rfl : q = 0 := by omega
        have hs1 : ¬ 9223372036854775807 < 1 + s.size := by omega
        have HE : Hid ((⟨#[109]⟩ : ByteArray) ++ s = r) := by
          show _ = _
          rw [HM.out, HR.out, HD.out, digsB, if_pos rfl, List.nil_append]
        go_wp2_with fail
        go_ret
        exact ⟨ret_str HE.out, HB.out⟩

theorem OwnStrs.on {w w' : World} {base : Nat} {v : Value} {l : List ByteArray} (h : OwnStrs w base v l) (hb : Below w.heap.size w w') : OwnStrs w' base v l :=
  ⟨h.1, own_block h.2 fun g hg => hb.block g (blkOf_own h.2 g hg).2⟩
/-- A cell of an owned row. -/
theorem own_cell {w : World} {base T sz n g cap : Nat} {xs : List Value} (h : w.ownsRow base T sz (.slice (some ⟨g, 0, none⟩) n cap) n xs) {j : Nat} (hj : j < xs.length) :
    w.cell? ⟨g, j, none⟩ = some xs[j] ∧ w.frozen? ⟨g, j, none⟩ = false ∧ g < w.heap.size ∧ base ≤ g ∧ n ≤ cap := by
  rcases h.2 with ⟨hv, _⟩ | ⟨g', cap', cur, hv, hb, hg, hn, _, _, ht⟩
  · cases hv
  · simp only [Value.slice.injEq, Option.some.injEq, Addr.mk.injEq] at hv
    obtain ⟨⟨rfl, _⟩, _, rfl⟩ := hv
    refine ⟨?_, ?_, (Array.getElem?_eq_some_iff.1 hg).1, hb, hn⟩
    · have hl := h.1
      have e : (cur.toList.take (n * sz))[j]? = cur.toList[j]? := List.getElem?_take_of_lt (by omega)
      rw [ht, List.getElem?_eq_getElem hj] at e
      simp [World.cell?, hg, ← Array.getElem?_toList, ← e]
    · simp [World.frozen?, hg]
/-- The marks of n strings. -/
def marksB (k : Nat) : Nat → List ByteArray
  | 0 => []
  | n + 1 => marksB k n ++ [mkT (k + n)]
theorem marksB_len (k n : Nat) : (marksB k n).length = n := by
  induction n with
  | zero => rfl
  | succ n ih => simp [marksB, ih]
theorem marksB_at (k n j : Nat) (h : j < n) : (marksB k n)[j]'(by rw [marksB_len]; exact h) = mkT (k + j) := by
  induction n with
  | zero => omega
  | succ n ih =>
    simp only [marksB]
    by_cases hj : j < n
    · rw [List.getElem_append_left (by rw [marksB_len]; exact hj)]; exact ih hj
    · have : j = n := by omega
      subst this
      rw [List.getElem_append_right (by rw [marksB_len]; exact Nat.le_refl _)]
      simp
theorem marksB_small (k : Nat) : ∀ n : Nat, k + n ≤ 1099511627776 → ∀ s ∈ marksB k n, s.size ≤ 9223372036854775807
  | 0, _, s, hs => by cases hs
  | n + 1, h, s, hs => by
    simp only [marksB, List.mem_append, List.mem_singleton] at hs
    rcases hs with hs | rfl
    · exact marksB_small k n (by omega) s hs
    · have := mkT_size (k + n) (by omega); omega
/-- What is left of the strings behind j marks. -/
theorem marks_step {k j : Nat} {l : List ByteArray} (h : j < l.length) : ((marksB k j ++ l.drop j).map Value.string).set j (.string (mkT (k + j))) = (marksB k (j + 1) ++ l.drop (j + 1)).map Value.string := by
  rw [List.drop_eq_getElem_cons h]
  simp only [List.map_append, List.map_cons, marksB, List.append_assoc, List.cons_append, List.nil_append]
  have hl : ((marksB k j).map Value.string).length = j := by rw [List.length_map, marksB_len]
  rw [List.set_append_right _ _ (by omega), hl, Nat.sub_self, List.set_cons_zero]

def MarkSPost (w : World) (base : Nat) (v : Value) (k n : Nat) (e : Ending) (w' : World) : Prop :=
  e = .returned (.int .i64 ((k + n : Nat) : Int)) ∧ OwnStrs w' base v (marksB k n) ∧ Only (blkOf v) w w'

set_option maxRecDepth 100000 in
set_option maxHeartbeats 1000000 in
theorem markStrs_any (w : World) (base : Nat) (v : Value) (l : List ByteArray) (k : Nat) (h : OwnStrs w base v l) (hk : k + l.length ≤ 1099511627776) :
    Calls Tryd.prog 32 #[v, .int .i64 k] w (MarkSPost w base v k l.length) := by
  have h' := h
  obtain ⟨hs, hl, hr⟩ := h'
  rcases hr with ⟨rfl, h0⟩ | ⟨g, cap, cur, rfl, hb, hg, hn, hc, hsz, ht⟩
  · have HN : Hid (MarkSPost w base (.slice none 0 0) k l.length (.returned (.int .i64 k)) w) := by
      show MarkSPost _ _ _ _ _ _ _
      rw [h0]
      exact ⟨rfl, ⟨by simp [marksB], rfl, .inl ⟨rfl, rfl⟩⟩, Only.refl _ _⟩
    clear h hs hl
    go_enter Tryd.func32, Tryd.ntmps32
    go_wp2_with fail
    go_loopw [1, 5] (fun a i wr => a = .int .i64 k ∧ i = .int .i64 ((0 : Nat) : Int) ∧ wr = w) (fun _ _ _ => 0)
    case atStart => exact ⟨rfl, rfl, rfl⟩
    case round =>
      obtain ⟨rfl, rfl, rfl⟩ := hrel
      go_wp2_with fail
      go_ret
      exact HN.out
  · have H := Lib.hid h
    have HL : Hid (∀ j, j < l.length → ((marksB k j ++ l.drop j).map Value.string).length = l.length) := by
      intro j hj
      rw [List.length_map, List.length_append, marksB_len, List.length_drop]; omega
    clear h hs hl hg ht hsz
    go_enter Tryd.func32, Tryd.ntmps32
    go_wp2_with fail
    go_loopw [1, 5] (fun a i wr => ∃ j : Nat, j ≤ l.length ∧ a = .int .i64 ((k + j : Nat) : Int) ∧ i = .int .i64 j ∧ Hid (OwnStrs wr base (.slice (some ⟨g, 0, none⟩) l.length cap) (marksB k j ++ l.drop j)) ∧ Hid (Only [g] w wr)) (fun _ i _ => l.length - (intOf i).toNat)
    case atStart => exact ⟨0, Nat.zero_le _, rfl, rfl, by show OwnStrs _ _ _ _; simpa [marksB] using H.out, Only.refl _ _⟩
    case round =>
      obtain ⟨j, hj, rfl, rfl, HO, HY⟩ := hrel
      by_cases hlt : j < l.length
      · have HLj := Lib.hid (HL.out j hlt)
        have HE : Hid ((marksB k j ++ l.drop j).length = l.length) := by have := HLj.out; rwa [List.length_map] at this
        go_wp2_with fail
        refine (markText_any (k + j) (by omega) wr).mono ?_
        rintro e w1 ⟨rfl, hb1⟩
        have ho1 := HO.out.on hb1
        have hr1 := ho1.2.2
        rw [HE.out] at hr1
        have hown : w1.ownsRow base 9 1 (.slice (some ⟨g, 0, none⟩) l.length cap) l.length ((marksB k j ++ l.drop j).map Value.string) := by
          have := ho1.2; rw [HE.out] at this; exact this
        have HOW := Lib.hid hown
        obtain ⟨hc1, hf1, hz1, _, hcap⟩ := own_cell hown (j := j) (by rw [HLj.out]; exact hlt)
        have HY1 := Lib.hid (HY.out.trans (Only.of_below hb1))
        clear hown ho1 hr1 hb1
        go_wp2_with fail
        go_roundw
        case rel =>
          have hst := (World.ownsRow.stored HOW.out j (.string (mkT (k + j)))).1
          rw [marks_step hlt] at hst
          refine ⟨j + 1, hlt, by go_num, by go_num, ⟨fun s hs => ?_, ?_⟩, HY1.out.set (by simp) _ _⟩
          · rcases List.mem_append.1 hs with hs | hs
            · exact marksB_small k (j + 1) (by omega) s hs
            · exact H.out.1 s (List.mem_of_mem_drop hs)
          · rw [show (marksB k (j + 1) ++ l.drop (j + 1)).length = l.length by rw [List.length_append, marksB_len, List.length_drop]; omega]
            exact hst
        case measure => simp [intOf]; omega
      · obtain rfl : j = l.length := by omega
        have HF : Hid (MarkSPost w base (.slice (some ⟨g, 0, none⟩) l.length cap) k l.length (.returned (.int .i64 ((k + l.length : Nat) : Int))) wr) := by
          refine ⟨rfl, ?_, HY.out⟩
          have := HO.out
          rw [List.drop_length, List.append_nil] at this
          exact this
        go_wp2_with fail
        go_ret
        exact HF.out

end Go.Proofs.YtfdhmkmeffgkgaaDoor
