/- For every input laws.FnSeal returns true: a drawn text is got back from its seal; with any one byte turned it is refused; a CRC goes on from text to text. No condition. -/
import Derived.Test.YtejkeoahdienmaaUnsealW
import Derived.Test.YtejkeoahdienmaaCrcD
import Derived.Test.YtejkeoahdienmaaDrawSW
import Derived.Test.YtejkeoahdienmaaSealD
import Derived.Laws.IdiomStrings
import Derived.StillTailTactics
import Derived.Deep.RegionWith
namespace Go.Proofs.Ytejkeoahdienmaa.fnSealL
open Go.ChangeShapes Go.WideShapes Go.ChangeAt Go.RowKit

/-- The bytes l lie at the head of block g, not frozen. -/
def BytesAt (w : World) (g : Nat) (l : List UInt8) : Prop := ∀ j c, l[j]? = some c → w.cell? ⟨g, j, none⟩ = some (.int .u8 (c.toNat : Int)) ∧ w.frozen? ⟨g, j, none⟩ = false

/-- []byte(s). -/
theorem wpList_bytes {ops : Array Oper} {rest : List Oper} {o : Oper} {a : Act} {Q : Exit → Act → World → Prop} {W : World} (hgd : o.guard = none) (x : Operand) (ho : o.op = .convert 9 22 x) (s : ByteArray) (hx : a.eval x = .string s)
    (h : ∀ w' cap, BytesAt w' W.heap.size s.data.toList → Below W.heap.size W w' → W.heap.size < w'.heap.size → wpList Try.prog ops Q rest (a.put o.dst (.slice (some ⟨W.heap.size, 0, none⟩) s.size cap)) w') :
    wpList Try.prog ops Q (o :: rest) a W := by
  refine wpList_plain hgd fun K hK => ?_
  have hrun := run_bytes_of_string (P := Try.prog) W 9 22 5 s Try.underlying9 Try.underlying22 Try.underlying5
  unfold Oper.wp
  simp [execOp, ho, hx, hrun, Result.andThen]
  refine hK _ _ (h _ _ ?_ ?_ ?_)
  · intro j c hj
    have hlt : j < s.data.toList.length := by
      rcases Nat.lt_or_ge j s.data.toList.length with h1 | h1
      · exact h1
      · rw [List.getElem?_eq_none h1] at hj; cases hj
    have hg : (W.drew.alloc (.cells (bytesRow s (grownCap W s.size 0 5)) 5 ((bytesRow s (grownCap W s.size 0 5)).size, (bytesRow s (grownCap W s.size 0 5)).size + 1))).heap[W.heap.size]? = some (.cells (bytesRow s (grownCap W s.size 0 5)) 5 ((bytesRow s (grownCap W s.size 0 5)).size, (bytesRow s (grownCap W s.size 0 5)).size + 1)) := heap_alloc_new W.drew _
    have hlen := len_list s
    have hk : j < (bytesRow s (grownCap W s.size 0 5)).size := by unfold bytesRow; simp; omega
    refine ⟨?_, ?_⟩
    · rw [cell_of_row _ _ _ _ _ _ hg]
      unfold bytesRow
      rw [Array.getElem?_append_left (by simp; omega)]
      rw [Array.getElem?_map]
      have : s.data[j]? = some c := by simpa using hj
      rw [this]; rfl
    · unfold World.frozen?
      rw [hg]
      simp
      omega
  · exact ((Below.refl _ W).drew).alloc (Nat.le_refl _) _
  · simp

theorem turned (c : UInt8) (v : Int) (h0 : 0 ≤ v) (h1 : v < 255 ∨ v = 0) : ∃ d : UInt8, Hid (bits .xor .u8 (c.toNat : Int) (IntKind.u8.wrap (IntKind.i64.wrap (1 + v))) = (d.toNat : Int) ∧ d ≠ c) := by
  obtain ⟨n, rfl⟩ := Int.eq_ofNat_of_zero_le h0
  have hc := c.toNat_lt
  have hn : n < 255 := by omega
  rw [IntWalk.i64_in _ (by omega), IntWalk.u8_in _ (by omega)]
  have e : (1 : Int) + (n : Int) = ((1 + n : Nat) : Int) := by omega
  have hx : c.toNat ^^^ (1 + n) < 256 := Nat.xor_lt_two_pow (n := 8) (by omega) (by omega)
  rw [e, u8_xor_nat c.toNat (1 + n) (by omega) (by omega)]
  refine ⟨UInt8.ofNat (c.toNat ^^^ (1 + n)), ⟨by rw [UInt8.toNat_ofNat']; omega, fun h => ?_⟩⟩
  have h2 := congrArg UInt8.toNat h
  rw [UInt8.toNat_ofNat'] at h2
  have h3 : c.toNat ^^^ (1 + n) = c.toNat ^^^ 0 := by rw [Nat.xor_zero]; omega
  have := xor_left h3
  omega
theorem bytes_set {w : World} {g k : Nat} {l : List UInt8} {c d : UInt8} (h : BytesAt w g l) (hc : w.cell? ⟨g, k, none⟩ = some (.int .u8 (c.toNat : Int))) (hf : w.frozen? ⟨g, k, none⟩ = false) :
    BytesAt (w.setCell ⟨g, k, none⟩ (.int .u8 (d.toNat : Int))).drew g (l.set k d) := by
  intro j e hj
  by_cases hjk : j = k
  · subst hjk
    have hlt : j < l.length := by
      have := (List.getElem?_eq_some_iff.1 hj).1
      simpa using this
    rw [List.getElem?_set_self hlt] at hj
    obtain rfl := Option.some.inj hj
    refine ⟨World.cell?_setCell_same _ _ _ (u := .int .u8 (c.toNat : Int)) hc, ?_⟩
    rw [show (w.setCell ⟨g, j, none⟩ (.int .u8 (d.toNat : Int))).drew.frozen? ⟨g, j, none⟩ = w.frozen? ⟨g, j, none⟩ by simp]
    exact hf
  · rw [List.getElem?_set_ne (fun h => hjk h.symm)] at hj
    obtain ⟨h1, h2⟩ := h j e hj
    refine ⟨?_, ?_⟩
    · show (w.setCell ⟨g, k, none⟩ (.int .u8 (d.toNat : Int))).cell? ⟨g, j, none⟩ = _
      rw [World.cell?_setCell_other _ _ _ _ (by simp_all)]
      exact h1
    · rw [show (w.setCell ⟨g, k, none⟩ (.int .u8 (d.toNat : Int))).drew.frozen? ⟨g, j, none⟩ = w.frozen? ⟨g, j, none⟩ by simp]
      exact h2
theorem bytes_back {w w' : World} {g B n : Nat} {l : List UInt8} (h : BytesAt w g l) (hb : Below B w w') (hg : g < B) (cap : Nat) (hl : l.length = n) :
    (convert 22 9 (.slice (some ⟨g, 0, none⟩) n cap)).run Try.prog w' = .ok (.string ⟨l.toArray⟩) w' := by
  subst hl
  refine run_convert_bytes_back w' _ _ _ ⟨g, 0, none⟩ cap l Try.underlying22 Try.underlying5 Try.underlying9 fun j hj => ?_
  rw [add_plain, Nat.zero_add, hb.cell (p := ⟨g, j, none⟩) hg]
  exact (h j l[j] (List.getElem?_eq_getElem hj)).1
theorem inner_is {p t : ByteArray} {n : Nat} (h : p.data.toList = t.data.toList ++ fourB n) : innerOf p = t := by
  apply ByteArray.ext
  apply Array.ext'
  have hz : p.size = t.data.toList.length + 4 := by rw [← len_list, h]; simp [fourB]
  rw [inner_data, hz, h]
  have e : t.data.toList.length + 4 - 4 = t.data.toList.length := by omega
  rw [e, List.take_left]
theorem fldU (w : World) : (Instr.field 27 (.agg #[.string ⟨#[]⟩, .int .i64 0, .int .i64 5]) 2).run Try.prog w = .ok (.int .i64 5) w := by kernel_rfl

theorem crc_join {t u : ByteArray} (h : t.size + u.size ≤ 8000) : crcMoreOf (crcOf t) u = crcOf (t ++ u) := by
  have h1 : crcOf t = (crcMoreN 0 t.data.toList : Int) := crcOf_is (by omega)
  have h2 : crcOf (t ++ u) = (crcMoreN 0 (t ++ u).data.toList : Int) := crcOf_is (by rw [ByteArray.size_append]; omega)
  have h3 := crcMoreN_lt 0 t.data.toList (by decide)
  rw [h1, h2]
  unfold crcMoreOf
  rw [if_neg (by omega)]
  have e : (t ++ u).data.toList = t.data.toList ++ u.data.toList := by simp
  rw [e, ← crc_on]
  rfl

set_option maxRecDepth 100000 in
set_option maxHeartbeats 2000000 in
theorem walk (a0 : Option Addr) (len0 cap0 : Nat) (z0 : List Int) (a1 : Option Addr) (len1 cap1 : Nat) (z1 : List Int) (w : World) (h0 : IsRow .u8 w a0 len0 cap0 z0) (h1 : IsRow .u8 w a1 len1 cap1 z1) :
    Calls Try.prog 3 #[.slice a0 len0 cap0, .slice a1 len1 cap1] w fun e w' => e = .returned (.bool true) ∧ Below w.heap.size w w' := by
  have R0 := Lib.hid (RowB.of_row h0)
  have R1 := Lib.hid (RowB.of_row h1)
  have hl0 := (RowB.of_row h0).1
  have hl1 := (RowB.of_row h1).1
  clear h0 h1
  by_cases hA : 1048576 < len0
  · have hA' : (1048576 : Int) < len0 := by omega
    go_enter Try.func3, Try.ntmps3
    go_wp2_with fail
    go_ret
    exact ⟨rfl, Below.refl _ _⟩
  have hA' : (len0 : Int) ≤ 1048576 := by omega
  by_cases hB : 1048576 < len1
  · have hB' : (1048576 : Int) < len1 := by omega
    go_enter Try.func3, Try.ntmps3
    go_wp2_with fail
    go_ret
    exact ⟨rfl, Below.refl _ _⟩
  have hB' : (len1 : Int) ≤ 1048576 := by omega
  have HA := Lib.hid (show len0 ≤ 1048576 by omega)
  have HB := Lib.hid (show len1 ≤ 1048576 by omega)
  clear hA hB
  go_enter Try.func3, Try.ntmps3
  go_wp2_with fail
  refine (drawText_any w a0 len0 cap0 R0.out HA.out).mono ?_
  rintro e w1 ⟨t, rfl, ht, hb1⟩
  have B1 := Lib.hid hb1
  clear hb1
  have HTM := Lib.hid (show t.size ≤ maxLen by unfold maxLen; omega)
  obtain ⟨p, HP⟩ : ∃ p, Hid (p = (⟨(sealB t).toArray⟩ : ByteArray)) := ⟨_, rfl⟩
  have HS1 := Lib.hid (fun w => seal_any t w HTM.out)
  have HS2 := Lib.hid (fun w => specSeal_any t w HTM.out)
  by_cases hlong : 7996 < t.size
  · have HE := Lib.hid (show p = ByteArray.empty by rw [HP.out]; unfold sealB; rw [if_pos hlong]; rfl)
    clear hlong
    go_wp2_with fail
    refine (HS1.out _).mono ?_
    rw [← HP.out, HE.out]
    rintro e w2 ⟨rfl, hb2⟩
    have B2 := Lib.hid (B1.out.trans (hb2.mono B1.out.size))
    clear hb2
    go_wp2_with fail
    refine (HS2.out _).mono ?_
    rw [← HP.out, HE.out]
    rintro e w3 ⟨rfl, hb3⟩
    have B3 := Lib.hid (B2.out.trans (hb3.mono B2.out.size))
    clear hb3
    go_wp2_with fail
    refine (drawCrc_any _ a1 len1 cap1 ((R1.out.below B3.out).mono B3.out.size) HB.out).mono ?_
    rintro e w20 ⟨r, u, rfl, hu, hb20⟩
    have B20 := Lib.hid (B3.out.trans (hb20.mono B3.out.size))
    clear hb20
    by_cases hsum : 8000 < t.size + u.size
    · have hs' : (8000 : Int) < (t.size : Int) + u.size := by omega
      go_wp2_with fail
      go_ret
      exact ⟨rfl, B20.out⟩
    · have hs' : (t.size : Int) + u.size ≤ 8000 := by omega
      have HUS := Lib.hid (show u.size ≤ maxLen by unfold maxLen; omega)
      have HTS := Lib.hid (show t.size ≤ maxLen by unfold maxLen; omega)
      have hq : ¬ 9223372036854775807 < t.size + u.size := by omega
      have HON := Lib.hid (crc_join (t := t) (u := u) (by omega))
      obtain ⟨x, HX⟩ : ∃ x, Hid (crcMoreOf r u = x) := ⟨_, rfl⟩
      obtain ⟨y, HY⟩ : ∃ y, Hid (crcOf (t ++ u) = y) := ⟨_, rfl⟩
      obtain ⟨z, HZ⟩ : ∃ z, Hid (crcOf t = z) := ⟨_, rfl⟩
      clear hsum
      go_wp2_with fail
      refine (crcMore_all r u _ HUS.out).mono ?_
      rw [HX.out]
      rintro e w21 ⟨rfl, rfl⟩
      go_wp2_with fail
      refine (specCrcMore_all r u _ HUS.out).mono ?_
      rw [HX.out]
      rintro e w22 ⟨rfl, rfl⟩
      go_wp2_with fail
      refine (crc_any t _ HTS.out).mono ?_
      rw [HZ.out]
      rintro e w23 ⟨rfl, rfl⟩
      go_wp2_with fail
      refine (crcMore_all z u _ HUS.out).mono ?_
      rw [← HZ.out, HON.out, HY.out]
      rintro e w24 ⟨rfl, rfl⟩
      go_wp2_with fail
      refine (crc_any (t ++ u) _ (by rw [ByteArray.size_append]; unfold maxLen; omega)).mono ?_
      rw [HY.out]
      rintro e w25 ⟨rfl, rfl⟩
      go_wp2_with fail
      go_ret
      exact ⟨rfl, B20.out⟩
  · have hne0 : 0 < p.size := by
      rw [HP.out]; show 0 < (sealB t).toArray.size
      unfold sealB; rw [if_neg hlong]; simp [fourB]
    have hps : p.size = t.size + 4 := by
      rw [HP.out]; show (sealB t).toArray.size = _
      unfold sealB; rw [if_neg hlong]; simp [fourB]
    have hpl : p.data.toList = t.data.toList ++ fourB (crcMoreN 0 t.data.toList) := by
      rw [HP.out]; show (sealB t).toArray.toList = _
      unfold sealB; rw [if_neg hlong]
    have HPL := Lib.hid hpl
    have HPS := Lib.hid hps
    have hp1 : (p.size : Int) ≤ 8000 := by omega
    have hp2 : (4 : Int) ≤ p.size := by omega
    have hne : p.toList.isEmpty = false := by
      have : p.toList.length = p.size := by rw [Lib.toList_data]; simp
      cases h : p.toList with
      | nil => rw [h] at this; simp at this; omega
      | cons c r => rfl
    have HLN := Lib.hid (show p.size ≤ 8000 ∧ 4 ≤ p.size by omega)
    clear hlong hpl hps hne0
    go_wp2_with fail
    refine (HS1.out _).mono ?_
    rw [← HP.out]
    rintro e w2 ⟨rfl, hb2⟩
    have B2 := Lib.hid (B1.out.trans (hb2.mono B1.out.size))
    clear hb2
    go_wp2_with fail
    refine (HS2.out _).mono ?_
    rw [← HP.out]
    rintro e w3 ⟨rfl, hb3⟩
    have B3 := Lib.hid (B2.out.trans (hb3.mono B2.out.size))
    clear hb3
    go_wp2_with (with_reducible refine wpList_bytes rfl (.tmp 29) rfl p rfl ?_)
    intro w4 cap hby hb4 hz4
    have HBY := Lib.hid hby
    have B4 := Lib.hid (B3.out.trans (hb4.mono B3.out.size))
    clear hby hb4
    go_wp2_with fail
    refine (lwAt_any a1 len1 cap1 0 p.size _ _ (R1.out.below B4.out) HB.out (by omega) (by omega)).mono ?_
    rintro e w5 ⟨⟨v, rfl, hv0, hv1⟩, rfl⟩
    obtain ⟨k, rfl⟩ := Int.eq_ofNat_of_zero_le hv0
    have hk : k < p.size := by omega
    obtain ⟨c, hcb⟩ : ∃ c, p.data.toList[k]? = some c := ⟨_, List.getElem?_eq_getElem (by rw [len_list]; exact hk)⟩
    obtain ⟨hcell, hfroz⟩ := HBY.out k c hcb
    have HCB := Lib.hid hcb
    have hkI : (k : Int) < p.size := by omega
    clear hv0 hv1 hcb
    go_wp2_with fail
    go_region_with (go_at_call 14; refine (lwAt_any a1 len1 cap1 1 255 w.heap.size _ ?_ HB.out (by omega) (by decide)).mono ?_; (first | exact R1.out.below B4.out | exact R1.out.below B4.out.drew); rintro e w5 ⟨⟨v2, rfl, hv2, hv3⟩, rfl⟩)
    all_goals
      obtain ⟨d, HD⟩ := turned c v2 hv2 hv3
      rw [HD.out.1]
      obtain ⟨w6, HW6⟩ : ∃ w6, Hid (w6 = (w4.setCell ⟨w3.heap.size, k, none⟩ (.int .u8 (d.toNat : Int))).drew) := ⟨_, rfl⟩
      rw [← HW6.out]
      have HBY6 := Lib.hid (show BytesAt w6 w3.heap.size (p.data.toList.set k d) by rw [HW6.out]; exact bytes_set HBY.out hcell hfroz)
      have B6 := Lib.hid (show Below w.heap.size w w6 by rw [HW6.out]; exact (B4.out.setCell (p := ⟨w3.heap.size, k, none⟩) B3.out.size _).drew)
      have hz6 : w3.heap.size < w6.heap.size := by rw [HW6.out]; simpa [World.setCell] using hz4
      have HBAD := Lib.hid (seal_no (s := ⟨(p.data.toList.set k d).toArray⟩) (T := t.data.toList) (k := k) (d := d) (by rw [len_list]; have := HPS.out; omega) (by rw [← HPL.out, HCB.out]; intro h; exact HD.out.2 (Option.some.inj h).symm) (by rw [← HPL.out]))
      have HIN := Lib.hid (inner_is HPL.out)
      have fF := fldU
      clear hv2 hv3 hcell hfroz
      go_wp2_with fail
      refine (unseal_good p _ HLN.out.1 HLN.out.2 (seal_yes HPL.out)).mono ?_
      rw [HIN.out]
      rintro e w7 ⟨rfl, hb7⟩
      have B7 := Lib.hid (B6.out.trans (hb7.mono B6.out.size))
      have hback := bytes_back HBY6.out hb7 hz6 cap (show (p.data.toList.set k d).length = p.size by rw [List.length_set, len_list])
      clear hb7
      obtain ⟨x, HX⟩ : ∃ x : ByteArray, Hid ((⟨(p.data.toList.set k d).toArray⟩ : ByteArray) = x) := ⟨_, rfl⟩
      have HXS := Lib.hid (show x.size = p.size by rw [← HX.out]; show (p.data.toList.set k d).toArray.size = _; simp)
      rw [HX.out] at hback
      go_wp2_with fail
      refine (unseal_bad x _ (by rw [HXS.out]; exact HLN.out.1) (by rw [HXS.out]; exact HLN.out.2) (by rw [← HX.out]; exact HBAD.out)).mono ?_
      rintro e w8 ⟨rfl, hb8⟩
      have B8 := Lib.hid (B7.out.trans (hb8.mono B7.out.size))
      clear hb8 hback
      go_wp2_with fail
      refine (drawCrc_any _ a1 len1 cap1 ((R1.out.below B8.out).mono B8.out.size) HB.out).mono ?_
      rintro e w20 ⟨r, u, rfl, hu, hb20⟩
      have B20 := Lib.hid (B8.out.trans (hb20.mono B8.out.size))
      clear hb20
      by_cases hsum : 8000 < t.size + u.size
      · have hs' : (8000 : Int) < (t.size : Int) + u.size := by omega
        go_wp2_with fail
        go_ret
        exact ⟨rfl, B20.out⟩
      · have hs' : (t.size : Int) + u.size ≤ 8000 := by omega
        have HUS := Lib.hid (show u.size ≤ maxLen by unfold maxLen; omega)
        have HTS := Lib.hid (show t.size ≤ maxLen by unfold maxLen; omega)
        have hq : ¬ 9223372036854775807 < t.size + u.size := by omega
        have HON := Lib.hid (crc_join (t := t) (u := u) (by omega))
        obtain ⟨x, HX⟩ : ∃ x, Hid (crcMoreOf r u = x) := ⟨_, rfl⟩
        obtain ⟨y, HY⟩ : ∃ y, Hid (crcOf (t ++ u) = y) := ⟨_, rfl⟩
        obtain ⟨z, HZ⟩ : ∃ z, Hid (crcOf t = z) := ⟨_, rfl⟩
        clear hsum
        go_wp2_with fail
        refine (crcMore_all r u _ HUS.out).mono ?_
        rw [HX.out]
        rintro e w21 ⟨rfl, rfl⟩
        go_wp2_with fail
        refine (specCrcMore_all r u _ HUS.out).mono ?_
        rw [HX.out]
        rintro e w22 ⟨rfl, rfl⟩
        go_wp2_with fail
        refine (crc_any t _ HTS.out).mono ?_
        rw [HZ.out]
        rintro e w23 ⟨rfl, rfl⟩
        go_wp2_with fail
        refine (crcMore_all z u _ HUS.out).mono ?_
        rw [← HZ.out, HON.out, HY.out]
        rintro e w24 ⟨rfl, rfl⟩
        go_wp2_with fail
        refine (crc_any (t ++ u) _ (by rw [ByteArray.size_append]; unfold maxLen; omega)).mono ?_
        rw [HY.out]
        rintro e w25 ⟨rfl, rfl⟩
        go_wp2_with fail
        go_ret
        exact ⟨rfl, B20.out⟩

set_option maxRecDepth 100000 in
theorem lifted (os : Os) (started : os.Started) (H : Type) (enc : TypeId × Value → H) :
    ReturnsInHanded {} Try.checked os 3 .any (Rows.fnSealSpec.pre6 enc Try.prog Try.f3 Rows.fnSealRow.domain false) (Rows.fnSealSpec.post enc Try.prog Try.f3 false true false false) := by
  refine returnsInHanded_of_change (C := Try.checked) own started (by kernel_rfl) Try.func3
    (ChangeSpec.witness6 (enc := enc) (C := Try.checked) false ⟨#[], #[.slice none 0 0, .slice none 0 0], []⟩ 8 (by kernel_rfl) (by kernel_rfl) (by kernel_rfl) (by kernel_rfl)) ?_
  intro W base args ds gs before hval0 hW hcnd _
  have hval : ∀ (j : Nat) t v, Try.f3.params[j]? = some t → args[j]? = some v → Value.okWide Try.prog W .any base t v := hval0
  have hW' := hW
  obtain ⟨p, q, hA0, hV, rfl, hfz, hnd⟩ := hW
  have hA : DataW.TrodAll enc Try.prog W 0 (fun _ => true) true Try.f3.params.toList args.toList ds p := hA0
  rw [Try.params3] at hA hval
  obtain ⟨v0, vs0, d0, ds0, p0, q0, hargs, rfl, rfl, h0, r0⟩ := trodAll_cons hA
  obtain ⟨v1, vs1, d1, ds1, p1, q1, rfl, rfl, rfl, h1, r1⟩ := trodAll_cons r0
  obtain ⟨rfl, rfl, rfl⟩ := trodAll_nil r1
  obtain rfl : args = #[v0, v1] := by cases args; simp_all
  obtain ⟨rfl, rfl⟩ := trodVars_none hV
  obtain ⟨a0, len0, cap0, rfl⟩ := okWide_slice Try.underlying22 (hval 0 22 v0 rfl rfl)
  have k0 := h0
  have lt0 : ∀ x ∈ p0, x.block < W.heap.size := by obtain ⟨m, hm⟩ := k0; exact DataW.trod_lt m _ _ _ hm
  obtain ⟨z0, w0⟩ : ∃ zs, IsRow .u8 W a0 len0 cap0 zs := by
    obtain ⟨fuel, hf⟩ := h0
    rcases open_ints Try.underlying22 Try.underlying5 (by kernel_rfl) hf with ⟨hcs, _⟩ | ⟨x, l, c, zs, hcs, _, hl, hm, hz, _, hcell, hwz⟩
    · simp [Value.cells] at hcs
      obtain ⟨rfl, rfl, rfl⟩ := hcs
      exact ⟨[], .inl ⟨rfl, rfl, rfl, rfl⟩⟩
    · simp [Value.cells] at hcs
      obtain ⟨rfl, rfl, rfl⟩ := hcs
      exact ⟨zs, .inr ⟨_, rfl, hl, hm, by simpa using hz, hcell, hwz⟩⟩
  obtain ⟨a1, len1, cap1, rfl⟩ := okWide_slice Try.underlying22 (hval 1 22 v1 rfl rfl)
  have k1 := h1
  have lt1 : ∀ x ∈ p1, x.block < W.heap.size := by obtain ⟨m, hm⟩ := k1; exact DataW.trod_lt m _ _ _ hm
  obtain ⟨z1, w1⟩ : ∃ zs, IsRow .u8 W a1 len1 cap1 zs := by
    obtain ⟨fuel, hf⟩ := h1
    rcases open_ints Try.underlying22 Try.underlying5 (by kernel_rfl) hf with ⟨hcs, _⟩ | ⟨x, l, c, zs, hcs, _, hl, hm, hz, _, hcell, hwz⟩
    · simp [Value.cells] at hcs
      obtain ⟨rfl, rfl, rfl⟩ := hcs
      exact ⟨[], .inl ⟨rfl, rfl, rfl, rfl⟩⟩
    · simp [Value.cells] at hcs
      obtain ⟨rfl, rfl, rfl⟩ := hcs
      exact ⟨zs, .inr ⟨_, rfl, hl, hm, by simpa using hz, hcell, hwz⟩⟩
  clear hA0 hval0
  refine (walk a0 len0 cap0 z0 a1 len1 cap1 z1 W w0 w1).mono fun e W' ⟨he, bel⟩ => ?_
  subst he
  exact ⟨_, rfl, _, _, _, [], _, [], hW', trodAll_mk1 (shut_bool Try.underlying4 _), (trodAll_cons_mk (Below.trod laidOut (by kernel_rfl) (of_decide_eq_true (by kernel_rfl)) k0 bel lt0) (trodAll_cons_mk (Below.trod laidOut (by kernel_rfl) (of_decide_eq_true (by kernel_rfl)) k1 bel lt1) trodAll_mk0)), rfl, bel.frame _, fun h => by cases h⟩

theorem proved : Rows.FnSealSaid :=
  OpenClaim.holds_of_wide 3 Try.f3 rfl rfl rfl rfl rfl rfl rfl ⟨rfl, rfl, rfl, rfl, rfl⟩ rfl rfl rfl rfl rfl (by kernel_rfl) Try.func3 (by kernel_rfl)
    (of_decide_eq_true (by kernel_rfl)) (by unfold Func.isWrapper; first | (rw [if_pos (by decide +kernel)]; kernel_rfl) | (rw [if_neg (by decide +kernel)]; exact ⟨rfl, rfl⟩))
    (fun os started H enc _ => lifted os started H enc)
#print axioms proved
end Go.Proofs.Ytejkeoahdienmaa.fnSealL
