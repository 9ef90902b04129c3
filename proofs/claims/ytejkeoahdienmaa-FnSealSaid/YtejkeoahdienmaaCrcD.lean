/- Plain: one byte turned turns the CRC; a text and its seal. -/
import Derived.Test.YtejkeoahdienmaaUnsealP
namespace Go.Proofs.Ytejkeoahdienmaa
open Go.RowKit

theorem bitN_inj {r r' : Nat} (h : r < 4294967296) (h' : r' < 4294967296) (e : bitN r = bitN r') : r = r' := by
  have top : ∀ q : Nat, q < 4294967296 → (q / 2).testBit 31 = false := fun q hq => Nat.testBit_lt_two_pow (by omega)
  have hp : (3988292384 : Nat).testBit 31 = true := by decide
  unfold bitN at e
  by_cases h1 : r % 2 = 1 <;> by_cases h2 : r' % 2 = 1
  · rw [if_pos h1, if_pos h2] at e
    have : r / 2 = r' / 2 := by
      have := congrArg (· ^^^ 3988292384) e
      simpa [Nat.xor_assoc, Nat.xor_self, Nat.xor_zero] using this
    omega
  · rw [if_pos h1, if_neg h2] at e
    have := congrArg (fun n => Nat.testBit n 31) e
    simp only [Nat.testBit_xor, top r h, top r' h', hp] at this
    cases this
  · rw [if_neg h1, if_pos h2] at e
    have := congrArg (fun n => Nat.testBit n 31) e
    simp only [Nat.testBit_xor, top r h, top r' h', hp] at this
    cases this
  · rw [if_neg h1, if_neg h2] at e
    omega
theorem bitsN_inj : ∀ (k : Nat) {r r' : Nat}, r < 4294967296 → r' < 4294967296 → bitsN k r = bitsN k r' → r = r'
  | 0, _, _, _, _, e => e
  | k + 1, _, _, h, h', e => bitN_inj h h' (bitsN_inj k (bitN_lt h) (bitN_lt h') e)
theorem xor_lt32 {r : Nat} (h : r < 4294967296) (c : UInt8) : r ^^^ c.toNat < 4294967296 := Nat.xor_lt_two_pow (n := 32) (by omega) (by have := u8_lt c; omega)
theorem xor_left {a b c : Nat} (e : a ^^^ b = a ^^^ c) : b = c := by
  have := congrArg (a ^^^ ·) e
  simpa [← Nat.xor_assoc, Nat.xor_self, Nat.zero_xor] using this
theorem xor_right {a b c : Nat} (e : a ^^^ c = b ^^^ c) : a = b := by
  have := congrArg (· ^^^ c) e
  simpa [Nat.xor_assoc, Nat.xor_self, Nat.xor_zero] using this
theorem byteN_inj {r r' : Nat} (h : r < 4294967296) (h' : r' < 4294967296) (c : UInt8) (e : byteN r c = byteN r' c) : r = r' :=
  xor_right (bitsN_inj 8 (xor_lt32 h c) (xor_lt32 h' c) e)
theorem byteN_byte {r : Nat} (h : r < 4294967296) (c d : UInt8) (e : byteN r c = byteN r d) : c = d :=
  UInt8.toNat_inj.1 (xor_left (bitsN_inj 8 (xor_lt32 h c) (xor_lt32 h d) e))
theorem crcN_inj : ∀ (l : List UInt8) {r r' : Nat}, r < 4294967296 → r' < 4294967296 → crcN r l = crcN r' l → r = r'
  | [], _, _, _, _, e => e
  | c :: l, _, _, h, h', e => byteN_inj h h' c (crcN_inj l (byteN_lt c h) (byteN_lt c h') e)
theorem crc_turn (l m : List UInt8) (c d : UInt8) (hcd : c ≠ d) : crcMoreN 0 (l ++ c :: m) ≠ crcMoreN 0 (l ++ d :: m) := by
  intro e
  unfold crcMoreN at e
  have h0 : flipN 0 < 4294967296 := flipN_lt (by decide)
  have hl := crcN_lt l _ h0
  have e1 : crcN (flipN 0) (l ++ c :: m) = crcN (flipN 0) (l ++ d :: m) := xor_right e
  rw [crcN_app, crcN_app] at e1
  have e2 : byteN (crcN (flipN 0) l) c = byteN (crcN (flipN 0) l) d := crcN_inj m (byteN_lt c hl) (byteN_lt d hl) e1
  exact hcd (byteN_byte hl c d e2)
theorem fourB_inj {n m : Nat} (h : n < 4294967296) (h' : m < 4294967296) (e : fourB n = fourB m) : n = m := by
  unfold fourB at e
  simp only [List.cons.injEq, and_true] at e
  obtain ⟨e0, e1, e2, e3⟩ := e
  have f : ∀ a b : Nat, UInt8.ofNat a = UInt8.ofNat b → a % 256 = b % 256 := fun a b h => by
    have := congrArg UInt8.toNat h
    rwa [UInt8.toNat_ofNat', UInt8.toNat_ofNat'] at this
  have := f _ _ e0
  have := f _ _ e1
  have := f _ _ e2
  have := f _ _ e3
  omega

theorem sealed_list {s : ByteArray} {T F : List UInt8} (h : s.data.toList = T ++ F) (hF : F.length = 4) : sealedB s = decide (fourB (crcMoreN 0 T) = F) := by
  have hz : s.size = T.length + 4 := by rw [← len_list, h]; simp [hF]
  unfold sealedB sumOf
  rw [inner_data, h, hz]
  have e1 : T.length + 4 - 4 = T.length := by omega
  rw [e1, List.take_left, List.drop_left]
theorem seal_yes {s : ByteArray} {T : List UInt8} (h : s.data.toList = T ++ fourB (crcMoreN 0 T)) : sealedB s = true := by
  rw [sealed_list h rfl]; simp
/-- One byte turned: no seal. -/
theorem seal_no {s : ByteArray} {T : List UInt8} {k : Nat} {d : UInt8} (hk : k < T.length + 4) (hd : (T ++ fourB (crcMoreN 0 T))[k]? ≠ some d) (h : s.data.toList = (T ++ fourB (crcMoreN 0 T)).set k d) : sealedB s = false := by
  have hlt : ∀ l, crcMoreN 0 l < 4294967296 := fun l => crcMoreN_lt 0 l (by decide)
  by_cases hkT : k < T.length
  · rw [List.set_append_left _ _ hkT] at h
    rw [sealed_list h rfl]
    apply decide_eq_false
    intro e
    have e1 := fourB_inj (hlt _) (hlt _) e
    have hsplit : T = T.take k ++ T[k] :: T.drop (k + 1) := by
      rw [← List.drop_eq_getElem_cons hkT, List.take_append_drop]
    have hset : T.set k d = T.take k ++ d :: T.drop (k + 1) := List.set_eq_take_append_cons_drop.trans (if_pos hkT)
    rw [hset] at e1
    have hne : d ≠ T[k] := fun hh => hd (by rw [List.getElem?_append_left hkT, List.getElem?_eq_getElem hkT, hh])
    have := crc_turn (T.take k) (T.drop (k + 1)) d T[k] hne
    rw [← hsplit] at this
    exact this e1
  · have hle : T.length ≤ k := by omega
    rw [List.set_append_right _ _ hle] at h
    rw [sealed_list h (by simp [fourB])]
    apply decide_eq_false
    intro e
    apply hd
    rw [List.getElem?_append_right hle]
    have hj : k - T.length < (fourB (crcMoreN 0 T)).length := by simp [fourB]; omega
    have := congrArg (fun l => l[k - T.length]?) e
    simp only [List.getElem?_set_self hj] at this
    exact this
end Go.Proofs.Ytejkeoahdienmaa
