/- Plain: how great it is what is read. -/
import Derived.Test.YtnnjhcjalmdmcaaGreatGSr7W
import Derived.Test.YtnnjhcjalmdmcaaGreatGMkA
namespace Go.Proofs.YtnnjhcjalmdmcaaGreat
open Go.RowKit

/-- Marks of what has so many levels, seven Items on each at most. -/
def kb : Nat → Nat
  | 0 => 3
  | d + 1 => 3 + 7 * kb d
theorem kb_lo : ∀ d, 3 ≤ kb d
  | 0 => Nat.le_refl _
  | d + 1 => by unfold kb; omega
theorem coll_kb {k : Int} {B : Nat} (hB : 0 < B) : ∀ (L : List (Va × Int)) (acc : List Va), (∀ r ∈ L, r.1.mc ≤ B) → (collR k acc L).1.mc ≤ 3 + Va.mcs acc + B * L.length + B
  | [], acc, _ => by simp only [collR, Va.mc, List.length_nil]; omega
  | r :: l, acc, h => by
    unfold collR
    have h1 := h r (by simp)
    split
    · have h2 := coll_kb (k := k) hB l (acc ++ [r.1]) fun x hx => h x (by simp [hx])
      have h3 : ∀ (l : List Va) (x : Va), Va.mcs (l ++ [x]) = Va.mcs l + x.mc := fun l x => by
        induction l with
        | nil => simp [Va.mcs]
        | cons y l ih => simp only [List.cons_append, Va.mcs, ih]; omega
      rw [h3] at h2
      simp only [List.length_cons, Nat.mul_succ]
      omega
    · simp only [List.length_cons, Nat.mul_succ]; omega
theorem blank_kb : ∀ (d : Nat) (t : Sh), partOk d t = true → (blankB t).mc ≤ kb d
  | 0, t, h => by simp [partOk] at h
  | d + 1, .mk k sy na su, h => by
    simp only [partOk, Bool.and_eq_true] at h
    have hl := kb_lo d
    have key : ∀ l : List Sh, l.all (partOk d) = true → Va.mcs (blanks l) ≤ kb d * l.length := by
      intro l
      induction l with
      | nil => intro _; simp [blanks, Va.mcs]
      | cons x l ih =>
        intro hx
        simp only [List.all_cons, Bool.and_eq_true] at hx
        have h1 := blank_kb d x hx.1
        have h2 := ih hx.2
        simp only [blanks, Va.mcs, List.length_cons, Nat.mul_succ]
        omega
    have h3 := key su h.2
    have h6 : su.length ≤ 6 := by
      rcases sound_cases h.1 with ⟨_, _, _, hn⟩ | ⟨_, _, _, _, hn⟩ | ⟨_, _, _, hn⟩ | ⟨_, _, h6, _, hn⟩
      all_goals first | omega | (simp_all; done) | (simp_all; omega)
    have h4 := Nat.mul_le_mul_left (kb d) h6
    simp only [blankB, Va.mc]
    unfold kb
    split
    · omega
    · simp only [Va.mcs]; omega

theorem rd_kb : ∀ (n d1 d2 : Nat) (w r : Sh) (u : Va), partOk d1 w = true → partOk d2 r = true → fitB w u = true → (rdB n w r u).1.mc ≤ kb d2
  | 0, d1, d2, w, r, u, _, _, _ => kb_lo d2
  | n + 1, d1, d2, wt, rt, u, hpw, hpr, hf => by
    obtain ⟨d1', rfl⟩ : ∃ d, d1 = d + 1 := by cases d1 with | zero => simp [partOk] at hpw | succ d => exact ⟨d, rfl⟩
    obtain ⟨d2', rfl⟩ : ∃ d, d2 = d + 1 := by cases d2 with | zero => simp [partOk] at hpr | succ d => exact ⟨d, rfl⟩
    have hl := kb_lo d2'
    have hkb : kb (d2' + 1) = 3 + 7 * kb d2' := rfl
    have hcoll : ∀ (k : Int) (L : List (Va × Int)), L.length ≤ 6 → (∀ x ∈ L, x.1.mc ≤ kb d2') → (collR k [] L).1.mc ≤ kb (d2' + 1) := fun k L h6 h => by
      have h1 := coll_kb (k := k) (by omega) L [] h
      have h2 := Nat.mul_le_mul_left (kb d2') h6
      simp only [Va.mcs] at h1
      omega
    have hleaf : ∀ (k m : Int) (t : ByteArray), (Va.mk k m t []).mc ≤ kb (d2' + 1) := fun k m t => by simp only [Va.mc, Va.mcs]; omega
    have hz : zva.mc ≤ kb (d2' + 1) := hleaf _ _ _
    by_cases hr5 : rt.kd = 5
    · cases rt with | mk k2 sy2 na2 su2 =>
      obtain rfl : k2 = 5 := hr5
      simp only [partOk, Bool.and_eq_true] at hpr
      rcases sound_cases hpr.1 with ⟨hk, _⟩ | ⟨hk, _⟩ | ⟨_, rfl, rfl, hn⟩ | ⟨hk, _⟩
      · omega
      · omega
      · obtain ⟨x, rfl⟩ := List.length_eq_one_iff.1 hn
        have hx : partOk d2' x = true := by simpa using hpr.2
        by_cases hw5 : wt.kd = 5
        · cases wt with | mk k1 sy1 na1 su1 =>
          obtain rfl : k1 = 5 := hw5
          simp only [partOk, Bool.and_eq_true] at hpw
          rcases sound_cases hpw.1 with ⟨hk, _⟩ | ⟨hk, _⟩ | ⟨_, rfl, rfl, hn1⟩ | ⟨hk, _⟩
          · omega
          · omega
          · obtain ⟨y, rfl⟩ := List.length_eq_one_iff.1 hn1
            rw [rd_items (k := 5) (by omega) rfl rfl]
            have hm := fit_maybe hf
            refine hcoll _ _ (by rw [List.length_map]; omega) fun q hq => ?_
            obtain ⟨i, hi, rfl⟩ := List.mem_map.1 hq
            exact rd_kb n d1' d2' y x i (by simpa using hpw.2) hx (hm.2 i hi)
          · omega
        · rw [rd_wrap rfl hw5]
          refine hcoll _ _ (by simp) fun q hq => ?_
          obtain rfl := List.mem_singleton.1 hq
          exact rd_kb n (d1' + 1) d2' wt x u hpw hx hf
      · omega
    · by_cases hne : wt.kd = rt.kd
      · cases wt with | mk k1 sy1 na1 su1 =>
        cases rt with | mk k2 sy2 na2 su2 =>
        obtain rfl : k1 = k2 := hne
        simp only [partOk, Bool.and_eq_true] at hpw hpr
        rcases sound_cases hpw.1 with ⟨hk, _⟩ | ⟨rfl, _, _, _, _⟩ | ⟨hk, rfl, rfl, hn1⟩ | ⟨rfl, rfl, _, _, hl1⟩
        · rw [rd_plain (w := .mk k1 sy1 na1 su1) (r := .mk k1 sy2 na2 su2) rfl hk]; exact hleaf _ _ _
        · rw [rd_pick rfl rfl]
          unfold pickR
          split
          · exact hleaf _ _ _
          · exact hz
        · rcases hk with rfl | rfl
          · exact absurd rfl hr5
          · rcases sound_cases hpr.1 with ⟨hk, _⟩ | ⟨hk, _⟩ | ⟨_, rfl, rfl, hn2⟩ | ⟨hk, _⟩
            · omega
            · omega
            · obtain ⟨y, rfl⟩ := List.length_eq_one_iff.1 hn1
              obtain ⟨x, rfl⟩ := List.length_eq_one_iff.1 hn2
              rw [rd_items (k := 6) (by omega) rfl rfl]
              have hm := fit_list hf
              refine hcoll _ _ (by rw [List.length_map]; omega) fun q hq => ?_
              obtain ⟨i, hi, rfl⟩ := List.mem_map.1 hq
              exact rd_kb n d1' d2' y x i (by simpa using hpw.2) (by simpa using hpr.2) (hm.2 i hi)
            · omega
        · rcases sound_cases hpr.1 with ⟨hk, _⟩ | ⟨hk, _⟩ | ⟨hk, _⟩ | ⟨_, rfl, h6, _, hl2⟩
          · omega
          · omega
          · omega
          · rw [rd_rec rfl rfl]
            refine hcoll _ _ (by simp only [List.length_map, List.length_zip, Sh.na, Sh.su]; omega) fun q hq => ?_
            obtain ⟨p, hp, rfl⟩ := List.mem_map.1 hq
            have hp2 : partOk d2' p.2 = true := List.all_eq_true.1 hpr.2 _ (List.of_mem_zip hp).2
            unfold fieldR
            split
            · rename_i hpos
              have hj : (posOf na1 p.1).toNat < su1.length := by
                have := posOf_lt na1 p.1
                simp only [Sh.na] at hpos
                omega
              have hz' := fitZip_at (fit_zip hf) hj
              refine rd_kb n d1' d2' _ _ _ ?_ hp2 hz'.2
              simp only [Sh.na, Sh.su]
              rw [getD_eq hj]
              exact List.all_eq_true.1 hpw.2 _ (List.getElem_mem hj)
            · exact blank_kb d2' _ hp2
      · by_cases hw5 : wt.kd = 5
        · cases wt with | mk k1 sy1 na1 su1 =>
          obtain rfl : k1 = 5 := hw5
          simp only [partOk, Bool.and_eq_true] at hpw
          rcases sound_cases hpw.1 with ⟨hk, _⟩ | ⟨hk, _⟩ | ⟨_, rfl, rfl, hn1⟩ | ⟨hk, _⟩
          · omega
          · omega
          · obtain ⟨y, rfl⟩ := List.length_eq_one_iff.1 hn1
            rw [rd_unwrap rfl hr5]
            unfold unwrapR
            split
            · exact hz
            · rename_i h0
              refine rd_kb n d1' (d2' + 1) y rt _ (by simpa using hpw.2) hpr ((fit_maybe hf).2 _ ?_)
              cases hu : u.it with
              | nil => rw [hu] at h0; exact absurd rfl h0
              | cons a l => simp
          · omega
        · rw [rd_other hw5 hr5 hne]; exact hz
/-- .. what Resolve tells. -/
theorem resR_mc (t r : Sh) (u : Va) : 1 + Va.mcs (resR t r u).1.it ≤ 1099511627776 := by
  have h : (resR t r u).1.mc ≤ 1000000 := by
    unfold resR
    split
    · rename_i h
      simp only [Bool.and_eq_true, fitsB] at h
      exact Nat.le_trans (rd_kb 10 5 5 t r u h.2.1 h.1 h.2.2) (by decide)
    · simp [zva, Va.mc, Va.mcs]
  revert h
  generalize (resR t r u).1 = x
  cases x with | mk k n tx it =>
  simp only [Va.mc, Va.it]; omega
end Go.Proofs.YtnnjhcjalmdmcaaGreat
