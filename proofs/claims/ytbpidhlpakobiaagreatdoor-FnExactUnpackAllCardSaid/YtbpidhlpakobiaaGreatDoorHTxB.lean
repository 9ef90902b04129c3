/- Plain: the text of a shape, and its length. · Walks: bytes appended to what a call owns: impl.appendSyms. -/
import Derived.Test.YtbpidhlpakobiaaGreatDoorHKindA
import Derived.Test.YtbpidhlpakobiaaGreatDoorHRightW
import Derived.Test.YtbpidhlpakobiaaGreatDoorHOwn
import Derived.Test.YtbpidhlpakobiaaGreatDoorHEqA
import Derived.Lib.AppendStr
namespace Go.Proofs.YtbpidhlpakobiaaGreatDoor
open Go.RowKit

/-- Texts with a comma between. -/
def joinC : List (List UInt8) → List UInt8
  | [] => []
  | [a] => a
  | a :: b :: l => a ++ 44 :: joinC (b :: l)
/-- The word of a kind. -/
def kwB (k : Int) : List UInt8 :=
  if k = 1 then [102, 108, 97, 103] else if k = 2 then [110, 117, 109] else if k = 3 then [116, 101, 120, 116] else if k = 4 then [112, 105, 99, 107]
  else if k = 5 then [109, 97, 121, 98, 101] else if k = 6 then [108, 105, 115, 116] else if k = 7 then [114, 101, 99] else []
mutual
/-- The text of a shape. -/
def Sh.txt : Sh → List UInt8
  | .mk k sy na su => kwB k ++ if k < 4 then [] else 40 :: (joinC (sy.map (·.data.toList) ++ Sh.items k na su) ++ [41])
/-- The texts of what stands in one, with the names of fields. -/
def Sh.items (k : Int) (na : List ByteArray) : List Sh → List (List UInt8)
  | [] => []
  | x :: l => (if k = 7 then (na.headD ⟨#[]⟩).data.toList ++ 58 :: Sh.txt x else Sh.txt x) :: Sh.items k na.tail l
end

theorem joinC_snoc : ∀ (l : List (List UInt8)) (a : List UInt8), joinC (l ++ [a]) = joinC l ++ (if l = [] then a else 44 :: a)
  | [], a => by simp [joinC]
  | [b], a => by simp [joinC]
  | b :: c :: l, a => by
    have := joinC_snoc (c :: l) a
    simp only [List.cons_append, joinC] at this ⊢
    rw [this]; simp
theorem items_len (k : Int) : ∀ (su : List Sh) (na : List ByteArray), (Sh.items k na su).length = su.length
  | [], _ => by simp [Sh.items]
  | x :: l, na => by simp [Sh.items, items_len k l]
theorem items_take_succ (k : Int) : ∀ (su : List Sh) (na : List ByteArray) (i : Nat) (h : i < su.length), (Sh.items k na su).take (i + 1) = (Sh.items k na su).take i ++ [if k = 7 then (na.getD i ⟨#[]⟩).data.toList ++ 58 :: su[i].txt else su[i].txt]
  | [], _, _, h => by cases h
  | x :: l, na, 0, _ => by
    simp only [Sh.items, List.take_succ_cons, List.take_zero, List.nil_append, List.getElem_cons_zero]
    cases na <;> simp
  | x :: l, na, i + 1, h => by
    have ih := items_take_succ k l na.tail i (by simpa using h)
    simp only [Sh.items, List.take_succ_cons, List.getElem_cons_succ, List.cons_append]
    rw [ih]
    cases na <;> simp [List.getD]

/-- How long the text of a right shape may be. -/
def capT : Nat → Nat
  | 0 => 0
  | d + 1 => 100 + 6 * capT d
theorem joinC_len (b : Nat) : ∀ (l : List (List UInt8)), (∀ a ∈ l, a.length ≤ b) → (joinC l).length ≤ l.length * (b + 1)
  | [], _ => by simp [joinC]
  | [a], h => by have := h a (by simp); simp [joinC]; omega
  | a :: c :: l, h => by
    have h1 := h a (by simp)
    have h2 := joinC_len b (c :: l) fun x hx => h x (by simp [hx])
    simp only [joinC, List.length_append, List.length_cons] at h2 ⊢
    have e : (l.length + 1 + 1) * (b + 1) = (l.length + 1) * (b + 1) + (b + 1) := by rw [Nat.add_mul (l.length + 1) 1, Nat.one_mul]
    omega
theorem kwB_len (k : Int) : (kwB k).length ≤ 5 := by
  unfold kwB
  repeat' split
  all_goals simp

theorem words_size {l : List ByteArray} (h : wordsAll l = true) : ∀ s ∈ l, s.size ≤ 8 := by
  intro s hs
  obtain ⟨k, hk, rfl⟩ := List.mem_iff_getElem.1 hs
  have := (List.all_eq_true.1 h) k (List.mem_range.2 hk)
  unfold okAt wordOk at this
  rw [getD_at hk] at this
  simp only [Bool.and_eq_true, decide_eq_true_iff] at this
  have := this.1.1.2
  rw [len_list] at this
  exact this
theorem items_le (k : Int) (b : Nat) : ∀ (su : List Sh) (na : List ByteArray), (∀ x ∈ su, x.txt.length ≤ b) → (∀ s ∈ na, s.size ≤ 8) → ∀ a ∈ Sh.items k na su, a.length ≤ b + 9
  | [], _, _, _ => by intro a ha; simp [Sh.items] at ha
  | x :: l, na, h1, h2 => by
    intro a ha
    simp only [Sh.items, List.mem_cons] at ha
    rcases ha with rfl | ha
    · have hx := h1 x (by simp)
      have hn : (na.headD ⟨#[]⟩).data.toList.length ≤ 8 := by
        cases na with
        | nil => simp
        | cons s na => have := h2 s (by simp); simpa using this
      split
      · simp only [List.length_append, List.length_cons]; omega
      · omega
    · exact items_le k b l na.tail (fun y hy => h1 y (by simp [hy])) (fun s hs => h2 s (List.mem_of_mem_tail hs)) a ha
/-- What a right shape's kind asks. -/
theorem sound_cases {k : Int} {sy na : List ByteArray} {n : Nat} (h : soundOf k sy na n = true) :
    (k = 1 ∨ k = 2 ∨ k = 3) ∧ sy = [] ∧ na = [] ∧ n = 0 ∨ k = 4 ∧ 0 < sy.length ∧ sy.length ≤ 6 ∧ wordsAll sy = true ∧ na = [] ∧ n = 0 ∨ (k = 5 ∨ k = 6) ∧ sy = [] ∧ na = [] ∧ n = 1 ∨ k = 7 ∧ sy = [] ∧ na.length ≤ 6 ∧ wordsAll na = true ∧ n = na.length := by
  unfold soundOf wordsOk at h
  by_cases h1 : k = 1 ∨ k = 2 ∨ k = 3
  · rw [if_pos h1] at h; simp at h; exact .inl ⟨h1, h⟩
  · rw [if_neg h1] at h
    by_cases h4 : k = 4
    · rw [if_pos h4] at h; simp only [Bool.and_eq_true, decide_eq_true_iff] at h
      exact .inr (.inl ⟨h4, h.1, h.2.1.1, h.2.1.2, List.eq_nil_of_length_eq_zero h.2.2.1, h.2.2.2⟩)
    · rw [if_neg h4] at h
      by_cases h5 : k = 5 ∨ k = 6
      · rw [if_pos h5] at h; simp at h; exact .inr (.inr (.inl ⟨h5, h⟩))
      · rw [if_neg h5] at h
        by_cases h7 : k = 7
        · rw [if_pos h7] at h; simp only [Bool.and_eq_true, decide_eq_true_iff] at h
          exact .inr (.inr (.inr ⟨h7, List.eq_nil_of_length_eq_zero h.1, h.2.1.1, h.2.1.2, h.2.2⟩))
        · rw [if_neg h7] at h; cases h
theorem txt_len (d : Nat) : ∀ t : Sh, partOk d t = true → t.txt.length ≤ capT d := by
  induction d with
  | zero => intro t h; simp [partOk] at h
  | succ d ih =>
    intro t h
    cases t with | mk k sy na su =>
    simp only [partOk, Bool.and_eq_true] at h
    have hs := h.2
    have hk := kwB_len k
    have hsu : ∀ x ∈ su, x.txt.length ≤ capT d := fun x hx => ih x (List.all_eq_true.1 hs x hx)
    simp only [Sh.txt, List.length_append]
    have key : ∀ L : List (List UInt8), L.length ≤ 6 → (∀ a ∈ L, a.length ≤ capT d + 9) → (joinC L).length ≤ 6 * (capT d + 10) := fun L h1 h2 => by
      have := joinC_len (capT d + 9) L h2
      exact Nat.le_trans this (Nat.mul_le_mul_right _ h1)
    have fin : (if k < 4 then ([] : List UInt8) else 40 :: (joinC (sy.map (·.data.toList) ++ Sh.items k na su) ++ [41])).length ≤ 2 + 6 * (capT d + 10) := by
      split
      · simp
      · have : (joinC (sy.map (·.data.toList) ++ Sh.items k na su)).length ≤ 6 * (capT d + 10) := by
          rcases sound_cases h.1 with ⟨_, rfl, rfl, hn⟩ | ⟨_, _, h6, hw, rfl, hn⟩ | ⟨_, rfl, rfl, hn⟩ | ⟨_, rfl, h6, hw, hn⟩
          · exact key _ (by simp [items_len, hn]) (fun a ha => items_le k (capT d) su [] hsu (by simp) a (by simpa using ha))
          · have := List.eq_nil_of_length_eq_zero hn
            subst this
            refine key _ (by simp [Sh.items]; omega) (fun a ha => ?_)
            simp only [Sh.items, List.append_nil, List.mem_map] at ha
            obtain ⟨s, hs, rfl⟩ := ha
            have := words_size hw s hs
            simp only [Array.length_toList]
            show s.size ≤ _
            omega
          · exact key _ (by simp [items_len, hn]) (fun a ha => items_le k (capT d) su [] hsu (by simp) a (by simpa using ha))
          · exact key _ (by simp [items_len, hn]; omega) (fun a ha => items_le k (capT d) su na hsu (words_size hw) a (by simpa using ha))
        simp only [List.length_cons, List.length_append, List.length_nil]
        omega
    simp only [capT]
    omega
end Go.Proofs.YtbpidhlpakobiaaGreatDoor
namespace Go.Proofs.YtbpidhlpakobiaaGreatDoor
open Go.RowKit

/-- What is no row of bytes stays. -/
def Kept (w w' : World) : Prop := ∀ (q : Nat) (ob : Obj), w.heap[q]? = some ob → (∀ cur, ob ≠ .cells cur 5 (0, 0)) → w'.heap[q]? = some ob
theorem Kept.refl (w : World) : Kept w w := fun _ _ h _ => h
theorem Kept.trans {a b c : World} (h : Kept a b) (k : Kept b c) : Kept a c := fun q ob ho hn => k q ob (h q ob ho hn) hn
theorem Kept.below {w w' : World} (h : Below w.heap.size w w') : Kept w w' := fun q ob ho _ => by
  rw [h.block q (Array.getElem?_eq_some_iff.1 ho).1]; exact ho

theorem grow_other {W W1 w' : World} {base T sz n : Nat} {v : Value} {xs : List Value} (hown : W.ownsRow base T sz v n xs) (hb : Below W.heap.size W W1) (hg : W1.grownBy w' v.ownBlock) :
    ∀ (q : Nat) (ob : Obj), W.heap[q]? = some ob → (∀ cur, ob ≠ .cells cur T (0, 0)) → w'.heap[q]? = some ob := by
  intro q ob hq hne
  have hlt := (Array.getElem?_eq_some_iff.1 hq).1
  rw [hg.block q (Nat.lt_of_lt_of_le hlt hb.size) (fun e => by
    rcases hown.2 with ⟨hv, _⟩ | ⟨g, cap, cur, hv, _, hgg, _⟩
    · rw [hv] at e; cases e
    · rw [hv] at e
      simp [Value.ownBlock] at e
      subst e
      rw [hq] at hgg
      exact hne cur (Option.some.inj hgg)), hb.block q hlt]
  exact hq
set_option maxRecDepth 100000 in
/-- append(v, t...), t a string: what else there is stays. -/
theorem wpList_strK {ops : Array Oper} {rest : List Oper} {o : Oper} {a : Act} {Q : Exit → Act → World → Prop} (W : World) (hgd : o.guard = none) (s x : Operand)
    (ho : o.op = .call { callee := .builtin .append, args := #[s, x], argTypes := #[22, 9] })
    (base : Nat) (v : Value) (l : List UInt8) (t : ByteArray) (hs : a.eval s = v) (hown : OwnB W base v l) (hx : a.eval x = .string t)
    (hl : l.length + t.size < 70368744177664) (hbase : base ≤ W.heap.size)
    (h : ∀ v' w', OwnB w' base v' (l ++ t.data.toList) → (∀ B w0, Below B w0 W → B ≤ base → Below B w0 w') → Kept W w' → wpList Tryz.prog ops Q rest (a.put o.dst v') w') :
    wpList Tryz.prog ops Q (o :: rest) a W := by
  obtain ⟨i0, hi, hz0, hz1, hz2⟩ := info_parts u8_info
  refine Lib.wpList_append_own_string W hgd s x _ _ ho base 5 i0 Tryz.underlying22 Tryz.underlying9 hi hz0 hz1 hz2 v l.length (cellsB l) hs hown t hx (by unfold maxLen; omega) (by omega) hbase ?_
  intro v' w' hown' hgrow _
  refine h v' w' ?_ (fun B w0 hb hB => ?_) (grow_other hown (Below.refl _ _) hgrow)
  · have e : cellsB l ++ Lib.strCells t = cellsB (l ++ t.data.toList) := by simp [cellsB, Lib.strCells]
    rw [e] at hown'
    show w'.ownsRow base _ 1 v' (l ++ t.data.toList).length _
    have e2 : (l ++ t.data.toList).length = l.length + t.size := by simp
    rw [e2]; exact hown'
  · refine hb.grown hgrow (by omega) fun k hk => ?_
    have := hown.lt k hk
    omega
/-- append(v, c), c in a new cell: what else there is stays. -/
theorem wpList_byteK {ops : Array Oper} {rest : List Oper} {o : Oper} {a : Act} {Q : Exit → Act → World → Prop} (W : World) (hgd : o.guard = none) (s x : Operand)
    (ho : o.op = .call { callee := .builtin .append, args := #[s, x], argTypes := #[22, 22] })
    (base : Nat) (v : Value) (l : List UInt8) (n : Int) (c : UInt8) (hs : a.eval s = v) (hown : OwnB W base v l) (hx : a.eval x = .slice (some ⟨W.heap.size, 0, none⟩) 1 1)
    (hn : n = (c.toNat : Int)) (hl : l.length < 70368744177664) (hbase : base ≤ W.heap.size)
    (h : ∀ v' w', OwnB w' base v' (l ++ [c]) → (∀ B w0, Below B w0 W → B ≤ base → Below B w0 w') → Kept W w' → wpList Tryz.prog ops Q rest (a.put o.dst v') w') :
    wpList Tryz.prog ops Q (o :: rest) a (W.alloc (.cells #[.int .u8 n] 5)) := by
  obtain ⟨i0, hi, hz0, hz1, hz2⟩ := info_parts u8_info
  subst hn
  refine wpList_append_own _ hgd s x _ ho base 5 i0 (.int .u8 0) 1 1 Tryz.underlying22 hi hz0 hz1 hz2 rfl (by decide) v l.length (cellsB l) hs (hown.alloc _) ⟨W.heap.size, 0, none⟩ 1 1 [.int .u8 (c.toNat : Int)] hx rfl ?_ ?_ (by unfold maxLen; omega) (by omega) (by simp; omega) ?_
  · intro j u hj
    match j, hj with
    | 0, hj => simp at hj; subst hj; simp [Addr.add]
  · intro u hu; simp at hu; subst hu; rfl
  · intro v' w' hown' hgrow _
    refine h v' w' (by simpa [OwnB, cellsB] using hown') (fun B w0 hb hB => ?_) (grow_other hown (below_alloc _ _) hgrow)
    have h2 := hb.alloc (show B ≤ W.heap.size by omega) (.cells #[.int .u8 (c.toNat : Int)] 5)
    refine h2.grown hgrow (by simp; omega) fun k hk => ?_
    have := hown.lt k hk
    omega
/-- What an append to what the caller owns leaves. -/
def AppPost (w0 w : World) (l : List UInt8) (e : Ending) (w' : World) : Prop :=
  ∃ p n m, e = .returned (.slice p n m) ∧ OwnB w' w0.heap.size (.slice p n m) l ∧ Below w0.heap.size w0 w' ∧ w.heap.size ≤ w'.heap.size ∧ Kept w w'

theorem OwnB.slice {w : World} {base : Nat} {v : Value} {l : List UInt8} (h : OwnB w base v l) : ∃ p n m, v = .slice p n m := by
  rcases h.shape with ⟨rfl, _⟩ | ⟨g, cap, rfl, _⟩
  · exact ⟨_, _, _, rfl⟩
  · exact ⟨_, _, _, rfl⟩
theorem joinC_take0 {sy : List ByteArray} {k : Nat} (h : k < sy.length) {l L : List UInt8} (hL : L = l ++ joinC ((sy.take k).map (·.data.toList))) (h0 : k = 0) : L ++ sy[k].data.toList = l ++ joinC ((sy.take (k + 1)).map (·.data.toList)) := by
  rw [List.take_succ_eq_append_getElem h, List.map_append, List.map_cons, List.map_nil, joinC_snoc, hL]
  subst h0; simp [joinC]
theorem joinC_take1 {sy : List ByteArray} {k : Nat} (h : k < sy.length) {l L : List UInt8} (hL : L = l ++ joinC ((sy.take k).map (·.data.toList))) (h0 : ¬ k = 0) : (L ++ [44]) ++ sy[k].data.toList = l ++ joinC ((sy.take (k + 1)).map (·.data.toList)) := by
  rw [List.take_succ_eq_append_getElem h, List.map_append, List.map_cons, List.map_nil, joinC_snoc, hL]
  rw [if_neg (by intro he; simp at he; rcases he with he | he; exact h0 he; rw [he] at h; cases h)]
  simp

theorem joinC_take_len (sy : List ByteArray) (hs : ∀ s ∈ sy, s.size ≤ 8) (h6 : sy.length ≤ 6) (k : Nat) : (joinC ((sy.take k).map (·.data.toList))).length ≤ 54 := by
  have h1 := joinC_len 8 ((sy.take k).map (·.data.toList)) (fun a ha => by
    obtain ⟨s, hs', rfl⟩ := List.mem_map.1 ha
    have := hs s (List.mem_of_mem_take hs')
    rw [Array.length_toList]; exact this)
  have h2 : ((sy.take k).map (·.data.toList)).length ≤ 6 := by rw [List.length_map]; exact Nat.le_trans (by rw [List.length_take]; omega) h6
  have := Nat.mul_le_mul_right (8 + 1) h2
  omega

set_option maxHeartbeats 1000000 in
theorem appSyms_any (w0 w : World) (v u : Value) (l : List UInt8) (sy : List ByteArray) (h : IsStrs w0 u sy) (hb : Below w0.heap.size w0 w) (ho : OwnB w w0.heap.size v l) (hl : l.length ≤ 1099511627776) (hs8 : ∀ s ∈ sy, s.size ≤ 8) (h6 : sy.length ≤ 6) :
    Calls Tryz.prog 131 #[v, u] w (AppPost w0 w (l ++ joinC (sy.map (·.data.toList)))) := by
  obtain ⟨h1, h2, a, cap, rfl, h3, h4, g6⟩ := h
  have H6 := Lib.hid g6
  have HO := Lib.hid ho
  have HB := Lib.hid hb
  have HS8 := Lib.hid hs8
  have HL := Lib.hid (joinC_take_len sy hs8 h6)
  obtain ⟨p, n, m, rfl⟩ := ho.slice
  clear g6 ho hb h2 hs8 h6
  go_enter Tryz.func131, Tryz.ntmps131
  go_wp2_with fail
  go_loopw [0, 9] (fun o i wr => ∃ (k : Nat) (p : Option Addr) (n m : Nat) (L : List UInt8), k ≤ sy.length ∧ i = .int .i64 k ∧ o = .slice p n m ∧ Hid (L = l ++ joinC ((sy.take k).map (·.data.toList))) ∧ Hid (OwnB wr w0.heap.size (.slice p n m) L) ∧ Hid (Below w0.heap.size w0 wr) ∧ Hid (w.heap.size ≤ wr.heap.size) ∧ Hid (Kept w wr)) (fun _ i _ => sy.length - (intOf i).toNat)
  case atStart => exact ⟨0, p, n, m, l, Nat.zero_le _, rfl, rfl, by show _ = _; simp [joinC], HO.out, HB.out, Nat.le_refl _, Kept.refl _⟩
  case round =>
    obtain ⟨k, p, n, m, L, hk, rfl, rfl, HE, HP, HBr, HZ, HKe⟩ := hrel
    by_cases hlt : k < sy.length
    · obtain ⟨b, off, rfl, hc⟩ := IsStrs.at H6.out hlt
      have g0 := Keeps.of_below HBr.out _ _ _ hc
      have HS := Lib.hid (HS8.out sy[k] (List.getElem_mem hlt))
      have HLen : Hid (L.length ≤ 1099511627776 + 54) := by show _ ≤ _; rw [HE.out, List.length_append]; have := HL.out k; omega
      clear hc
      by_cases h0 : k = 0
      · have HJ := Lib.hid (joinC_take0 hlt HE.out h0)
        have b0 : (k : Int) ≤ 0 := by omega
        clear h0
        go_wp2_with (at_builtin; go_must (refine wpList_strK wr rfl (.tmp 19) (.tmp 20) rfl w0.heap.size _ L sy[k] rfl HP.out rfl (by have := HLen.out; have := HS.out; omega) HBr.out.size ?_))
        intro v' w1 hv' hb1 hk1
        have HK1 := Lib.hid (HKe.out.trans hk1)
        obtain ⟨p', n', m', rfl⟩ := hv'.slice
        have HP1 := Lib.hid hv'
        have HB1 := Lib.hid (hb1 _ _ HBr.out (Nat.le_refl _))
        have HZ1 : Hid (w.heap.size ≤ w1.heap.size) := Nat.le_trans HZ.out (hb1 0 wr (Below.refl _ _) (Nat.zero_le _)).size
        clear hv' hb1 hk1
        go_wp2_with fail
        go_roundw
        case rel => exact ⟨k + 1, p', n', m', _, hlt, by go_num, rfl, HJ.out, HP1.out, HB1.out, HZ1.out, HK1.out⟩
        case measure => simp [intOf]; omega
      · have HJ := Lib.hid (joinC_take1 hlt HE.out h0)
        have b0 : (0 : Int) < (k : Int) := by omega
        clear h0
        go_wp2_with (at_builtin; go_must (refine wpList_byteK wr rfl (.tmp 16) (.tmp 17) rfl w0.heap.size _ L 44 44 rfl HP.out rfl rfl (by have := HLen.out; omega) HBr.out.size ?_))
        intro v' w1 hv' hb1 hk1
        have HK1 := Lib.hid (HKe.out.trans hk1)
        obtain ⟨p', n', m', rfl⟩ := hv'.slice
        obtain ⟨L1, hL1⟩ : ∃ L1, L1 = L ++ [44] := ⟨_, rfl⟩
        rw [← hL1] at hv'
        have HL1 := Lib.hid hL1
        have HP1 := Lib.hid hv'
        have HB1 := Lib.hid (hb1 _ _ HBr.out (Nat.le_refl _))
        have HZ1 : Hid (w.heap.size ≤ w1.heap.size) := Nat.le_trans HZ.out (hb1 0 wr (Below.refl _ _) (Nat.zero_le _)).size
        clear hv' hb1 hL1 hk1
        go_wp2_with (at_builtin; go_must (refine wpList_strK w1 rfl (.tmp 19) (.tmp 20) rfl w0.heap.size _ L1 sy[k] rfl HP1.out rfl (by have := HLen.out; have := HS.out; have := HL1.out; rw [this, List.length_append]; simp; omega) HB1.out.size ?_))
        intro v' w2 hv' hb2 hk2
        have HK2 := Lib.hid (HK1.out.trans hk2)
        obtain ⟨p'', n'', m'', rfl⟩ := hv'.slice
        have HP2 := Lib.hid hv'
        have HB2 := Lib.hid (hb2 _ _ HB1.out (Nat.le_refl _))
        have HZ2 : Hid (w.heap.size ≤ w2.heap.size) := Nat.le_trans HZ1.out (hb2 0 w1 (Below.refl _ _) (Nat.zero_le _)).size
        clear hv' hb2 hk2
        go_wp2_with fail
        go_roundw
        case rel => exact ⟨k + 1, p'', n'', m'', _, hlt, by go_num, rfl, by show _ = _; rw [HL1.out]; exact HJ.out, HP2.out, HB2.out, HZ2.out, HK2.out⟩
        case measure => simp [intOf]; omega
    · obtain rfl : k = sy.length := by omega
      go_wp2_with fail
      go_ret
      have h := HP.out
      rw [HE.out, List.take_length] at h
      exact ⟨p, n, m, rfl, h, HBr.out, HZ.out, HKe.out⟩
end Go.Proofs.YtbpidhlpakobiaaGreatDoor
