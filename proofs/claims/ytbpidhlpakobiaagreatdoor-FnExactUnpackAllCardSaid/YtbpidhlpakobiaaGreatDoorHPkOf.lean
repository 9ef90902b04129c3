/- The map of what packs, by the texts of shapes: what is looked up, and what comes in. · Laws: where an append's row lies. · What makes things out of shapes, each kept by the text of its shape: what they are good for, and in which worlds. · Walks: what is kept by the text of its shape: (impl.packers).of, all, made. · Walks: (impl.packers).all. -/
import Derived.Test.YtbpidhlpakobiaaGreatDoorHBase
import Derived.Test.YtbpidhlpakobiaaGreatDoorHFrame
import Derived.WalkKit
import Derived.Below
import Derived.Laws.IdiomMaps
import Derived.LaidEqlPtr
import Derived.Test.YtbpidhlpakobiaaGreatDoorHOwnA
import Derived.Maps.AppendAt
import Derived.Test.YtbpidhlpakobiaaGreatDoorHMarkTW
import Derived.Test.YtbpidhlpakobiaaGreatDoorHRdA
import Derived.Test.YtbpidhlpakobiaaGreatDoorHAppB
import Derived.Laws.EntriesVeiled
import Derived.Test.YtbpidhlpakobiaaGreatDoorHKindA
import Derived.OwnWalk
namespace Go.Proofs.YtbpidhlpakobiaaGreatDoor
open Go.RowKit

/-- The world with another map in block b. -/
def mapPut (w : World) (b : Nat) (o : Obj) : World := { w with heap := w.heap.setIfInBounds b o }
theorem mapPut_same (w : World) (b : Nat) (o : Obj) (h : b < w.heap.size) : (mapPut w b o).heap[b]? = some o := by
  show (w.heap.setIfInBounds b o)[b]? = _
  simp [h]
theorem mapPut_other (w : World) (b g : Nat) (o : Obj) (h : g ≠ b) : (mapPut w b o).heap[g]? = w.heap[g]? := by
  show (w.heap.setIfInBounds b o)[g]? = _
  rw [Array.getElem?_setIfInBounds, if_neg (fun e => h e.symm)]
theorem mapPut_size (w : World) (b : Nat) (o : Obj) : (mapPut w b o).heap.size = w.heap.size := by
  show (w.heap.setIfInBounds b o).size = _
  simp
theorem mapPut_below {B : Nat} {a w : World} (h : Below B a w) {b : Nat} (hb : B ≤ b) (o : Obj) : Below B a (mapPut w b o) :=
  h.trans ⟨rfl, rfl, rfl, Nat.le_of_eq (mapPut_size _ _ _).symm, fun k hk => mapPut_other _ _ _ _ (by omega)⟩

/-- Entries whose keys are texts, each with a value that is good for its text. -/
def Good (Q : ByteArray → Value → Prop) (es : List MapEntry) : Prop := ∀ e ∈ es, ∃ T, e.key = .string T ∧ Q T e.val
theorem Good.mono {Q R : ByteArray → Value → Prop} {es : List MapEntry} (h : Good Q es) (hq : ∀ T v, Q T v → R T v) : Good R es := fun e he => by
  obtain ⟨T, h1, h2⟩ := h e he
  exact ⟨T, h1, hq _ _ h2⟩
theorem ba_beq (a b : ByteArray) : (a == b) = (a.data == b.data) := by cases a; cases b; rfl
theorem ba_beq_self (a : ByteArray) : (a == a) = true := by rw [ba_beq]; simp
theorem ba_beq_ne {a b : ByteArray} (h : ¬ a = b) : (a == b) = false := by
  rw [ba_beq, beq_eq_false_iff_ne]
  exact fun e => h (ByteArray.ext e)
theorem find_text {Q : ByteArray → Value → Prop} (k : ByteArray) : ∀ (es : List MapEntry) (i : Nat), Good Q es →
    Instr.findNow .string (.string k) es i = some none ∨ ∃ j e, Instr.findNow .string (.string k) es i = some (some (i + j, e.val)) ∧ es[j]? = some e ∧ e.key = .string k ∧ Q k e.val
  | [], i, _ => .inl rfl
  | e :: es, i, h => by
    obtain ⟨T, h1, h2⟩ := h e (by simp)
    by_cases ht : k = T
    · subst ht
      refine .inr ⟨0, e, ?_, rfl, h1, h2⟩
      simp [Instr.findNow, Instr.sameNow, h1, ba_beq_self]
    · have hb : (k == T) = false := ba_beq_ne ht
      rcases find_text k es (i + 1) (fun x hx => h x (by simp [hx])) with ih | ⟨j, x, ih, h3, h4, h5⟩
      · refine .inl ?_
        simp [Instr.findNow, Instr.sameNow, h1, hb, ih]
      · refine .inr ⟨j + 1, x, ?_, by simpa using h3, h4, h5⟩
        simp [Instr.findNow, Instr.sameNow, h1, hb, ih]
        omega
theorem good_push {Q : ByteArray → Value → Prop} {es : Array MapEntry} (h : Good Q es.toList) {k : ByteArray} {v : Value} (hq : Q k v) (c : Nat) : Good Q (es.push { key := .string k, val := v, born := c }).toList := by
  intro e he
  rw [Array.toList_push] at he
  rcases List.mem_append.1 he with he | he
  · exact h e he
  · simp at he; subst he; exact ⟨k, rfl, hq⟩
theorem good_modify {Q : ByteArray → Value → Prop} {es : Array MapEntry} (h : Good Q es.toList) {k : ByteArray} {v : Value} (hq : Q k v) (j : Nat) : Good Q (es.modify j fun e => { e with key := .string k, val := v }).toList := by
  intro e he
  obtain ⟨i, hi, rfl⟩ := List.mem_iff_getElem.1 he
  rw [Array.getElem_toList, Array.getElem_modify]
  split
  · exact ⟨k, rfl, hq⟩
  · exact h _ (by rw [← Array.getElem_toList]; exact List.getElem_mem _)
theorem check_text (w : World) (b0 : Bool) (k : ByteArray) : (Instr.checkKey b0 10000 9 (.string k)).run Tryz.prog w = .ok () w := by
  kernel_rfl
theorem key_text (w : World) (k : ByteArray) (es : List MapEntry) (r : Option (Nat × Value)) (h : Instr.findNow .string (.string k) es 0 = some r) : (Instr.findKey 9 (.string k) es).run Tryz.prog w = .ok r w := by
  unfold Instr.findKey
  simp [run_underlying Tryz.underlying9, h]
theorem lookup_text {Q : ByteArray → Value → Prop} (w : World) (mb : Nat) (es : Array MapEntry) (clock : Nat) (k : ByteArray) (hm : w.heap[mb]? = some (.map es clock)) (h : Good Q es.toList) :
    (Instr.lookup 88 (.map (some mb)) (.string k) true).run Tryz.prog w = .ok (.tuple #[.agg #[.nilFunc, .nilFunc], .bool false]) w ∨
    ∃ v, Q k v ∧ (Instr.lookup 88 (.map (some mb)) (.string k) true).run Tryz.prog w = .ok (.tuple #[v, .bool true]) w := by
  have hz : (zeroValue 86).run Tryz.prog w = .ok (.agg #[.nilFunc, .nilFunc]) w := by kernel_rfl
  rcases find_text k es.toList 0 h with hf | ⟨j, e, hf, _, _, hq⟩
  · refine .inl ?_
    unfold Instr.lookup
    simp [run_underlying Tryz.underlying88, MapKept.run_getObj_map hm, check_text, key_text w k es.toList _ hf, hz]
  · refine .inr ⟨e.val, hq, ?_⟩
    unfold Instr.lookup
    simp [run_underlying Tryz.underlying88, MapKept.run_getObj_map hm, check_text, key_text w k es.toList _ hf]
theorem update_text {Q : ByteArray → Value → Prop} (w : World) (mb : Nat) (es : Array MapEntry) (clock : Nat) (k : ByteArray) (v : Value) (hm : w.heap[mb]? = some (.map es clock)) (h : Good Q es.toList) (hq : Q k v) :
    ∃ es' clock', (Instr.mapUpdate 88 (.map (some mb)) (.string k) v).run Tryz.prog w = .ok () (mapPut w mb (.map es' clock')) ∧ Good Q es'.toList := by
  rcases find_text k es.toList 0 h with hf | ⟨j, e, hf, hj, he, _⟩
  · refine ⟨es.push { key := .string k, val := v, born := clock }, clock + 1, ?_, good_push h hq clock⟩
    unfold Instr.mapUpdate
    simp [run_underlying Tryz.underlying88, MapKept.run_getObj_map hm, check_text, key_text w k es.toList _ hf, MapKept.run_setObj_map _ hm, mapPut]
  · rw [Nat.zero_add] at hf
    refine ⟨es.modify j fun e => { e with key := .string k, val := v }, clock, ?_, good_modify h hq j⟩
    have hj' : (Option.map (fun x : MapEntry => x.key) es[j]?).getD (.string k) = .string k := by
      have : es[j]? = some e := by simpa using hj
      rw [this]; simpa using he
    have hsb : Instr.sameBits 10000 (.string k) (.string k) = true := by simp [Instr.sameBits, ba_beq_self]
    unfold Instr.mapUpdate
    simp [run_underlying Tryz.underlying88, MapKept.run_getObj_map hm, check_text, key_text w k es.toList _ hf, MapKept.run_setObj_map _ hm, mapPut, Instr.keyThatStays, hj', hsb]
end Go.Proofs.YtbpidhlpakobiaaGreatDoor
namespace Go.Proofs.YtbpidhlpakobiaaGreatDoor
open Go.RowKit

theorem wp_append_own_at {P : Program} {w : World} {o : Oper} {a : Act} {K : Act → World → Prop} {Q : Exit → Act → World → Prop} (s x : Operand) (t : TypeId)
    (ho : o.op = .call { callee := .builtin .append, args := #[s, x], argTypes := #[t, t] })
    (base : Nat) (e : TypeId) (i : TypeInfo) (z : Value) (size bytes : Nat) (ht : P.underlying t = some (.slice e)) (hi : P.info? e = some i) (hz : i.zero = some z)
    (hsize : i.size = size) (hby : i.bytes = bytes) (hzs : z.cells.size = size) (hsz : 0 < size)
    (v : Value) (n : Nat) (xs : List Value) (hs : a.eval s = v) (hown : w.ownsRow base e size v n xs)
    (ad : Addr) (m c : Nat) (news : List Value) (hx : a.eval x = .slice (some ad) m c) (hl : news.length = m * size) (hnews : ∀ j u, news[j]? = some u → w.cell? (ad.add j) = some u) (h1 : ∀ u ∈ news, u.oneCell' = true)
    (h63 : n + m ≤ maxLen) (hbytes : (n + m) * bytes ≤ 140737488355328) (hbase : base ≤ w.heap.size)
    (h : ∀ v' w', w'.ownsRow base e size v' (n + m) (xs ++ news) → w.grownBy w' v.ownBlock → (v'.ownBlock = v.ownBlock ∨ v'.ownBlock = some w.heap.size) → K (a.put o.dst v') w') :
    Oper.wp P o a w K Q := by
  obtain ⟨v', w', hr, h2, h3, _, h5⟩ := run_append_own_at (P := P) w base t o.type e i z size bytes ht hi hz hsize hby hzs hsz v n xs hown ad m c news hl hnews h1 h63 hbytes hbase
  unfold Oper.wp execOp
  simp only [ho, resolve, invoke, builtin, Sem.run_bind, Sem.run_pure, Result.andThen_ok, List.map_toArray, List.map_cons, List.map_nil, hs, hx, hr]
  exact h v' w' h2 h3 h5

theorem own_slice' {w : World} {B T sz n : Nat} {v : Value} {xs : List Value} (h : w.ownsRow B T sz v n xs) : ∃ p cap, v = .slice p n cap := by
  rcases h.2 with ⟨rfl, rfl⟩ | ⟨g, cap, cur, rfl, _⟩
  · exact ⟨none, 0, rfl⟩
  · exact ⟨_, _, rfl⟩
theorem ownBlock_blk {w : World} {B T sz n : Nat} {v : Value} {xs : List Value} (h : w.ownsRow B T sz v n xs) : ∀ q, v.ownBlock = some q ↔ q ∈ blkOf v := by
  intro q
  rcases h.2 with ⟨rfl, _⟩ | ⟨g, cap, cur, rfl, _⟩
  · simp [Value.ownBlock, blkOf]
  · simp [Value.ownBlock, blkOf]; exact eq_comm

end Go.Proofs.YtbpidhlpakobiaaGreatDoor
namespace Go.Proofs.YtbpidhlpakobiaaGreatDoor
open Go.RowKit

/-- Of what was there, only the blocks of X may have changed. -/
def Stab (X : Nat → Prop) (w w' : World) : Prop := w.heap.size ≤ w'.heap.size ∧ ∀ g, g < w.heap.size → ¬ X g → w'.heap[g]? = w.heap[g]?
theorem Stab.refl (X : Nat → Prop) (w : World) : Stab X w w := ⟨Nat.le_refl _, fun _ _ _ => rfl⟩
theorem Stab.of_below {X : Nat → Prop} {w w' : World} (h : Below w.heap.size w w') : Stab X w w' := ⟨h.size, fun g hg _ => h.block g hg⟩
theorem Stab.of_only {X : Nat → Prop} {F : List Nat} {w w' : World} (h : Only F w w') (hF : ∀ g ∈ F, X g) : Stab X w w' := ⟨h.size, fun g hg hx => h.block g hg fun hf => hx (hF g hf)⟩
theorem Stab.trans {X : Nat → Prop} {a b c : World} (h : Stab X a b) (k : Stab X b c) : Stab X a c :=
  ⟨Nat.le_trans h.1 k.1, fun g hg hx => (k.2 g (Nat.lt_of_lt_of_le hg h.1) hx).trans (h.2 g hg hx)⟩
/-- What is stable outside X is so outside Y, where Y is no more, but for what is new. -/
theorem Stab.back {X Y : Nat → Prop} {w w' w0 : World} (h : Stab X w w') (k : Stab Y w' w0) (hy : ∀ g, Y g → X g ∨ w.heap.size ≤ g) : Stab X w w0 :=
  ⟨Nat.le_trans h.1 k.1, fun g hg hx => (k.2 g (Nat.lt_of_lt_of_le hg h.1) fun y => by rcases hy g y with a | a; exact hx a; omega).trans (h.2 g hg hx)⟩
/-- .. keeps the cells that lie below all of X. -/
theorem Stab.keeps {X : Nat → Prop} {z w w' : World} (h : Stab X w w') (hz : Below z.heap.size z w) (hx : ∀ g, X g → z.heap.size ≤ g) : Keeps z w' := fun b o c hc => by
  have hb : b < z.heap.size := World.block_lt_of_cell? z ⟨b, o, none⟩ hc
  have e : w'.heap[b]? = z.heap[b]? := (h.2 b (Nat.lt_of_lt_of_le hb hz.size) fun x => by have := hx b x; omega).trans (hz.block b hb)
  unfold World.cell? at hc ⊢
  simp only at hc ⊢
  rw [e]; exact hc

/-- What holds of the blocks that may change, and of the map's. -/
structure Env (X : Nat → Prop) (z w : World) (mb : Nat) : Prop where
  below : Below z.heap.size z w
  lo : ∀ g, X g → z.heap.size ≤ g
  hi : ∀ g, X g → g < w.heap.size
  mb : X mb
theorem Env.step {X : Nat → Prop} {z w w' : World} {mb : Nat} (h : Env X z w mb) (hb : Below w.heap.size w w') : Env X z w' mb :=
  ⟨h.below.trans (hb.mono h.below.size), h.lo, fun g hg => Nat.lt_of_lt_of_le (h.hi g hg) hb.size, h.mb⟩
theorem Env.only {X : Nat → Prop} {z w w' : World} {mb : Nat} (h : Env X z w mb) (hb : Only [mb] w w') : Env X z w' mb :=
  ⟨h.below.trans (hb.below h.below.size fun g hg => by simp at hg; subst hg; exact h.lo _ h.mb), h.lo, fun g hg => Nat.lt_of_lt_of_le (h.hi g hg) hb.size, h.mb⟩

section
variable (G : (Nat → Prop) → World → Sh → Value → Prop)
/-- What stands at a text is good for its shape. -/
def AtText (X : Nat → Prop) (w : World) (T : ByteArray) (v : Value) : Prop := ∃ d s, partOk d s = true ∧ T = ⟨s.txt.toArray⟩ ∧ G X w s v
/-- The map. -/
def MapG (X : Nat → Prop) (w : World) (mb : Nat) : Prop := ∃ es clock, w.heap[mb]? = some (.map es clock) ∧ Good (AtText G X w) es.toList
/-- What a maker of one for the shape s leaves. -/
def PkPost (X : Nat → Prop) (mb : Nat) (w : World) (s : Sh) (e : Ending) (w' : World) : Prop :=
  ∃ f1 c1 f2 c2, e = .returned (.agg #[.func (.func f1) #[] c1, .func (.func f2) #[] c2]) ∧ G X w' s (.agg #[.func (.func f1) #[] c1, .func (.func f2) #[] c2]) ∧ MapG G X w' mb ∧ Only [mb] w w'
/-- Cells, two by two, each pair good for its shape. -/
def PksOf (X : Nat → Prop) (w : World) : List Sh → List Value → Prop
  | [], cs => cs = []
  | x :: l, cs => ∃ c0 c1 cs', cs = c0 :: c1 :: cs' ∧ G X w x (.agg #[c0, c1]) ∧ PksOf X w l cs'
end
section
variable {G : (Nat → Prop) → World → Sh → Value → Prop}
/-- Good values stay good. -/
def Moves (G : (Nat → Prop) → World → Sh → Value → Prop) : Prop := ∀ X Y w w' s v, G X w s v → Stab X w w' → (∀ g, Y g → X g ∨ w.heap.size ≤ g) → G Y w' s v
theorem MapG.move (hG : Moves G) {X Y : Nat → Prop} {w w' : World} {mb : Nat} (h : MapG G X w mb) (hs : Stab X w w') (hy : ∀ g, Y g → X g ∨ w.heap.size ≤ g) (hm : w'.heap[mb]? = w.heap[mb]?) : MapG G Y w' mb := by
  obtain ⟨es, c, h1, h2⟩ := h
  exact ⟨es, c, hm.trans h1, h2.mono fun T v ⟨d, s, a, b, e⟩ => ⟨d, s, a, b, hG X Y w w' s v e hs hy⟩⟩
theorem MapG.below (hG : Moves G) {X : Nat → Prop} {w w' : World} {mb : Nat} (h : MapG G X w mb) (hb : Below w.heap.size w w') : MapG G X w' mb := by
  have hlt : mb < w.heap.size := by obtain ⟨es, c, h1, _⟩ := h; exact (Array.getElem?_eq_some_iff.1 h1).1
  exact h.move hG (Stab.of_below hb) (fun g hg => .inl hg) (hb.block mb hlt)
theorem PksOf.move (hG : Moves G) {X Y : Nat → Prop} {w w' : World} (hs : Stab X w w') (hy : ∀ g, Y g → X g ∨ w.heap.size ≤ g) : ∀ {l : List Sh} {cs : List Value}, PksOf G X w l cs → PksOf G Y w' l cs
  | [], cs, h => by simpa only [PksOf] using h
  | x :: l, cs, h => by
    simp only [PksOf] at h ⊢
    obtain ⟨c0, c1, cs', e, h1, h2⟩ := h
    exact ⟨c0, c1, cs', e, hG X Y w w' x _ h1 hs hy, PksOf.move hG hs hy h2⟩
theorem PksOf.snoc {X : Nat → Prop} {w : World} : ∀ {l : List Sh} {cs : List Value} {x : Sh} {c0 c1 : Value}, PksOf G X w l cs → G X w x (.agg #[c0, c1]) → PksOf G X w (l ++ [x]) (cs ++ [c0, c1])
  | [], cs, x, c0, c1, h, hx => by
    simp only [PksOf] at h
    subst h
    simp only [List.nil_append, PksOf]
    exact ⟨c0, c1, [], rfl, hx, rfl⟩
  | y :: l, cs, x, c0, c1, h, hx => by
    simp only [PksOf] at h
    obtain ⟨d0, d1, cs', rfl, h1, h2⟩ := h
    simp only [List.cons_append, PksOf]
    exact ⟨d0, d1, _, rfl, h1, h2.snoc hx⟩
theorem PksOf.at {X : Nat → Prop} {w : World} : ∀ {l : List Sh} {cs : List Value}, PksOf G X w l cs → ∀ i (h : i < l.length), ∃ c0 c1, cs[i * 2]? = some c0 ∧ cs[i * 2 + 1]? = some c1 ∧ G X w l[i] (.agg #[c0, c1])
  | [], _, _, _, h => by cases h
  | x :: l, cs, h, i, hi => by
    simp only [PksOf] at h
    obtain ⟨c0, c1, cs', rfl, h1, h2⟩ := h
    cases i with
    | zero => exact ⟨c0, c1, rfl, rfl, h1⟩
    | succ i =>
      obtain ⟨d0, d1, g0, g1, g2⟩ := h2.at i (by simpa using hi)
      have e : (i + 1) * 2 = i * 2 + 2 := by omega
      refine ⟨d0, d1, ?_, ?_, g2⟩ <;> rw [e] <;> simpa using ‹_›
theorem PksOf.len {X : Nat → Prop} {w : World} : ∀ {l : List Sh} {cs : List Value}, PksOf G X w l cs → cs.length = l.length * 2
  | [], cs, h => by simp only [PksOf] at h; rw [h]; rfl
  | x :: l, cs, h => by
    simp only [PksOf] at h
    obtain ⟨c0, c1, cs', rfl, _, h2⟩ := h
    have := h2.len
    simp only [List.length_cons]; omega
end

/-- The makers of one thing each keep to G. -/
structure Makers (G : (Nat → Prop) → World → Sh → Value → Prop) : Prop where
  moves : Moves G
  cells : ∀ X w s v, G X w s v → ∃ f1 c1 f2 c2, v = .agg #[.func (.func f1) #[] c1, .func (.func f2) #[] c2]
  flag : ∀ (X : Nat → Prop) w, (∀ g, X g → g < w.heap.size) → Calls Tryz.prog 133 #[.int .i64 1, .int .i64 1] w fun e w' => ∃ f1 c1 f2 c2, e = .returned (.agg #[.func (.func f1) #[] c1, .func (.func f2) #[] c2]) ∧ G X w' (.mk 1 [] [] []) (.agg #[.func (.func f1) #[] c1, .func (.func f2) #[] c2]) ∧ Below w.heap.size w w'
  num : ∀ (X : Nat → Prop) w, (∀ g, X g → g < w.heap.size) → Calls Tryz.prog 133 #[.int .i64 2, .int .i64 1000000] w fun e w' => ∃ f1 c1 f2 c2, e = .returned (.agg #[.func (.func f1) #[] c1, .func (.func f2) #[] c2]) ∧ G X w' (.mk 2 [] [] []) (.agg #[.func (.func f1) #[] c1, .func (.func f2) #[] c2]) ∧ Below w.heap.size w w'
  text : ∀ (X : Nat → Prop) w, (∀ g, X g → g < w.heap.size) → Calls Tryz.prog 134 #[] w fun e w' => ∃ f1 c1 f2 c2, e = .returned (.agg #[.func (.func f1) #[] c1, .func (.func f2) #[] c2]) ∧ G X w' (.mk 3 [] [] []) (.agg #[.func (.func f1) #[] c1, .func (.func f2) #[] c2]) ∧ Below w.heap.size w w'
  pick : ∀ (X : Nat → Prop) z w sy p n m, Below z.heap.size z w → (∀ g, X g → z.heap.size ≤ g) → (∀ g, X g → g < w.heap.size) → IsStrs z (.slice p n m) sy → 0 < sy.length → sy.length ≤ 6 → wordsAll sy = true →
    Calls Tryz.prog 135 #[.slice p n m] w fun e w' => ∃ f1 c1 f2 c2, e = .returned (.agg #[.func (.func f1) #[] c1, .func (.func f2) #[] c2]) ∧ G X w' (.mk 4 sy [] []) (.agg #[.func (.func f1) #[] c1, .func (.func f2) #[] c2]) ∧ Below w.heap.size w w'
  count : ∀ (X : Nat → Prop) w (k most : Int) y v, (k = 5 ∧ most = 1 ∨ k = 6 ∧ most = 6) → (∀ g, X g → g < w.heap.size) → G X w y v →
    Calls Tryz.prog 136 #[.int .i64 k, .int .i64 most, v] w fun e w' => ∃ f1 c1 f2 c2, e = .returned (.agg #[.func (.func f1) #[] c1, .func (.func f2) #[] c2]) ∧ G X w' (.mk k [] [] [y]) (.agg #[.func (.func f1) #[] c1, .func (.func f2) #[] c2]) ∧ Below w.heap.size w w'
  row : ∀ (X : Nat → Prop) w B na su vp xs, su.length ≤ 6 → (∀ g, X g → g < w.heap.size) → w.ownsRow B 86 2 vp su.length xs → (∀ g ∈ blkOf vp, ¬ X g) → PksOf G X w su xs →
    Calls Tryz.prog 137 #[vp] w fun e w' => ∃ f1 c1 f2 c2, e = .returned (.agg #[.func (.func f1) #[] c1, .func (.func f2) #[] c2]) ∧ G X w' (.mk 7 [] na su) (.agg #[.func (.func f1) #[] c1, .func (.func f2) #[] c2]) ∧ Below w.heap.size w w'

/-- A function value, and what it holds. -/
abbrev fv (f : FuncId) (c : Array Value) : Value := .func (.func f) #[] c

def OfAt (G : (Nat → Prop) → World → Sh → Value → Prop) (d : Nat) : Prop := ∀ (X : Nat → Prop) (z w : World) (mb : Nat) (s : Sh) (u : Value), partOk d s = true → IsSh z s u → KwAt z → Env X z w mb → MapG G X w mb →
  Calls Tryz.prog 65 #[.map (some mb), u] w (PkPost G X mb w s)
def MadeAt (G : (Nat → Prop) → World → Sh → Value → Prop) (d : Nat) : Prop := ∀ (X : Nat → Prop) (z w : World) (mb : Nat) (s : Sh) (u : Value), partOk d s = true → IsSh z s u → KwAt z → Env X z w mb → MapG G X w mb →
  Calls Tryz.prog 108 #[.map (some mb), u] w (PkPost G X mb w s)
end Go.Proofs.YtbpidhlpakobiaaGreatDoor
namespace Go.Proofs.YtbpidhlpakobiaaGreatDoor
open Go.RowKit

theorem capT_small {d : Nat} (h : d ≤ 5) : capT d ≤ 200000 := by
  match d, h with
  | 0, _ | 1, _ | 2, _ | 3, _ | 4, _ | 5, _ => decide
theorem blk2 {w : World} {b : Nat} {T : TypeId} {c0 c1 : Value} (h : w.heap[b]? = some (.cells #[c0, c1] T (0, 0))) :
    w.cell? ⟨b, 0, none⟩ = some c0 ∧ w.cell? ⟨b, 1, none⟩ = some c1 ∧ w.frozen? ⟨b, 0, none⟩ = false ∧ w.frozen? ⟨b, 1, none⟩ = false ∧ b < w.heap.size := by
  refine ⟨?_, ?_, ?_, ?_, (Array.getElem?_eq_some_iff.1 h).1⟩ <;> simp [World.cell?, World.frozen?, h]
theorem below_set2 {B : Nat} {a w : World} (h : Below B a w) {b : Nat} (hb : B ≤ b) (x y : Value) : Below B a ((w.setCell ⟨b, 0, none⟩ x).setCell ⟨b, 1, none⟩ y) :=
  ⟨h.os, h.tape, h.output, by rw [size_set, size_set]; exact h.size, fun k hk => by
    rw [Below.heap_setCell _ _ _ _ (show k ≠ b by omega), Below.heap_setCell _ _ _ _ (show k ≠ b by omega)]; exact h.block k hk⟩

theorem Only.put {F : List Nat} {a b : World} (h : Only F a b) {g : Nat} (hg : a.heap.size ≤ g) (j : Nat) (v : Value) : Only F a (b.setCell ⟨g, j, none⟩ v) :=
  ⟨h.os, h.tape, h.output, by rw [size_set]; exact h.size, fun k hk hf => by
    rw [Below.heap_setCell _ _ _ _ (show k ≠ g by omega)]; exact h.block k hk hf⟩
theorem Only.mapPut {F : List Nat} {a b : World} (h : Only F a b) {mb : Nat} (hm : mb ∈ F) (o : Obj) : Only F a (mapPut b mb o) :=
  ⟨h.os, h.tape, h.output, by rw [mapPut_size]; exact h.size, fun k hk hf => by
    rw [mapPut_other _ _ _ _ (fun e => hf (by rw [e]; exact hm))]; exact h.block k hk hf⟩
theorem Stab.set {X : Nat → Prop} {w w' : World} (h : Stab X w w') {g : Nat} (hg : X g) (j : Nat) (v : Value) : Stab X w (w'.setCell ⟨g, j, none⟩ v) :=
  ⟨by rw [size_set]; exact h.1, fun k hk hx => by
    rw [Below.heap_setCell _ _ _ _ (show k ≠ g from fun e => hx (by rw [e]; exact hg))]; exact h.2 k hk hx⟩
theorem Stab.map {X : Nat → Prop} {w w' : World} (h : Stab X w w') {mb : Nat} (hm : X mb) (o : Obj) : Stab X w (Go.Proofs.YtbpidhlpakobiaaGreatDoor.mapPut w' mb o) :=
  ⟨by rw [mapPut_size]; exact h.1, fun k hk hx => by
    rw [mapPut_other _ _ _ _ (fun e => hx (by rw [e]; exact hm))]; exact h.2 k hk hx⟩

set_option maxRecDepth 100000 in
set_option maxHeartbeats 1000000 in
theorem of_any (G : (Nat → Prop) → World → Sh → Value → Prop) (hM : Makers G) (d : Nat) (hd : d ≤ 5) (hm : MadeAt G d) : OfAt G d := by
  intro X z w mb s u hp hs hkw he hg
  obtain ⟨p1, n1, m1, p2, n2, m2, p3, n3, m3, rfl⟩ := hs.agg
  have HS := Lib.hid hs
  have HE := Lib.hid he
  have HKW := Lib.hid hkw
  have HM := Lib.hid hm
  have HX0 := Lib.hid (two_new w (.cells #[.int .i64 s.kd, .slice p1 n1 m1, .slice p2 n2 m2, .slice p3 n3 m3] 26) (.cells #[.nilFunc, .nilFunc] 86))
  have hbw := (below_alloc w (.cells #[.int .i64 s.kd, .slice p1 n1 m1, .slice p2 n2 m2, .slice p3 n3 m3] 26)).alloc (by simp) (.cells #[.nilFunc, .nilFunc] 86)
  obtain ⟨W, hW⟩ : ∃ W, W = (w.alloc (.cells #[.int .i64 s.kd, .slice p1 n1 m1, .slice p2 n2 m2, .slice p3 n3 m3] 26)).alloc (.cells #[.nilFunc, .nilFunc] 86) := ⟨_, rfl⟩
  rw [← hW] at HX0 hbw
  have S1 := Lib.hid HX0.out.1
  have S2 := Lib.hid HX0.out.2
  have BW := Lib.hid hbw
  have HW := Lib.hid hW
  have rz0 := (blk2 S2.out).2.2.2.2
  obtain ⟨X1, hX1⟩ : ∃ X1 : Nat → Prop, X1 = fun g => X g ∨ g = w.heap.size + 1 := ⟨_, rfl⟩
  have EW : Hid (Env X1 z W mb) := by
    have h := he.step hbw
    refine ⟨h.below, fun g hg => ?_, fun g hg => ?_, ?_⟩
    · rw [hX1] at hg; rcases hg with hg | rfl
      · exact h.lo g hg
      · have := he.below.size; omega
    · rw [hX1] at hg; rcases hg with hg | rfl
      · exact h.hi g hg
      · exact rz0
    · rw [hX1]; exact .inl h.mb
  have HXX := Lib.hid (show (∀ g, X g → X1 g) ∧ X1 (w.heap.size + 1) ∧ X1 mb by rw [hX1]; exact ⟨fun g hg => .inl hg, .inr rfl, .inl he.mb⟩)
  have hmz : mb < w.heap.size := he.hi _ he.mb
  have MW : Hid (MapG G X1 W mb) := hg.move hM.moves (Stab.of_below hbw) (fun g hg => by rw [hX1] at hg; rcases hg with hg | rfl; exact .inl hg; exact .inr (Nat.le_succ _)) (hbw.block mb hmz)
  have HPt := Lib.hid hp
  obtain ⟨b0, b1, b2, b3, _, _, _, _, bz⟩ := blk4 S1.out
  clear HX0 hbw hW hs he hkw hm hg hp hX1
  go_enter Tryz.func65, Tryz.ntmps65
  go_wp2_with fail
  rw [← HW.out]
  refine (ap_any d hd s W W _ _ [] HPt.out (IsSh.keep (Keeps.of_below EW.out.below) _ _ HS.out) (Below.refl _ _) (OwnB.nil _ _) (by have := capT_small hd; simp only [List.length_nil]; omega) (fun k hk => Keeps.of_below EW.out.below _ _ _ (HKW.out k hk))).mono ?_
  rintro e w2 ⟨p, n, m, rfl, ho2, hb2, _, _⟩
  obtain ⟨T, hT⟩ : ∃ T : ByteArray, T = ⟨([] ++ s.txt).toArray⟩ := ⟨_, rfl⟩
  have hstr := ho2.str
  rw [← hT] at hstr
  have E2 := Lib.hid (EW.out.step hb2)
  obtain ⟨es, clock, hm2, hgood⟩ := MW.out.below hM.moves hb2
  have B2 := Lib.hid (BW.out.trans (hb2.mono BW.out.size))
  have T1 := Lib.hid (blk_below S1.out hb2 bz)
  have T2 := Lib.hid (blk_below S2.out hb2 rz0)
  have HT : Hid (T = ⟨s.txt.toArray⟩) := hT
  clear ho2 hb2 b0 b1 b2 b3 bz hT rz0
  obtain ⟨b0, b1, b2, b3, _, _, _, _, bz⟩ := blk4 T1.out
  obtain ⟨r0, r1, r2, r3, rz⟩ := blk2 T2.out
  rcases lookup_text w2 mb es clock T hm2 hgood with hlk | ⟨v, ⟨d', s', hp', hT', hG⟩, hlk⟩
  · have HM2 := Lib.hid hm2
    have HGd := Lib.hid hgood
    clear hm2 hgood
    obtain ⟨X2, hX2⟩ : ∃ X2 : Nat → Prop, X2 = fun g => X1 g ∨ g = w2.heap.size := ⟨_, rfl⟩
    obtain ⟨w3, hw3⟩ : ∃ w3, w3 = w2.alloc (.cells #[.nilFunc, .nilFunc] 86) := ⟨_, rfl⟩
    have b3' : Below w2.heap.size w2 w3 := by rw [hw3]; exact below_alloc _ _
    have hz3 : w2.heap.size < w3.heap.size := by rw [hw3]; simp
    have T3 : Hid (w3.heap[w2.heap.size]? = some (.cells #[.nilFunc, .nilFunc] 86 (0, 0))) := by rw [hw3]; exact Go.Deep.blk_alloc_new _ _
    have E3 : Hid (Env X2 z w3 mb) := by
      have h := E2.out.step b3'
      refine ⟨h.below, fun g hg => ?_, fun g hg => ?_, ?_⟩
      · rw [hX2] at hg; rcases hg with hg | rfl
        · exact h.lo g hg
        · have := E2.out.below.size; omega
      · rw [hX2] at hg; rcases hg with hg | rfl
        · exact h.hi g hg
        · exact hz3
      · rw [hX2]; exact .inl h.mb
    have M3 : Hid (MapG G X2 w3 mb) := MapG.move hM.moves ⟨es, clock, HM2.out, HGd.out⟩ (Stab.of_below b3') (fun g hg => by rw [hX2] at hg; rcases hg with hg | rfl; exact .inl hg; exact .inr (Nat.le_refl _)) (b3'.block mb (by omega))
    have HX2 := Lib.hid (show (∀ g, X g → X2 g) ∧ X2 (w.heap.size + 1) ∧ X2 mb ∧ X2 w2.heap.size by rw [hX2]; exact ⟨fun g hg => .inl (HXX.out.1 g hg), .inl HXX.out.2.1, .inl HXX.out.2.2, .inr rfl⟩)
    have B3 := Lib.hid (B2.out.trans (b3'.mono B2.out.size))
    have T4 := Lib.hid (blk_below T2.out b3' rz)
    have HW3 := Lib.hid hw3
    clear hX2 hw3 b3'
    go_wp2_with fail
    rw [← HW3.out]
    refine (HM.out X2 z _ mb s _ HPt.out HS.out HKW.out E3.out M3.out).mono ?_
    rintro e w4 ⟨f1, c1, f2, c2, rfl, hG4, ⟨es4, c4, hm4, hgood4⟩, ho4⟩
    have t6 := (ho4.block _ hz3 (by simp; omega)).trans T3.out
    have t4 := (ho4.block (w.heap.size + 1) (by omega) (by simp; omega)).trans T4.out
    obtain ⟨q0, q1, q2, q3, qz⟩ := blk2 t6
    obtain ⟨s0, s1, s2, s3, sz⟩ := blk2 t4
    obtain ⟨w5, hw5⟩ : ∃ w5, w5 = (w4.setCell ⟨w2.heap.size, 0, none⟩ (fv f1 c1)).setCell ⟨w2.heap.size, 1, none⟩ (fv f2 c2) := ⟨_, rfl⟩
    have S5 : Stab X2 w4 w5 := by rw [hw5]; exact ((Stab.refl _ _).set HX2.out.2.2.2 _ _).set HX2.out.2.2.2 _ _
    have hm5 : w5.heap[mb]? = some (.map es4 c4) := by
      rw [hw5, Below.heap_setCell _ _ _ _ (show mb ≠ w2.heap.size by omega), Below.heap_setCell _ _ _ _ (show mb ≠ w2.heap.size by omega)]; exact hm4
    have g5 : Good (AtText G X2 w5) es4.toList := hgood4.mono fun T v ⟨d, s, a, b, e⟩ => ⟨d, s, a, b, hM.moves X2 X2 w4 w5 s v e S5 fun g hg => .inl hg⟩
    have G5 : Hid (G X2 w5 s (.agg #[fv f1 c1, fv f2 c2])) := hM.moves X2 X2 w4 w5 s _ hG4 S5 fun g hg => .inl hg
    obtain ⟨es5, c5, hup, g6⟩ := update_text (Q := AtText G X2 w5) w5 mb es4 c4 T (.agg #[fv f1 c1, fv f2 c2]) hm5 g5 ⟨d, s, HPt.out, HT.out, G5.out⟩
    obtain ⟨w6, hw6⟩ : ∃ w6, w6 = mapPut w5 mb (.map es5 c5) := ⟨_, rfl⟩
    have hz5 : w5.heap.size = w4.heap.size := by rw [hw5, size_set, size_set]
    have hm6 : w6.heap[mb]? = some (.map es5 c5) := by rw [hw6]; exact mapPut_same _ _ _ (by rw [hz5]; have := ho4.size; omega)
    have S6 : Stab X2 w5 w6 := by rw [hw6]; exact (Stab.refl _ _).map HX2.out.2.2.1 _
    have x6 : w6.heap[w2.heap.size]? = some (.cells #[fv f1 c1, fv f2 c2] 86 (0, 0)) := by
      rw [hw6, mapPut_other _ _ _ _ (show w2.heap.size ≠ mb by omega), hw5]
      have := blk_set (blk_set t6 0 (fv f1 c1)) 1 (fv f2 c2)
      simpa using this
    have y6 : w6.heap[w.heap.size + 1]? = some (.cells #[.nilFunc, .nilFunc] 86 (0, 0)) := by
      rw [hw6, mapPut_other _ _ _ _ (show w.heap.size + 1 ≠ mb by omega), hw5, Below.heap_setCell _ _ _ _ (show w.heap.size + 1 ≠ w2.heap.size by omega), Below.heap_setCell _ _ _ _ (show w.heap.size + 1 ≠ w2.heap.size by omega)]
      exact t4
    have O6 : Only [mb] w w6 := by
      rw [hw6, hw5]
      exact ((((Only.of_below B3.out).trans ho4).put (by omega) _ _).put (by omega) _ _).mapPut (by simp) _
    obtain ⟨w9, hw9⟩ : ∃ w9, w9 = (w6.setCell ⟨w.heap.size + 1, 0, none⟩ (fv f1 c1)).setCell ⟨w.heap.size + 1, 1, none⟩ (fv f2 c2) := ⟨_, rfl⟩
    have S9 : Hid (Stab X2 w5 w9) := by rw [hw9]; exact (S6.set HX2.out.2.1 _ _).set HX2.out.2.1 _ _
    have O9 : Hid (Only [mb] w w9) := by rw [hw9]; exact (O6.put (Nat.le_succ _) _ _).put (Nat.le_succ _) _ _
    have m9 : Hid (w9.heap[mb]? = some (.map es5 c5)) := by
      show _ = _
      rw [hw9, Below.heap_setCell _ _ _ _ (show mb ≠ w.heap.size + 1 by omega), Below.heap_setCell _ _ _ _ (show mb ≠ w.heap.size + 1 by omega)]; exact hm6
    have G9 : Hid (MapG G X w9 mb) := ⟨es5, c5, m9.out, g6.mono fun T v ⟨d, s, a, b, e⟩ => ⟨d, s, a, b, hM.moves X2 X w5 w9 s v e S9.out fun g hg => .inl (HX2.out.1 g hg)⟩⟩
    have K9 : Hid (G X w9 s (.agg #[fv f1 c1, fv f2 c2])) := hM.moves X2 X w5 w9 s _ G5.out S9.out fun g hg => .inl (HX2.out.1 g hg)
    have HW9 := Lib.hid hw9
    rw [← hw6, hw5] at hup
    obtain ⟨x0, x1, x2, x3, xz⟩ := blk2 x6
    obtain ⟨y0, y1, y2, y3, yz⟩ := blk2 y6
    clear hw5 hm5 g5 g6 hG4 hgood4 hm4 hw6 hw9 hm6 S5 S6 O6 x6 y6 hz5 t6 t4 s0 s1 s2 s3 sz r0 r1 r2 r3 rz b0 b1 b2 b3 bz hlk hstr ho4
    go_wp2_with fail
    refine bodyPost_ret (v := .agg #[fv f1 c1, fv f2 c2]) (by simp [results, Tryz.results65, go_sem, y0, y1]) rfl ?_
    rw [← HW9.out]
    exact ⟨f1, c1, f2, c2, rfl, K9.out, G9.out, O9.out⟩
  · have hss : s' = s := txt_inj hp' HPt.out (by have := HT.out.symm.trans hT'; simpa using this.symm)
    subst hss
    obtain ⟨f1, c1, f2, c2, rfl⟩ := hM.cells _ _ _ _ hG
    have HG := Lib.hid hG
    have HM2 := Lib.hid hm2
    have HGd := Lib.hid hgood
    clear hG hm2 hgood hT'
    obtain ⟨w9, hw9⟩ : ∃ w9, w9 = ((w2.setCell ⟨w.heap.size + 1, 0, none⟩ (fv f1 c1)).setCell ⟨w.heap.size + 1, 1, none⟩ (fv f2 c2)).alloc (.cells #[fv f1 c1, fv f2 c2] 86) := ⟨_, rfl⟩
    have S9 : Hid (Stab X1 w2 w9) := by rw [hw9]; exact (((Stab.refl _ _).set HXX.out.2.1 _ _).set HXX.out.2.1 _ _).trans (Stab.of_below (below_alloc _ _))
    have O9 : Hid (Only [mb] w w9) := by rw [hw9]; exact (((Only.of_below B2.out).put (Nat.le_succ _) _ _).put (Nat.le_succ _) _ _).trans (Only.of_below (below_alloc _ _))
    have HW9 := Lib.hid hw9
    clear hw9
    have hne : mb ≠ w.heap.size + 1 := by omega
    have hlt2 : mb < w2.heap.size := (Array.getElem?_eq_some_iff.1 HM2.out).1
    have m9 : Hid (w9.heap[mb]? = w2.heap[mb]?) := by
      show _ = _
      rw [HW9.out, Below.heap_alloc _ _ _ (by rw [size_set, size_set]; exact hlt2), Below.heap_setCell _ _ _ _ hne, Below.heap_setCell _ _ _ _ hne]
    go_wp2_with fail
    refine bodyPost_ret (v := .agg #[fv f1 c1, fv f2 c2]) (by simp [results, Tryz.results65, go_sem, r0, r1, rz]) rfl ?_
    rw [← HW9.out]
    exact ⟨f1, c1, f2, c2, rfl, hM.moves X1 X w2 w9 s' _ HG.out S9.out fun g hg => .inl (HXX.out.1 g hg), MapG.move hM.moves ⟨es, clock, HM2.out, HGd.out⟩ S9.out (fun g hg => .inl (HXX.out.1 g hg)) m9.out, O9.out⟩
end Go.Proofs.YtbpidhlpakobiaaGreatDoor
namespace Go.Proofs.YtbpidhlpakobiaaGreatDoor
open Go.RowKit

theorem info_pk : (Tryz.prog.info? 86).map (fun i => (i.zero, i.size, i.bytes)) = some (some (.agg #[.nilFunc, .nilFunc]), 2, 16) := by kernel_rfl

/-- append(row, pair), the pair in a new block: where the row lies. -/
theorem wpList_pair {ops : Array Oper} {rest : List Oper} {o : Oper} {a : Act} {Q : Exit → Act → World → Prop} (W : World) (hgd : o.guard = none) (s x : Operand)
    (ho : o.op = .call { callee := .builtin .append, args := #[s, x], argTypes := #[190, 190] })
    (B : Nat) (p : Option Addr) (n cap : Nat) (xs : List Value) (f1 f2 : FuncId) (c1 c2 : Array Value) (hs : a.eval s = .slice p n cap) (hown : W.ownsRow B 86 2 (.slice p n cap) n xs) (hx : a.eval x = .slice (some ⟨W.heap.size, 0, none⟩) 1 1)
    (hn : n ≤ 1000000) (hB : B ≤ W.heap.size)
    (h : ∀ p' cap' w', w'.ownsRow B 86 2 (.slice p' (n + 1) cap') (n + 1) (xs ++ [fv f1 c1, fv f2 c2]) → Only (blkOf (.slice p n cap)) W w' → (∀ q ∈ blkOf (.slice p' (n + 1) cap'), q ∈ blkOf (.slice p n cap) ∨ W.heap.size ≤ q) → wpList Tryz.prog ops Q rest (a.put o.dst (.slice p' (n + 1) cap')) w') :
    wpList Tryz.prog ops Q (o :: rest) a (W.alloc (.cells #[fv f1 c1, fv f2 c2] 86)) := by
  obtain ⟨i0, hi, hz0, hz1, hz2⟩ := info_parts info_pk
  have hnew := Go.Deep.blk_alloc_new W (.cells #[fv f1 c1, fv f2 c2] 86)
  have hba := below_alloc W (.cells #[fv f1 c1, fv f2 c2] 86)
  have hown' : (W.alloc (.cells #[fv f1 c1, fv f2 c2] 86)).ownsRow B 86 2 (.slice p n cap) n xs := own_block hown fun g hg => hba.block g (blkOf_own hown g hg).2
  refine wpList_append_own_at _ hgd s x _ ho B 86 i0 _ 2 16 Tryz.underlying190 hi hz0 hz1 hz2 rfl (by decide) _ n xs hs hown' ⟨W.heap.size, 0, none⟩ 1 1 [fv f1 c1, fv f2 c2] hx rfl ?_ ?_ (by unfold maxLen; omega) (by omega) (by simp; omega) ?_
  · intro j u hj
    rw [show (⟨W.heap.size, 0, none⟩ : Addr).add j = ⟨W.heap.size, 0 + j, none⟩ from by unfold Addr.add; split <;> simp_all, Nat.zero_add]
    have : (W.alloc (.cells #[fv f1 c1, fv f2 c2] 86)).cell? ⟨W.heap.size, j, none⟩ = [fv f1 c1, fv f2 c2][j]? := by
      unfold World.cell?
      rw [hnew]
      simp
    rw [this, hj]
  · intro u hu
    simp only [List.mem_cons, List.not_mem_nil, or_false] at hu
    rcases hu with rfl | rfl <;> rfl
  · intro v' w' hv hg _ hat
    obtain ⟨p', cap', rfl⟩ := own_slice' hv
    refine h p' cap' w' hv ?_ fun q hq => ?_
    · refine ⟨hg.os, hg.tape, hg.output, Nat.le_trans hba.size hg.size, fun q hq hne => ?_⟩
      rw [hg.block q (Nat.lt_of_lt_of_le hq hba.size) fun e => hne ((ownBlock_blk hown q).1 e.symm)]
      exact hba.block q hq
    · have e := (ownBlock_blk hv q).2 hq
      rcases hat with ha | ha
      · rw [ha] at e; exact .inl ((ownBlock_blk hown q).1 e)
      · rw [ha] at e
        right
        have := Option.some.inj e
        simp at this; omega

theorem Only.high {F F' : List Nat} {a b c : World} (h : Only F a b) (k : Only F' b c) (hf : ∀ g ∈ F', a.heap.size ≤ g) : Only F a c :=
  ⟨k.os.trans h.os, k.tape.trans h.tape, k.output.trans h.output, Nat.le_trans h.size k.size, fun g hg hx => (k.block g (Nat.lt_of_lt_of_le hg h.size) fun e => by have := hf g e; omega).trans (h.block g hg hx)⟩

/-- What all leaves. -/
def AllPost (G : (Nat → Prop) → World → Sh → Value → Prop) (X : Nat → Prop) (mb : Nat) (w : World) (su : List Sh) (e : Ending) (w' : World) : Prop :=
  ∃ q c xs, e = .returned (.slice q su.length c) ∧ w'.ownsRow w.heap.size 86 2 (.slice q su.length c) su.length xs ∧ PksOf G X w' su xs ∧ MapG G X w' mb ∧ Only [mb] w w'

set_option maxRecDepth 100000 in
set_option maxHeartbeats 1000000 in
theorem all_any (G : (Nat → Prop) → World → Sh → Value → Prop) (hM : Makers G) (d : Nat) (ih : OfAt G d) (X : Nat → Prop) (z w : World) (mb : Nat) (su : List Sh) (p : Option Addr) (m : Nat) (hp : su.all (partOk d) = true) (h6 : su.length ≤ 6) (hs : IsShs z (.slice p su.length m) su) (hkw : KwAt z) (he : Env X z w mb) (hg : MapG G X w mb) :
    Calls Tryz.prog 138 #[.map (some mb), .slice p su.length m] w (AllPost G X mb w su) := by
  obtain ⟨a, cap, e0, h3, h4, g6⟩ := hs
  simp only [Value.slice.injEq] at e0
  obtain ⟨rfl, _, rfl⟩ := e0
  have H6 := Lib.hid g6
  have HP := Lib.hid hp
  have HKW := Lib.hid hkw
  have HE := Lib.hid he
  have HG := Lib.hid hg
  have IH := Lib.hid ih
  clear g6 hp hkw he hg ih
  go_enter Tryz.func138, Tryz.ntmps138
  go_wp2_with fail
  go_loopw [5, 10] (fun o i wr => ∃ (j : Nat) (q : Option Addr) (c : Nat) (xs : List Value) (Y : Nat → Prop), j ≤ su.length ∧ i = .int .i64 j ∧ o = .slice q j c ∧ Hid (wr.ownsRow w.heap.size 86 2 (.slice q j c) j xs) ∧ Hid (PksOf G Y wr (su.take j) xs) ∧ Hid (MapG G Y wr mb) ∧ Hid (Env Y z wr mb) ∧ Hid (Only [mb] w wr) ∧ Hid ((∀ g, X g → Y g) ∧ ∀ g ∈ blkOf (.slice q j c), Y g)) (fun _ i _ => su.length - (intOf i).toNat)
  case atStart => exact ⟨0, none, 0, [], X, Nat.zero_le _, rfl, rfl, World.ownsRow_nil _ _ _ _, by show PksOf _ _ _ _ _; simp [PksOf], HG.out, HE.out, Only.refl _ _, ⟨fun g h => h, by simp [blkOf]⟩⟩
  case round =>
    obtain ⟨j, q, c, xs, Y, hj, rfl, rfl, HO, HPk, HMg, HEv, HOn, HY⟩ := hrel
    by_cases hlt : j < su.length
    · obtain ⟨b, off, rfl, d0, d1, d2, d3, e0, e1, e2, e3, e4⟩ := IsShs.at H6.out hlt
      have HKp := Lib.hid (Keeps.of_below HEv.out.below)
      have j0 := HKp.out _ _ _ e0
      have j1 := HKp.out _ _ _ e1
      have j2 := HKp.out _ _ _ e2
      have j3 := HKp.out _ _ _ e3
      have K4 := Lib.hid e4
      obtain ⟨q1, i1, y1, q2, i2, y2, q3, i3, y3, rfl, rfl, rfl, rfl⟩ := e4.cells
      obtain ⟨w3, hw3⟩ : ∃ w3, w3 = wr.alloc (.cells #[.int .i64 su[j].kd, .slice q1 i1 y1, .slice q2 i2 y2, .slice q3 i3 y3] 26) := ⟨_, rfl⟩
      have hb3 : Below wr.heap.size wr w3 := by rw [hw3]; exact below_alloc _ _
      have E3 := Lib.hid (HEv.out.step hb3)
      have M3 := Lib.hid (HMg.out.below hM.moves hb3)
      have HW3 := Lib.hid hw3
      have HPj := Lib.hid (List.all_eq_true.1 HP.out su[j] (List.getElem_mem hlt))
      have B3 := Lib.hid hb3
      clear hw3 e0 e1 e2 e3 e4 hb3
      go_wp2_with fail
      rw [← HW3.out]
      refine (IH.out Y z w3 mb su[j] _ HPj.out K4.out HKW.out E3.out M3.out).mono ?_
      rintro e w4 ⟨f1, c1, f2, c2, rfl, hG4, hM4, ho4⟩
      have O4 := Lib.hid ((Only.of_below B3.out).trans ho4)
      have hmn : ∀ g ∈ blkOf (.slice q j c), g ≠ mb := fun g hg e => by
        have h1 := (blkOf_own HO.out g hg).1
        have h2 := HE.out.hi mb HE.out.mb
        omega
      have R4 := Lib.hid (own_block HO.out fun g hg => O4.out.block g (blkOf_own HO.out g hg).2 (by simpa using hmn g hg))
      have S4 := Lib.hid (Stab.of_only (X := Y) O4.out fun g hg => by simp at hg; subst hg; exact HEv.out.mb)
      have P4 := Lib.hid (HPk.out.move hM.moves (Y := Y) S4.out fun g hg => .inl hg)
      have G4 := Lib.hid hG4
      have N4 := Lib.hid hM4
      have E4 := Lib.hid (E3.out.only ho4)
      clear hG4 hM4 ho4 hmn
      go_wp2_with (at_builtin; go_must (refine wpList_pair w4 rfl (.tmp 14) (.tmp 18) rfl w.heap.size q j c xs f1 f2 c1 c2 rfl R4.out rfl (by omega) (Nat.le_trans HOn.out.size O4.out.size) ?_))
      intro q' c' w5 hown hon hloc
      have hge : ∀ g ∈ blkOf (.slice q j c), w.heap.size ≤ g := fun g hg => (blkOf_own HO.out g hg).1
      have hmb : mb < w.heap.size := HE.out.hi mb HE.out.mb
      have hzw : z.heap.size ≤ w.heap.size := HE.out.below.size
      obtain ⟨Y', hY'⟩ : ∃ Y' : Nat → Prop, Y' = fun g => X g ∨ g ∈ blkOf (.slice q' (j + 1) c') := ⟨_, rfl⟩
      have hback : ∀ g, Y' g → Y g ∨ w4.heap.size ≤ g := fun g hg => by
        rw [hY'] at hg
        rcases hg with hg | hg
        · exact .inl (HY.out.1 g hg)
        · rcases hloc g hg with a | a
          · exact .inl (HY.out.2 g a)
          · exact .inr a
      have hst : Stab Y w4 w5 := Stab.of_only hon fun g hg => HY.out.2 g hg
      have hm5 : w5.heap[mb]? = w4.heap[mb]? := hon.block mb (by have := HOn.out.size; have := O4.out.size; omega) fun e => by have := hge mb e; omega
      have R5 := Lib.hid hown
      have N5 := Lib.hid (N4.out.move hM.moves (Y := Y') hst hback hm5)
      have E5 : Hid (Env Y' z w5 mb) := by
        refine ⟨E4.out.below.trans (hon.below E4.out.below.size fun g hg => Nat.le_trans hzw (hge g hg)), fun g hg => ?_, fun g hg => ?_, ?_⟩
        · rw [hY'] at hg
          rcases hg with hg | hg
          · exact HE.out.lo g hg
          · exact Nat.le_trans hzw (blkOf_own hown g hg).1
        · rw [hY'] at hg
          rcases hg with hg | hg
          · have := HE.out.hi g hg; have := HOn.out.size; have := O4.out.size; have := hon.size; omega
          · exact (blkOf_own hown g hg).2
        · rw [hY']; exact .inl HE.out.mb
      have O5 := Lib.hid ((HOn.out.trans O4.out).high hon hge)
      have P5 : Hid (PksOf G Y' w5 (su.take (j + 1)) (xs ++ [fv f1 c1, fv f2 c2])) := by
        show PksOf _ _ _ _ _
        rw [List.take_succ_eq_append_getElem hlt]
        exact (P4.out.move hM.moves hst hback).snoc (hM.moves Y Y' w4 w5 _ _ G4.out hst hback)
      have Y5 : Hid ((∀ g, X g → Y' g) ∧ ∀ g ∈ blkOf (.slice q' (j + 1) c'), Y' g) := ⟨fun g hg => by rw [hY']; exact .inl hg, fun g hg => by rw [hY']; exact .inr hg⟩
      clear hown hon hloc hge hback hst hm5 hY'
      go_wp2_with fail
      go_roundw
      case rel => exact ⟨j + 1, q', c', _, Y', hlt, by go_num, rfl, R5.out, P5.out, N5.out, E5.out, O5.out, Y5.out⟩
      case measure => simp [intOf]; omega
    · obtain rfl : j = su.length := by omega
      have P5 : Hid (PksOf G X wr su xs) := by
        have := HPk.out
        rw [List.take_length] at this
        exact this.move hM.moves (Stab.refl _ _) fun g hg => .inl (HY.out.1 g hg)
      have N5 := Lib.hid (HMg.out.move hM.moves (Y := X) (Stab.refl _ _) (fun g hg => .inl (HY.out.1 g hg)) rfl)
      go_wp2_with fail
      go_ret
      exact ⟨q, c, xs, rfl, HO.out, P5.out, N5.out, HOn.out⟩
end Go.Proofs.YtbpidhlpakobiaaGreatDoor
