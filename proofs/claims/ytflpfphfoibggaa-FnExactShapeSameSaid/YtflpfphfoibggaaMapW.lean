/- The map of impl.sameThroughout at shapes: what is looked up, and what comes in. -/
import Derived.Test.YtflpfphfoibggaaSpecSameW
import Derived.Laws.StructEq
import Derived.LaidEqlPtr
import Derived.Laws.IdiomMaps
namespace Go.Proofs.Ytflpfphfoibggaa
open Go.RowKit

/-- A key: two places, and how many. -/
def keyV (a b : Addr) (n : Nat) : Value := .agg #[.pointer (some a), .pointer (some b), .int .i64 n]
/-- A block of the call's own making, none of it frozen. -/
def PlainB (w : World) (g : Nat) : Prop := ∃ c t, w.heap[g]? = some (.cells c t (0, 0))

theorem key_no (w : World) (a a' b b' : Addr) (n n' : Nat) (hne : a ≠ a') (ha : PlainB w a.block) (ha' : PlainB w a'.block) :
    (Op.equal 77 (keyV a b n) (keyV a' b' n')).run Try.prog w = .ok false w := by
  obtain ⟨c, t, hc⟩ := ha
  obtain ⟨c', t', hc'⟩ := ha'
  unfold Op.equal Op.maxDepth keyV
  rw [run_equalIn_struct w 9999 77 _ _ (by kernel_rfl) (by kernel_rfl)]
  have hsz : (Try.prog.info? 30).map (·.size) = some 4 := by kernel_rfl
  obtain ⟨j, hj, hjs⟩ := Option.map_eq_some_iff.1 hsz
  have h48' : ∀ d : Nat, (Op.equalIn (d + 1) 75 (.pointer (some a)) (.pointer (some a'))).run Try.prog w = .ok false w := fun d => by
    simp [Op.equalIn, run_underlying Try.underlying75, sizeOf, typeInfo, hj, hjs, run_sameAddr_other w hne hc hc']
  have h48 := h48' 9998
  clear h48'
  have hp1 : ∀ (x y z : Value), (part 75 #[x, y, z] 0).run Try.prog w = .ok x w := fun _ _ _ => by kernel_rfl
  simp only [Program.fieldsOf, Try.underlying77]
  simp [Op.eqFields, hp1, h48]

/-- What the keys of the map are good for: their first places lie in the blocks M. -/
def KeysIn (w : World) (es : List MapEntry) (M : List Nat) : Prop :=
  ∀ e ∈ es, ∃ g b n, e.key = keyV ⟨g, 0, none⟩ b n ∧ g ∈ M ∧ PlainB w g

theorem find_no (w : World) (g : Nat) (b : Addr) (n : Nat) (hp : PlainB w g) : ∀ (es : List MapEntry) (M : List Nat) (i : Nat), KeysIn w es M → g ∉ M →
    (Instr.findAsking 77 (keyV ⟨g, 0, none⟩ b n) es i).run Try.prog w = .ok none w
  | [], _, _, _, _ => by simp [Instr.findAsking]
  | e :: es, M, i, h, hg => by
    obtain ⟨g', b', n', he, hm, hpl⟩ := h e (by simp)
    have hne : (⟨g, 0, none⟩ : Addr) ≠ ⟨g', 0, none⟩ := fun h => hg (by cases h; exact hm)
    have hk := key_no w ⟨g, 0, none⟩ ⟨g', 0, none⟩ b b' n n' hne hp hpl
    unfold Instr.findAsking
    simp [he, hk, find_no w g b n hp es M (i + 1) (fun e he => h e (by simp [he])) hg]

theorem findKey_no (w : World) (g : Nat) (b : Addr) (n : Nat) (hp : PlainB w g) (es : List MapEntry) (M : List Nat) (h : KeysIn w es M) (hg : g ∉ M) :
    (Instr.findKey 77 (keyV ⟨g, 0, none⟩ b n) es).run Try.prog w = .ok none w := by
  have hf := find_no w g b n hp es M 0 h hg
  unfold Instr.findKey
  cases es with
  | nil => simp [run_underlying Try.underlying77, Instr.findNow]
  | cons e es => simp [run_underlying Try.underlying77, Instr.findNow, Instr.sameNow, hf]

theorem check_key (w : World) (b0 : Bool) (a b : Addr) (n : Nat) : (Instr.checkKey b0 10000 77 (keyV a b n)).run Try.prog w = .ok () w := by
  kernel_rfl

/-- The world with another map in block b. -/
def mapPut (w : World) (b : Nat) (o : Obj) : World := { w with heap := w.heap.setIfInBounds b o }
theorem mapPut_same (w : World) (b : Nat) (o : Obj) (h : b < w.heap.size) : (mapPut w b o).heap[b]? = some o := by
  show (w.heap.setIfInBounds b o)[b]? = _
  simp [h]
theorem mapPut_other (w : World) (b g : Nat) (o : Obj) (h : g ≠ b) : (mapPut w b o).heap[g]? = w.heap[g]? := by
  show (w.heap.setIfInBounds b o)[g]? = _
  rw [Array.getElem?_setIfInBounds, if_neg (fun e => h e.symm)]
theorem mapPut_size (w : World) (b : Nat) (o : Obj) : (mapPut w b o).heap.size = w.heap.size := by
  show (w.heap.setIfInBounds b o).size = _
  simp
theorem mapPut_below {B : Nat} {a w : World} (h : Below B a w) {b : Nat} (hb : B ≤ b) (o : Obj) : Below B a (mapPut w b o) :=
  h.trans ⟨rfl, rfl, rfl, Nat.le_of_eq (mapPut_size _ _ _).symm, fun k hk => mapPut_other _ _ _ _ (by omega)⟩

theorem lookup_no (w : World) (mb g : Nat) (b : Addr) (n : Nat) (es : Array MapEntry) (clock : Nat) (M : List Nat) (hm : w.heap[mb]? = some (.map es clock)) (hp : PlainB w g) (h : KeysIn w es.toList M) (hg : g ∉ M) :
    (Instr.lookup 74 (.map (some mb)) (keyV ⟨g, 0, none⟩ b n) false).run Try.prog w = .ok (.bool false) w := by
  have hz : (zeroValue 4).run Try.prog w = .ok (.bool false) w := by kernel_rfl
  unfold Instr.lookup
  simp [run_underlying Try.underlying74, MapKept.run_getObj_map hm, check_key, findKey_no w g b n hp es.toList M h hg, hz]

theorem update_no (w : World) (mb g : Nat) (b : Addr) (n : Nat) (v : Value) (es : Array MapEntry) (clock : Nat) (M : List Nat) (hm : w.heap[mb]? = some (.map es clock)) (hp : PlainB w g) (h : KeysIn w es.toList M) (hg : g ∉ M) :
    (Instr.mapUpdate 74 (.map (some mb)) (keyV ⟨g, 0, none⟩ b n) v).run Try.prog w = .ok () (mapPut w mb (.map (es.push { key := keyV ⟨g, 0, none⟩ b n, val := v, born := clock }) (clock + 1))) := by
  unfold Instr.mapUpdate
  simp [run_underlying Try.underlying74, MapKept.run_getObj_map hm, check_key, findKey_no w g b n hp es.toList M h hg, MapKept.run_setObj_map _ hm, mapPut]
end Go.Proofs.Ytflpfphfoibggaa
