/- Readings: pairs of function values, told by what they do; a row of Vals that grows. -/
import Derived.Test.YtnnjhcjalmdmcaaGreatGRsP
import Derived.Test.YtnnjhcjalmdmcaaGreatGBlankW
import Derived.Laws.EntriesVeiled
namespace Go.Proofs.YtnnjhcjalmdmcaaGreat
open Go.RowKit

/-- Of what was there, only the blocks of X may have changed. -/
def Still (X : Nat → Prop) (w w' : World) : Prop := w.heap.size ≤ w'.heap.size ∧ ∀ g, g < w.heap.size → ¬ X g → w'.heap[g]? = w.heap[g]?
theorem Still.refl (X : Nat → Prop) (w : World) : Still X w w := ⟨Nat.le_refl _, fun _ _ _ => rfl⟩
theorem Still.of_below {X : Nat → Prop} {w w' : World} (h : Below w.heap.size w w') : Still X w w' := ⟨h.size, fun g hg _ => h.block g hg⟩
theorem Still.of_only {X : Nat → Prop} {F : List Nat} {w w' : World} (h : Only F w w') (hF : ∀ g ∈ F, X g) : Still X w w' := ⟨h.size, fun g hg hx => h.block g hg fun hf => hx (hF g hf)⟩
theorem Still.trans {X : Nat → Prop} {a b c : World} (h : Still X a b) (k : Still X b c) : Still X a c :=
  ⟨Nat.le_trans h.1 k.1, fun g hg hx => (k.2 g (Nat.lt_of_lt_of_le hg h.1) hx).trans (h.2 g hg hx)⟩
theorem Still.below {X : Nat → Prop} {a b c : World} (h : Still X a b) (k : Below b.heap.size b c) : Still X a c := h.trans (Still.of_below k)
theorem Still.back {X Y : Nat → Prop} {w w' w0 : World} (h : Still X w w') (k : Still Y w' w0) (hy : ∀ g, Y g → X g ∨ w.heap.size ≤ g) : Still X w w0 :=
  ⟨Nat.le_trans h.1 k.1, fun g hg hx => (k.2 g (Nat.lt_of_lt_of_le hg h.1) fun y => by rcases hy g y with a | a; exact hx a; omega).trans (h.2 g hg hx)⟩
/-- .. keeps the cells that lie below all of X. -/
theorem Still.keeps {X : Nat → Prop} {z w w' : World} (h : Still X w w') (hz : Below z.heap.size z w) (hx : ∀ g, X g → z.heap.size ≤ g) : Keeps z w' := fun b o c hc => by
  have hb : b < z.heap.size := World.block_lt_of_cell? z ⟨b, o, none⟩ hc
  have e : w'.heap[b]? = z.heap[b]? := (h.2 b (Nat.lt_of_lt_of_le hb hz.size) fun x => by have := hx b x; omega).trans (hz.block b hb)
  unfold World.cell? at hc ⊢
  simp only at hc ⊢
  rw [e]; exact hc
theorem Still.blk {X : Nat → Prop} {w w' : World} (h : Still X w w') {b : Nat} {o : Obj} (hb : w.heap[b]? = some o) (hx : ¬ X b) : w'.heap[b]? = some o :=
  (h.2 b (Array.getElem?_eq_some_iff.1 hb).1 hx).trans hb

/-- A function value, and what it holds. -/
abbrev fnv (f : FuncId) (c : Array Value) : Value := .func (.func f) #[] c
/-- What a call that resolves leaves. -/
def RdPost (r : Va × Int) (w : World) (e : Ending) (w' : World) : Prop :=
  ∃ c0 c1 c2 c3 F, e = .returned (.agg #[c0, c1, c2, c3, .int .i64 r.2]) ∧ OwnVa w' w.heap.size r.1 (.agg #[c0, c1, c2, c3]) F ∧ F.Nodup ∧ Below w.heap.size w w'
/-- What a call that tells the unread leaves. -/
def WnPost (U : Option Va) (w : World) (e : Ending) (w' : World) : Prop :=
  ∃ c0 c1 c2 c3 F, e = .returned (.tuple #[.agg #[c0, c1, c2, c3], .bool U.isSome]) ∧ OwnVa w' w.heap.size (U.getD zva) (.agg #[c0, c1, c2, c3]) F ∧ F.Nodup ∧ Below w.heap.size w w'
def Enters (F : FuncId) : Prop := ∀ (args : Array Value) (w : World), (callFunc F args).run Tryz.prog w = .ok (.enter F args) w
/-- In w, and where all but X stands as in w, the function resolves what P is of as R tells. -/
def Reads (X : Nat → Prop) (w : World) (P : Va → Prop) (R : Va → Va × Int) (F : FuncId) (caps : Array Value) : Prop :=
  Enters F ∧ ∀ (w' : World) (u : Va) (v : Value), Still X w w' → P u → IsVa w' u v → Calls Tryz.prog F (#[v] ++ caps) w' (RdPost (R u) w')
/-- .. and the other one tells the unread. -/
def Tells (X : Nat → Prop) (w : World) (U : Option Va) (F : FuncId) (caps : Array Value) : Prop :=
  Enters F ∧ ∀ (w' : World), Still X w w' → Calls Tryz.prog F caps w' (WnPost U w')
structure ReadAs (X : Nat → Prop) (w : World) (P : Va → Prop) (R : Va → Va × Int) (U : Option Va) (f1 : FuncId) (c1 : Array Value) (f2 : FuncId) (c2 : Array Value) : Prop where
  reads : Reads X w P R f1 c1
  tells : Tells X w U f2 c2
/-- What makes a reading leaves. -/
def MadeR (X : Nat → Prop) (P : Va → Prop) (R : Va → Va × Int) (U : Option Va) (w : World) (e : Ending) (w' : World) : Prop :=
  ∃ f1 c1 f2 c2, e = .returned (.agg #[fnv f1 c1, fnv f2 c2]) ∧ ReadAs X w' P R U f1 c1 f2 c2 ∧ Below w.heap.size w w'
theorem Reads.move {X Y : Nat → Prop} {w w' : World} {P : Va → Prop} {R : Va → Va × Int} {F : FuncId} {c : Array Value} (h : Reads X w P R F c) (hs : Still X w w') (hy : ∀ g, Y g → X g ∨ w.heap.size ≤ g) : Reads Y w' P R F c :=
  ⟨h.1, fun w0 u v k => h.2 w0 u v (hs.back k hy)⟩
theorem Tells.move {X Y : Nat → Prop} {w w' : World} {U : Option Va} {F : FuncId} {c : Array Value} (h : Tells X w U F c) (hs : Still X w w') (hy : ∀ g, Y g → X g ∨ w.heap.size ≤ g) : Tells Y w' U F c :=
  ⟨h.1, fun w0 k => h.2 w0 (hs.back k hy)⟩
theorem ReadAs.move {X Y : Nat → Prop} {w w' : World} {P : Va → Prop} {R : Va → Va × Int} {U : Option Va} {f1 f2 : FuncId} {c1 c2 : Array Value} (h : ReadAs X w P R U f1 c1 f2 c2) (hs : Still X w w') (hy : ∀ g, Y g → X g ∨ w.heap.size ≤ g) : ReadAs Y w' P R U f1 c1 f2 c2 :=
  ⟨h.reads.move hs hy, h.tells.move hs hy⟩
theorem ReadAs.below {X : Nat → Prop} {w w' : World} {P : Va → Prop} {R : Va → Va × Int} {U : Option Va} {f1 f2 : FuncId} {c1 c2 : Array Value} (h : ReadAs X w P R U f1 c1 f2 c2) (hb : Below w.heap.size w w') : ReadAs X w' P R U f1 c1 f2 c2 :=
  h.move (Still.of_below hb) fun _ hg => .inl hg
theorem ReadAs.as {X : Nat → Prop} {w : World} {P P' : Va → Prop} {R R' : Va → Va × Int} {U U' : Option Va} {f1 f2 : FuncId} {c1 c2 : Array Value} (h : ReadAs X w P R U f1 c1 f2 c2) (hp : ∀ u, P' u → P u) (hr : ∀ u, P' u → R' u = R u) (hu : U' = U) : ReadAs X w P' R' U' f1 c1 f2 c2 :=
  ⟨⟨h.reads.1, fun w' u v hs hP hv => by rw [hr u hP]; exact h.reads.2 w' u v hs (hp u hP) hv⟩, by rw [hu]; exact h.tells⟩
theorem MadeR.as {X : Nat → Prop} {P P' : Va → Prop} {R R' : Va → Va × Int} {U U' : Option Va} {w : World} {e : Ending} {w' : World} (h : MadeR X P R U w e w') (hp : ∀ u, P' u → P u) (hr : ∀ u, P' u → R' u = R u) (hu : U' = U) : MadeR X P' R' U' w e w' := by
  obtain ⟨f1, c1, f2, c2, he, ha, hb⟩ := h
  exact ⟨f1, c1, f2, c2, he, ha.as hp hr hu, hb⟩

theorem blk5 {w : World} {b : Nat} {T : TypeId} {c0 c1 c2 c3 c4 : Value} (h : w.heap[b]? = some (.cells #[c0, c1, c2, c3, c4] T (0, 0))) :
    w.cell? ⟨b, 0, none⟩ = some c0 ∧ w.cell? ⟨b, 1, none⟩ = some c1 ∧ w.cell? ⟨b, 2, none⟩ = some c2 ∧ w.cell? ⟨b, 3, none⟩ = some c3 ∧ w.cell? ⟨b, 4, none⟩ = some c4 ∧
    w.frozen? ⟨b, 0, none⟩ = false ∧ w.frozen? ⟨b, 1, none⟩ = false ∧ w.frozen? ⟨b, 2, none⟩ = false ∧ w.frozen? ⟨b, 3, none⟩ = false ∧ w.frozen? ⟨b, 4, none⟩ = false ∧ b < w.heap.size := by
  refine ⟨?_, ?_, ?_, ?_, ?_, ?_, ?_, ?_, ?_, ?_, (Array.getElem?_eq_some_iff.1 h).1⟩ <;> simp [World.cell?, World.frozen?, h]
theorem blk2r {w : World} {b : Nat} {T : TypeId} {c0 c1 : Value} (h : w.heap[b]? = some (.cells #[c0, c1] T (0, 0))) :
    w.cell? ⟨b, 0, none⟩ = some c0 ∧ w.cell? ⟨b, 1, none⟩ = some c1 ∧ w.frozen? ⟨b, 0, none⟩ = false ∧ w.frozen? ⟨b, 1, none⟩ = false ∧ b < w.heap.size := by
  refine ⟨?_, ?_, ?_, ?_, (Array.getElem?_eq_some_iff.1 h).1⟩ <;> simp [World.cell?, World.frozen?, h]
theorem blk1r {w : World} {b : Nat} {T : TypeId} {c0 : Value} (h : w.heap[b]? = some (.cells #[c0] T (0, 0))) :
    w.cell? ⟨b, 0, none⟩ = some c0 ∧ w.frozen? ⟨b, 0, none⟩ = false ∧ b < w.heap.size := by
  refine ⟨?_, ?_, (Array.getElem?_eq_some_iff.1 h).1⟩ <;> simp [World.cell?, World.frozen?, h]

/-- At a round's head: the row of what was got so far, in the block gv of a Val of kind k. -/
def RwInv (W wr : World) (gv : Nat) (k : Int) (its : List Va) (j : Nat) (p : Option Addr) (cap : Nat) (cs : List Value) (F : List Nat) : Prop :=
  wr.heap[gv]? = some (.cells #[.int .i64 k, .int .i64 0, .string ⟨#[]⟩, .slice p j cap] 29 (0, 0)) ∧ wr.ownsRow W.heap.size 29 4 (.slice p j cap) j cs ∧ OwnVas wr W.heap.size its cs F ∧
    (blkOf (.slice p j cap) ++ F).Nodup ∧ Only [gv] W wr ∧ gv < W.heap.size ∧ its.length = j
theorem RwInv.nil {W : World} {gv : Nat} {k : Int} (h : W.heap[gv]? = some (.cells #[.int .i64 k, .int .i64 0, .string ⟨#[]⟩, .slice none 0 0] 29 (0, 0))) : RwInv W W gv k [] 0 none 0 [] [] :=
  ⟨h, World.ownsRow_nil _ _ _ _, by simp [OwnVas], by simp [blkOf], Only.refl _ _, (Array.getElem?_eq_some_iff.1 h).1, rfl⟩
/-- Worlds in which nothing of it changed. -/
theorem RwInv.below {W wr w' : World} {gv j cap : Nat} {k : Int} {its : List Va} {p : Option Addr} {cs : List Value} {F : List Nat} (h : RwInv W wr gv k its j p cap cs F) (hb : Below wr.heap.size wr w') : RwInv W w' gv k its j p cap cs F := by
  obtain ⟨h1, h2, h3, h4, h5, h6, h7⟩ := h
  exact ⟨blk_below h1 hb (Array.getElem?_eq_some_iff.1 h1).1, own_block h2 fun q hq => hb.block q (blkOf_own h2 q hq).2, h3.move (Nat.le_refl _) fun q hq => hb.block q (h3.lt q hq).2, h4, h5.trans (Only.of_below hb), h6, h7⟩

/-- One round: the next one is got, put behind the row, and the row put into its place. -/
theorem rw_step {W wr w1 w2 : World} {gv j cap cap' : Nat} {k : Int} {its : List Va} {p p' p3 : Option Addr} {cs : List Value} {F F1 : List Nat} {x : Va} {kk nn : Int} {t : ByteArray} {n3 m3 B1 : Nat} (h : RwInv W wr gv k its j p cap cs F) (hB : wr.heap.size ≤ B1)
    (ho1 : OwnVa w1 B1 x (.agg #[.int .i64 kk, .int .i64 nn, .string t, .slice p3 n3 m3]) F1) (hn1 : F1.Nodup) (hb1 : Below wr.heap.size wr w1)
    (ho2 : w2.ownsRow W.heap.size 29 4 (.slice p' (j + 1) cap') (j + 1) (cs ++ [.int .i64 kk, .int .i64 nn, .string t, .slice p3 n3 m3])) (hy2 : Only (blkOf (.slice p j cap)) w1 w2) (hp2 : ∀ q ∈ blkOf (.slice p' (j + 1) cap'), q ∈ blkOf (.slice p j cap) ∨ w1.heap.size ≤ q) :
    RwInv W (w2.setCell ⟨gv, 3, none⟩ (.slice p' (j + 1) cap')) gv k (its ++ [x]) (j + 1) p' cap' (cs ++ [.int .i64 kk, .int .i64 nn, .string t, .slice p3 n3 m3]) (F ++ F1) := by
  obtain ⟨h1, h2, h3, h4, h5, h6, h7⟩ := h
  have hgw : gv < wr.heap.size := (Array.getElem?_eq_some_iff.1 h1).1
  have lr := blkOf_own h2
  have lF := h3.lt
  have l1 := OwnVa.blocks _ _ _ ho1
  have l2 := blkOf_own ho2
  have d4 := (List.nodup_append.1 h4).2.2
  have g2 : w2.heap[gv]? = some (.cells #[.int .i64 k, .int .i64 0, .string ⟨#[]⟩, .slice p j cap] 29 (0, 0)) := by
    rw [hy2.block gv (Nat.lt_of_lt_of_le hgw hb1.size) fun hx => by have := lr gv hx; omega, hb1.block gv hgw]; exact h1
  have e : ∀ q, q ≠ gv → (w2.setCell ⟨gv, 3, none⟩ (.slice p' (j + 1) cap')).heap[q]? = w2.heap[q]? := fun q hq => Below.heap_setCell _ _ _ _ hq
  refine ⟨by rw [Go.heap_setCell_same w2 gv 3 _ _ _ g2]; rfl, own_block ho2 fun q hq => e q (by have := l2 q hq; omega), ?_, ?_, ?_, h6, by rw [List.length_append, h7]; rfl⟩
  · have a3 : OwnVas w2 W.heap.size its cs F := h3.move (Nat.le_refl _) fun q hq => by
      rw [hy2.block q (Nat.lt_of_lt_of_le (lF q hq).2 hb1.size) fun hx => d4 q hx q hq rfl, hb1.block q (lF q hq).2]
    have a1 : OwnVa w2 W.heap.size x (.agg #[.int .i64 kk, .int .i64 nn, .string t, .slice p3 n3 m3]) F1 := OwnVa.move (by have := h5.size; omega) _ _ _ (fun q hq => hy2.block q (l1 q hq).2 fun hx => by have := lr q hx; have := l1 q hq; omega) ho1
    exact (OwnVas.snoc a3 a1).move (Nat.le_refl _) fun q hq => e q (by
      rcases List.mem_append.1 hq with hq | hq
      · have := lF q hq; omega
      · have := l1 q hq; omega)
  · rw [List.nodup_append, List.nodup_append]
    have hF := (List.nodup_append.1 h4).2.1
    refine ⟨?_, ⟨hF, hn1, fun a ha b hb => by have := lF a ha; have := l1 b hb; omega⟩, fun a ha b hb => ?_⟩
    · cases p' <;> simp [blkOf]
    · rcases hp2 a ha with hx | hx
      · rcases List.mem_append.1 hb with hb | hb
        · exact d4 a hx b hb
        · have := lr a hx; have := l1 b hb; omega
      · rcases List.mem_append.1 hb with hb | hb
        · have := lF b hb; have := hb1.size; omega
        · have := l1 b hb; omega
  · refine Only.set ?_ (by simp) _ _
    refine ⟨hy2.os.trans (hb1.os.trans h5.os), hy2.tape.trans (hb1.tape.trans h5.tape), hy2.output.trans (hb1.output.trans h5.output), Nat.le_trans h5.size (Nat.le_trans hb1.size hy2.size), fun q hq hne => ?_⟩
    have hqw : q < wr.heap.size := Nat.lt_of_lt_of_le hq h5.size
    rw [hy2.block q (Nat.lt_of_lt_of_le hqw hb1.size) fun hx => by have := lr q hx; omega, hb1.block q hqw, h5.block q hq hne]

/-- The four cells of a Val, put into a block. -/
def putQ (w : World) (b : Nat) (c0 c1 c2 c3 : Value) : World :=
  (((w.setCell ⟨b, 0, none⟩ c0).setCell ⟨b, 1, none⟩ c1).setCell ⟨b, 2, none⟩ c2).setCell ⟨b, 3, none⟩ c3
theorem putQ_other (w : World) (b : Nat) (c0 c1 c2 c3 : Value) {g : Nat} (h : g ≠ b) : (putQ w b c0 c1 c2 c3).heap[g]? = w.heap[g]? := by
  unfold putQ
  rw [Below.heap_setCell _ _ _ _ h, Below.heap_setCell _ _ _ _ h, Below.heap_setCell _ _ _ _ h, Below.heap_setCell _ _ _ _ h]
theorem putQ_below {B : Nat} {a w : World} (h : Below B a w) {b : Nat} (hb : B ≤ b) (c0 c1 c2 c3 : Value) : Below B a (putQ w b c0 c1 c2 c3) :=
  (((h.setCell (p := ⟨b, 0, none⟩) hb _).setCell (p := ⟨b, 1, none⟩) hb _).setCell (p := ⟨b, 2, none⟩) hb _).setCell (p := ⟨b, 3, none⟩) hb _
theorem putQ_alloc {w : World} {b : Nat} (hb : b < w.heap.size) (o : Obj) (c0 c1 c2 c3 : Value) : putQ (w.alloc o) b c0 c1 c2 c3 = (putQ w b c0 c1 c2 c3).alloc o := by
  unfold putQ
  rw [World.setCell_alloc_past _ _ _ _ hb, World.setCell_alloc_past _ _ _ _ (by rw [size_set]; exact hb), World.setCell_alloc_past _ _ _ _ (by rw [size_set, size_set]; exact hb), World.setCell_alloc_past _ _ _ _ (by rw [size_set, size_set, size_set]; exact hb)]
theorem wn_end {U : Option Va} {w w1 : World} {b : Nat} {c0 c1 c2 c3 : Value} {F : List Nat} (hb : Below w.heap.size w w1) (hz : w.heap.size ≤ b) (hown : OwnVa w1 w.heap.size (U.getD zva) (.agg #[c0, c1, c2, c3]) F) (hF : ∀ g ∈ F, g ≠ b) (hnd : F.Nodup) :
    WnPost U w (.returned (.tuple #[.agg #[c0, c1, c2, c3], .bool U.isSome])) (putQ w1 b c0 c1 c2 c3) :=
  ⟨c0, c1, c2, c3, F, rfl, OwnVa.move (Nat.le_refl _) _ _ _ (fun g hg => putQ_other _ _ _ _ _ _ (hF g hg)) hown, hnd, putQ_below hb hz _ _ _ _⟩
theorem rd_end {r : Va × Int} {w w1 : World} {b : Nat} {c0 c1 c2 c3 : Value} {F : List Nat} (hb : Below w.heap.size w w1) (hz : w.heap.size ≤ b) (hown : OwnVa w1 w.heap.size r.1 (.agg #[c0, c1, c2, c3]) F) (hF : ∀ g ∈ F, g ≠ b) (hnd : F.Nodup) :
    RdPost r w (.returned (.agg #[c0, c1, c2, c3, .int .i64 r.2])) ((putQ w1 b c0 c1 c2 c3).setCell ⟨b, 4, none⟩ (.int .i64 r.2)) :=
  ⟨c0, c1, c2, c3, F, rfl, OwnVa.move (Nat.le_refl _) _ _ _ (fun g hg => by rw [Below.heap_setCell _ _ _ _ (hF g hg), putQ_other _ _ _ _ _ _ (hF g hg)]) hown, hnd, (putQ_below hb hz _ _ _ _).setCell (p := ⟨b, 4, none⟩) hz _⟩
theorem va_end {x : Va} {w w1 : World} {b : Nat} {c0 c1 c2 c3 : Value} {F : List Nat} (hb : Below w.heap.size w w1) (hz : w.heap.size ≤ b) (hown : OwnVa w1 w.heap.size x (.agg #[c0, c1, c2, c3]) F) (hF : ∀ g ∈ F, g ≠ b) (hnd : F.Nodup) :
    ToVPost x w (.returned (.agg #[c0, c1, c2, c3])) (putQ w1 b c0 c1 c2 c3) :=
  ⟨c0, c1, c2, c3, F, rfl, OwnVa.move (Nat.le_refl _) _ _ _ (fun g hg => putQ_other _ _ _ _ _ _ (hF g hg)) hown, hnd, putQ_below hb hz _ _ _ _⟩
/-- A Val without Items. -/
theorem own_leaf {w : World} {B : Nat} {k n : Int} {t : ByteArray} (hk : InI64' k) (hn : InI64' n) (ht : t.size ≤ 9223372036854775807) : OwnVa w B (.mk k n t []) (.agg #[.int .i64 k, .int .i64 n, .string t, .slice none 0 0]) [] := by
  simp only [OwnVa]
  exact ⟨_, [], [], rfl, hk, hn, ht, World.ownsRow_nil _ _ _ _, by simp [OwnVas], rfl⟩
theorem own_zva (w : World) (B : Nat) : OwnVa w B zva (.agg #[.int .i64 0, .int .i64 0, .string ⟨#[]⟩, .slice none 0 0]) [] :=
  own_leaf (by unfold InI64'; omega) (by unfold InI64'; omega) (by decide)
theorem fields_in {w : World} {k n : Int} {t : ByteArray} {it : List Va} {v : Value} (h : IsVa w (.mk k n t it) v) : InI64' k ∧ InI64' n ∧ t.size ≤ 9223372036854775807 := by
  obtain ⟨_, _, h1, h2, h3, _⟩ := h.parts
  exact ⟨h1, h2, h3⟩
theorem wn_at {U : Option Va} {w w' : World} {c0 c1 c2 c3 : Value} {F : List Nat} (hb : Below w.heap.size w w') (hown : OwnVa w' w.heap.size (U.getD zva) (.agg #[c0, c1, c2, c3]) F) (hnd : F.Nodup) :
    WnPost U w (.returned (.tuple #[.agg #[c0, c1, c2, c3], .bool U.isSome])) w' := ⟨c0, c1, c2, c3, F, rfl, hown, hnd, hb⟩
theorem rd_at {r : Va × Int} {w w' : World} {c0 c1 c2 c3 : Value} {F : List Nat} (hb : Below w.heap.size w w') (hown : OwnVa w' w.heap.size r.1 (.agg #[c0, c1, c2, c3]) F) (hnd : F.Nodup) :
    RdPost r w (.returned (.agg #[c0, c1, c2, c3, .int .i64 r.2])) w' := ⟨c0, c1, c2, c3, F, rfl, hown, hnd, hb⟩
theorem va_at {x : Va} {w w' : World} {c0 c1 c2 c3 : Value} {F : List Nat} (hb : Below w.heap.size w w') (hown : OwnVa w' w.heap.size x (.agg #[c0, c1, c2, c3]) F) (hnd : F.Nodup) :
    ToVPost x w (.returned (.agg #[c0, c1, c2, c3])) w' := ⟨c0, c1, c2, c3, F, rfl, hown, hnd, hb⟩
/-- A Val whose one Item lies in a new block. -/
theorem own_one {w : World} {B : Nat} {x : Va} {c0 c1 c2 c3 : Value} {F : List Nat} {k : Int} (hk : InI64' k) (h : OwnVa w B x (.agg #[c0, c1, c2, c3]) F) (hn : F.Nodup) (hB : B ≤ w.heap.size) :
    OwnVa (w.alloc (.cells #[c0, c1, c2, c3] 29)) B (.mk k 0 ⟨#[]⟩ [x]) (.agg #[.int .i64 k, .int .i64 0, .string ⟨#[]⟩, .slice (some ⟨w.heap.size, 0, none⟩) 1 1]) (w.heap.size :: F) ∧ (w.heap.size :: F).Nodup := by
  have lt := OwnVa.blocks _ _ _ h
  refine ⟨?_, List.nodup_cons.2 ⟨fun hm => by have := lt _ hm; omega, hn⟩⟩
  simp only [OwnVa]
  refine ⟨_, [c0, c1, c2, c3], F, rfl, hk, by unfold InI64'; omega, by decide, ⟨rfl, .inr ⟨w.heap.size, 1, #[c0, c1, c2, c3], rfl, hB, Go.Deep.blk_alloc_new _ _, Nat.le_refl _, by unfold maxLen; omega, rfl, rfl⟩⟩, ?_, rfl⟩
  simp only [OwnVas]
  exact ⟨c0, c1, c2, c3, [], F, [], rfl, OwnVa.move (Nat.le_refl _) _ _ _ (fun g hg => (below_alloc w _).block g (lt g hg).2) h, ⟨rfl, rfl⟩, by simp⟩
/-- One Item of a row exchanged. -/
theorem OwnVas.put {w : World} {B : Nat} {x : Va} {c0 c1 c2 c3 : Value} {F1 : List Nat} (hx : OwnVa w B x (.agg #[c0, c1, c2, c3]) F1) (hn1 : F1.Nodup) : ∀ {it : List Va} {cs : List Value} {F : List Nat} (j : Nat), j < it.length → OwnVas w B it cs F → F.Nodup → (∀ a ∈ F, ∀ b ∈ F1, a ≠ b) →
    ∃ F', OwnVas w B (it.set j x) ((((cs.set (j * 4) c0).set (j * 4 + 1) c1).set (j * 4 + 2) c2).set (j * 4 + 3) c3) F' ∧ F'.Nodup ∧ ∀ q ∈ F', q ∈ F ∨ q ∈ F1
  | [], _, _, _, hj, _, _, _ => by cases hj
  | y :: l, cs, F, 0, _, h, hn, hd => by
    simp only [OwnVas] at h
    obtain ⟨d0, d1, d2, d3, cs', G1, G2, rfl, h1, h2, rfl⟩ := h
    refine ⟨F1 ++ G2, ?_, ?_, fun q hq => ?_⟩
    · simp only [List.set_cons_zero, OwnVas]
      exact ⟨c0, c1, c2, c3, cs', F1, G2, rfl, hx, h2, rfl⟩
    · rw [List.nodup_append]
      exact ⟨hn1, (List.nodup_append.1 hn).2.1, fun a ha b hb e => hd b (by simp [hb]) a ha e.symm⟩
    · rcases List.mem_append.1 hq with hq | hq
      · exact .inr hq
      · exact .inl (by simp [hq])
  | y :: l, cs, F, j + 1, hj, h, hn, hd => by
    simp only [OwnVas] at h
    obtain ⟨d0, d1, d2, d3, cs', G1, G2, rfl, h1, h2, rfl⟩ := h
    obtain ⟨F', g1, g2, g3⟩ := OwnVas.put hx hn1 j (by simpa using hj) h2 (List.nodup_append.1 hn).2.1 fun a ha b hb => hd a (by simp [ha]) b hb
    refine ⟨G1 ++ F', ?_, ?_, fun q hq => ?_⟩
    · simp only [List.set_cons_succ, OwnVas]
      refine ⟨d0, d1, d2, d3, _, G1, F', ?_, h1, g1, rfl⟩
      have e : (j + 1) * 4 = j * 4 + 4 := by omega
      rw [e]
      simp [List.set_cons_succ]
    · rw [List.nodup_append]
      refine ⟨(List.nodup_append.1 hn).1, g2, fun a ha b hb => ?_⟩
      rcases g3 b hb with hb | hb
      · exact (List.nodup_append.1 hn).2.2 a ha b hb
      · exact hd a (by simp [ha]) b hb
    · rcases List.mem_append.1 hq with hq | hq
      · exact .inl (by simp [hq])
      · rcases g3 q hq with hq | hq
        · exact .inl (by simp [hq])
        · exact .inr hq
/-- .. in memory: its four cells are put. -/
theorem own_put {w : World} {B j m : Nat} {k n : Int} {t : ByteArray} {it : List Va} {x : Va} {p : Option Addr} {c0 c1 c2 c3 : Value} {F F1 : List Nat} (h : OwnVa w B (.mk k n t it) (.agg #[.int .i64 k, .int .i64 n, .string t, .slice p it.length m]) F) (hn : F.Nodup)
    (hx : OwnVa w B x (.agg #[c0, c1, c2, c3]) F1) (hn1 : F1.Nodup) (hd : ∀ a ∈ F, ∀ b ∈ F1, a ≠ b) (hj : j < it.length) :
    ∃ g, p = some ⟨g, 0, none⟩ ∧ B ≤ g ∧ g < w.heap.size ∧ g ∈ F ∧ (∀ i, i < 4 → (∃ v, w.cell? ⟨g, j * 4 + i, none⟩ = some v) ∧ w.frozen? ⟨g, j * 4 + i, none⟩ = false) ∧ it.length ≤ m ∧ m ≤ 9223372036854775807 ∧
    ∃ F', OwnVa ((((w.setCell ⟨g, j * 4, none⟩ c0).setCell ⟨g, j * 4 + 1, none⟩ c1).setCell ⟨g, j * 4 + 2, none⟩ c2).setCell ⟨g, j * 4 + 3, none⟩ c3) B (.mk k n t (it.set j x)) (.agg #[.int .i64 k, .int .i64 n, .string t, .slice p it.length m]) F' ∧ F'.Nodup ∧ ∀ q ∈ F', q ∈ F ∨ q ∈ F1 := by
  obtain ⟨vp, cs, Fs, e, hk, hnn, ht, hr, ho, rfl⟩ := h.parts
  simp only [Value.agg.injEq, Array.mk.injEq, List.cons.injEq, and_true, true_and] at e
  subst e
  obtain ⟨hl, ⟨hv, h0⟩ | ⟨g, cap, cur, hv, hb, hg, hnc, hc, hsz, htk⟩⟩ := hr
  · omega
  · simp only [Value.slice.injEq, true_and] at hv
    obtain ⟨rfl, rfl⟩ := hv
    have hlt : g < w.heap.size := (Array.getElem?_eq_some_iff.1 hg).1
    obtain ⟨F', g1, g2, g3⟩ := ho.put hx hn1 j hj (List.nodup_append.1 hn).2.1 fun a ha b hb => hd a (by simp [ha]) b hb
    have hgF : g ∉ Fs := fun hm => (List.nodup_append.1 hn).2.2 g (by simp [blkOf]) g hm rfl
    have hg1 : g ∉ F1 := fun hm => hd g (by simp [blkOf]) g hm rfl
    have hgF' : g ∉ F' := fun hm => by rcases g3 g hm with a | a; exact hgF a; exact hg1 a
    refine ⟨g, rfl, hb, hlt, by simp [blkOf], fun i hi => ⟨⟨cur[j * 4 + i]'(by omega), ?_⟩, ?_⟩, hnc, by unfold maxLen at hc; omega, g :: F', ?_, List.nodup_cons.2 ⟨hgF', g2⟩, fun q hq => ?_⟩
    · simp [World.cell?, hg, Array.getElem?_eq_getElem (show j * 4 + i < cur.size by omega)]
    · simp [World.frozen?, hg]
    · have a1 := blk_set hg (j * 4) c0
      have a2 := blk_set a1 (j * 4 + 1) c1
      have a3 := blk_set a2 (j * 4 + 2) c2
      have a4 := blk_set a3 (j * 4 + 3) c3
      simp only [OwnVa]
      refine ⟨_, _, F', rfl, hk, hnn, ht, ⟨?_, .inr ⟨g, m, _, by simp, hb, a4, by simpa using hnc, hc, by simpa using hsz, rfl⟩⟩, ?_, by simp [blkOf]⟩
      · rw [List.length_take]
        simp; omega
      · have hq : ∀ q, q ≠ g → ((((w.setCell ⟨g, j * 4, none⟩ c0).setCell ⟨g, j * 4 + 1, none⟩ c1).setCell ⟨g, j * 4 + 2, none⟩ c2).setCell ⟨g, j * 4 + 3, none⟩ c3).heap[q]? = w.heap[q]? := fun q hq => by
          rw [Below.heap_setCell _ _ _ _ hq, Below.heap_setCell _ _ _ _ hq, Below.heap_setCell _ _ _ _ hq, Below.heap_setCell _ _ _ _ hq]
        have g4 := g1.move (Nat.le_refl _) fun q hm => hq q fun e => hgF' (e ▸ hm)
        have e : (((((cur.setIfInBounds (j * 4) c0).setIfInBounds (j * 4 + 1) c1).setIfInBounds (j * 4 + 2) c2).setIfInBounds (j * 4 + 3) c3).toList.take ((it.set j x).length * 4)) = (((cs.set (j * 4) c0).set (j * 4 + 1) c1).set (j * 4 + 2) c2).set (j * 4 + 3) c3 := by
          simp only [Array.toList_setIfInBounds, List.take_set, List.length_set, htk]
        rw [e]
        exact g4
    · rcases List.mem_cons.1 hq with rfl | hq
      · exact .inl (by simp [blkOf])
      · rcases g3 q hq with hq | hq
        · exact .inl (by simp [hq])
        · exact .inr hq
end Go.Proofs.YtnnjhcjalmdmcaaGreat
