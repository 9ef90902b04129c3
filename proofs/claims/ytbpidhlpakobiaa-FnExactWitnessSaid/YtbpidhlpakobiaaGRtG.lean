/- What tells the unread: all makers keep to it. -/
import Derived.Test.YtbpidhlpakobiaaGRtA
import Derived.Test.YtbpidhlpakobiaaGRt4W
import Derived.Test.YtbpidhlpakobiaaGRm6W
namespace Go.Proofs.Ytbpidhlpakobiaa
open Go.RowKit

theorem Still.cell {X : Nat → Prop} {w w' : World} (h : Still X w w') {b o : Nat} {c : Value} (hc : w.cell? ⟨b, o, none⟩ = some c) (hx : ¬ X b) : w'.cell? ⟨b, o, none⟩ = some c := by
  have hb : b < w.heap.size := World.block_lt_of_cell? w ⟨b, o, none⟩ hc
  have e := h.2 b hb hx
  unfold World.cell? at hc ⊢
  simp only at hc ⊢
  rw [e]; exact hc
def GT : RG := fun X w _ _ U _ _ f2 c2 => Tells X w U f2 c2
theorem gt_rm : RM GT where
  move := fun h hs hy => Tells.move h hs hy
  same := fun h _ _ hu => by rw [show _ = _ from hu]; exact h
  wrap := fun _ _ h => h
  unwrap := fun _ _ _ => ⟨fun args w => enter_of Try.func50 (by kernel_rfl) rfl args w, fun w' _ => unwrap2_any w'⟩
  other := fun {X z w b s c0 c1 c2 c3 d} hd hp hs he hb hx => ⟨fun args w => enter_of Try.func52 (by kernel_rfl) rfl args w, fun w' hst =>
    other2_any d hd s b c0 c1 c2 c3 w' (hst.blk hb hx) hp (IsSh.keep (hst.keeps he.below he.lo) _ _ hs)⟩
  plain := ⟨fun args w => enter_of Try.func59 (by kernel_rfl) rfl args w, fun w' _ => allRead_any w'⟩
  pick := fun {X z w b1 b2 wr kn v1 v2} s1 s2 h8 _ he h1 h2 x1 x2 => ⟨fun args w => enter_of Try.func57 (by kernel_rfl) rfl args w, fun w' hst =>
    pick2_any wr kn b1 b2 v1 v2 w' _ _ (hst.blk h1 x1) (hst.blk h2 x2) (s1.keep (hst.keeps he.below he.lo)) (s2.keep (hst.keeps he.below he.lo)) h8⟩
  items := fun {X w P R U f1 c1 f2 c2 b1 b2 k} hk h1 h2 x1 x2 h => ⟨fun args w => enter_of Try.func62 (by kernel_rfl) rfl args w, fun w' hst =>
    items2_any X U k hk b2 b1 f1 f2 c1 c2 w' (hst.blk h2 x2) (hst.blk h1 x1) (Tells.move h hst fun _ hg => .inl hg)⟩
  newField := fun _ _ _ _ _ _ => ⟨fun args w => enter_of Try.func59 (by kernel_rfl) rfl args w, fun w' _ => allRead_any w'⟩
  field := fun {X z w P R U f1 c1 f2 c2 b1 b2 b3 na su c3 c4 c5 c6 d j} hd hp hs he h1 h2 h3 x1 x2 x3 hj h => ⟨fun args w => enter_of Try.func73 (by kernel_rfl) rfl args w, fun w' hst =>
    field2_any X U d hd na su j b1 b2 b3 f1 f2 c1 c2 c3 c4 c5 c6 w' (hst.blk h1 x1) (hst.blk h2 x2) (hst.blk h3 x3) hp (IsSh.keep (hst.keeps he.below he.lo) _ _ hs) hj (Tells.move h hst fun _ hg => .inl hg)⟩
  record := fun {X w b aa cc L} hb hx _ hcc hrow => ⟨fun args w => enter_of Try.func66 (by kernel_rfl) rfl args w, fun w' hst => by
    have e : (L.map fun p => p.2.2).length = L.length := by simp
    refine rec2_any X (L.map fun p => p.2.2) b aa cc _ w' (by rw [e]; exact hst.blk hb hx) (by rw [e]; exact hcc) fun i hi => ?_
    obtain ⟨g, off, ha, hg, f1, c1, f2, c2, k0, k1, k2⟩ := hrow i (by rw [← e]; exact hi)
    refine ⟨g, off, ha, f1, c1, f2, c2, hst.cell k0 hg, hst.cell k1 hg, ?_⟩
    rw [List.getElem_map]
    exact Tells.move k2 hst fun _ hg => .inl hg⟩

/-- What readingOf's second one tells. -/
theorem readingT_any (X : Nat → Prop) (z w : World) (wt rt : Sh) (vw vr : Value) (hpw : partOk 5 wt = true) (hpr : partOk 5 rt = true) (hw : IsSh z wt vw) (hr : IsSh z rt vr) (he : EnvR X z w) :
    Calls Try.prog 23 #[vw, vr] w (MadeG GT X (fun u => fitB wt u = true) (rdB 10 wt rt) (wnB 10 wt rt) w) :=
  ro_all GT gt_rm 10 X z w 5 5 wt rt vw vr (by omega) (Nat.le_refl _) (Nat.le_refl _) hpw hpr hw hr he
end Go.Proofs.Ytbpidhlpakobiaa
