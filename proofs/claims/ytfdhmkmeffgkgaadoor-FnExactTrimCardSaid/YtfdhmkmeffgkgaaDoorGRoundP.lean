/- Laws: in a round of a range over a function, a region that draws its order: what only reads ahead of a tail in one order. -/
import Derived.RangeFuncNested
import Derived.RangeFuncCalls
import Derived.OwnWalkIn
import Derived.StillTailTactics
import Derived.Test.YtfdhmkmeffgkgaaDoorGBase
namespace Go.Proofs.YtfdhmkmeffgkgaaDoor
open Go.RowKit
variable {P : Program} {Q : Exit → Act → World → Prop} {r m : Nat}

theorem upon_round {o : Oper} {a : Act} {next : Act → World → Prop} : ∀ res : Result Next, o.upon P a next Q res → o.uponIn (Fence.wide.inRound r) m P a next Q res
  | .ok (.value _) _, h => h
  | .ok .skip _, h => h
  | .ok (.defer _) _, h => h
  | .ok (.enter _ _) _, h => ⟨fun h => (by cases h), CallsIn.inRound r (callsIn_wide.2 h)⟩
  | .ok (.row _ _) _, h => ⟨fun h => (by cases h), fun c cs _ => let ⟨v, w', hr, s⟩ := h c cs; ⟨v, w', hr, stepsIn_wide.2 s⟩⟩
  | .halt (.panic _) _, h => h
theorem op_round {ops : Array Oper} {i : Nat} {K K' : Act → World → Prop} {a : Act} {w : World} (hd : ∀ (i : Nat) (o : Oper), ops[i]? = some o → ∀ c, o.op ≠ Op.defer c) (hQ : ¬ LetsOut Q) (hk : ∀ (a : Act) (w : World), K a w → K' a w) (h : wpOp P ops Q i K a w) : wpOpIn (Fence.wide.inRound r) m P ops Q i K' a w := by
  unfold wpOp at h
  unfold wpOpIn
  cases ho : ops[i]? with
  | none => rw [ho] at h; exact hk _ _ h
  | some o =>
    rw [ho] at h
    simp only at h ⊢
    by_cases hw : Region.wanted o (yielded ops a.tmps) = true
    · rw [if_pos hw] at h ⊢
      rcases h with h | h
      · refine ⟨fun _ _ => trivial, ?_⟩
        rw [Oper.semAt_eq _ _ _ (hd i o ho)]
        exact upon_round _ (Oper.wp_mono hk h)
      · exact absurd h.2 hQ
    · rw [if_neg hw] at h ⊢
      exact ⟨fun _ _ => trivial, hk _ _ h⟩
theorem any_round {md : Region.Mode} {ops : Array Oper} (hd : ∀ (i : Nat) (o : Oper), ops[i]? = some o → ∀ c, o.op ≠ Op.defer c) (hQ : ¬ LetsOut Q) : ∀ (fuel : Nat) (listed : Array Bool) (a : Act) (w : World), wpAny P md ops Q fuel listed a w → wpAnyIn (Fence.wide.inRound r) m P md ops Q fuel listed a w
  | 0, _, _, _, h => h
  | fuel + 1, _, _, _, h => ⟨h.1, fun i hi => op_round hd hQ (fun a' w' hk => any_round hd hQ fuel _ a' w' hk) (h.2 i hi)⟩

/-- Reads, then a tail in one order. -/
theorem round_tail {id : Nat} {a : Act} {w : World} {l : List Oper} (n : Nat) (hm : P.follows .mixedOrders = true) (hB : Region.lexTailB .any l.toArray n = true) (hd : (l.all fun o => match o.op with | .defer _ => false | _ => true) = true) (hQ : ¬ LetsOut Q)
    (h : wpStill P l.toArray { w with drawn := w.drawn + 1 } (fun a' => wpList P l.toArray Q (l.drop n) a' { w with drawn := w.drawn + 1 }) (l.take n) a) : (Code.region id l.toArray true).wpIn (Fence.wide.inRound r) m P Q a w := by
  refine wpIn_region_any hm (any_round (fun i o ho c hc => ?_) hQ _ _ _ _ ?_)
  · have hm := List.all_eq_true.1 hd o (by
      rw [List.getElem?_toArray] at ho
      exact List.mem_of_getElem? ho)
    rw [hc] at hm
    cases hm
  · simp only [Region.lexTailB, Bool.and_eq_true, decide_eq_true_eq] at hB
    obtain ⟨⟨⟨⟨g1, g2⟩, g3⟩, g4⟩, g5⟩ := hB
    have k1 : n < l.length := by simpa using g2
    have k2 : (l.take n).length = n := by simp; omega
    have k3 : (l.drop n).length = l.toArray.size - n := by simp
    have hI : HeadInv .any l.toArray n (Array.replicate l.toArray.size false) :=
      ⟨by simp, fun _ _ _ hl => (by rw [getD_replicate_false] at hl; cases hl), fun _ _ ht => getD_in (by simpa using ht) (getD_replicate_false _ _)⟩
    have hH := wpAnyL_lex (md := .any) (g := l.toArray.size - n) g1 g3 g4 g2 (l.take n) 0 _ a (fun j hj => by
      have : j < n := by rw [k2] at hj; exact hj
      simp [this]) (by simpa using k2) hI (by rw [k2]; exact g5) h
    have hA := wpAny_of_head (Q' := Q) (g := l.toArray.size - n) (fun listed a' hL => by
      have := wpAny_of_seq (md := .any) (Q' := Q) (l.drop n) n listed a' { w with drawn := w.drawn + 1 } (fun j => by simp [List.getElem?_drop]) (by rw [k3]; exact hL.1) hL.2
      rwa [k3] at this) _ _ _ hH
    rw [k2, show n + (l.toArray.size - n) = l.toArray.size by omega] at hA
    exact hA
end Go.Proofs.YtfdhmkmeffgkgaaDoor
