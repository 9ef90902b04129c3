/- strconv.AppendInt's contract, laid at this program (tools/lay.sh writes the first part: the numbers are the seat's own). -/
import Derived.Test.YtflpfphfoibggaaDoorProg
import Derived.Test.YtflpfphfoibggaaDoorValP
import Derived.Test.YtflpfphfoibggaaDoorBytW
import Derived.Shelf.Strconv.AppendIntPublic10
namespace Go.Proofs
open Go.Shelf
def YtflpfphfoibggaaDoor.laysAI_ren : Go.Shelf.Ren := ⟨fun | 176 => 100 | 249 => 109 | 288 => 111 | 283 => 112 | 284 => 113 | 285 => 114 | 286 => 115 | 129 => 117 | 317 => 116 | 318 => 118 | 319 => 119 | 320 => 120 | 337 => 121 | 338 => 122 | n => n, fun | 37 => 22 | 2 => 2 | 3 => 3 | 53 => 92 | 4 => 4 | 9 => 9 | 171 => 140 | 0 => 0 | 173 => 143 | 212 => 147 | 51 => 148 | 5 => 5 | 20 => 20 | 213 => 149 | 46 => 106 | 232 => 153 | 233 => 154 | n => n, fun | 17 => 1 | 18 => 2 | 19 => 3 | n => n⟩
theorem YtflpfphfoibggaaDoor.laysAI : Go.Proofs.LaysM.n176 Tryd.prog YtflpfphfoibggaaDoor.laysAI_ren where
  mixed := by kernel_rfl
  f129 := Tryd.func117.trans (congrArg some (by kernel_rfl))
  f176 := Tryd.func100.trans (congrArg some (by kernel_rfl))
  f249 := Tryd.func109.trans (congrArg some (by kernel_rfl))
  f283 := Tryd.func112.trans (congrArg some (by kernel_rfl))
  f284 := Tryd.func113.trans (congrArg some (by kernel_rfl))
  f285 := Tryd.func114.trans (congrArg some (by kernel_rfl))
  f286 := Tryd.func115.trans (congrArg some (by kernel_rfl))
  f288 := Tryd.func111.trans (congrArg some (by kernel_rfl))
  f317 := Tryd.func116.trans (congrArg some (by kernel_rfl))
  f318 := Tryd.func118.trans (congrArg some (by kernel_rfl))
  f319 := Tryd.func119.trans (congrArg some (by kernel_rfl))
  f320 := Tryd.func120.trans (congrArg some (by kernel_rfl))
  f337 := Tryd.func121.trans (congrArg some (by kernel_rfl))
  f338 := Tryd.func122.trans (congrArg some (by kernel_rfl))
  t0 := Tryd.underlying0
  a0 := Tryd.isAgg0
  z0 := Tryd.sizeOf0
  v0 := Tryd.zeroValue0
  t2 := Tryd.underlying2
  a2 := Tryd.isAgg2
  z2 := Tryd.sizeOf2
  v2 := Tryd.zeroValue2
  t3 := Tryd.underlying3
  a3 := Tryd.isAgg3
  z3 := Tryd.sizeOf3
  v3 := Tryd.zeroValue3
  t4 := Tryd.underlying4
  a4 := Tryd.isAgg4
  z4 := Tryd.sizeOf4
  v4 := Tryd.zeroValue4
  t5 := Tryd.underlying5
  a5 := Tryd.isAgg5
  z5 := Tryd.sizeOf5
  v5 := Tryd.zeroValue5
  t9 := Tryd.underlying9
  a9 := Tryd.isAgg9
  z9 := Tryd.sizeOf9
  v9 := Tryd.zeroValue9
  t20 := Tryd.underlying20
  a20 := Tryd.isAgg20
  z20 := Tryd.sizeOf20
  v20 := Tryd.zeroValue20
  t37 := Tryd.underlying22
  a37 := Tryd.isAgg22
  z37 := Tryd.sizeOf22
  v37 := Tryd.zeroValue22
  t46 := Tryd.underlying106
  a46 := Tryd.isAgg106
  z46 := Tryd.sizeOf106
  v46 := Tryd.zeroValue106
  t51 := Tryd.underlying148
  a51 := Tryd.isAgg148
  z51 := Tryd.sizeOf148
  v51 := Tryd.zeroValue148
  t53 := Tryd.underlying92
  a53 := Tryd.isAgg92
  z53 := Tryd.sizeOf92
  v53 := Tryd.zeroValue92
  t171 := Tryd.underlying140
  a171 := Tryd.isAgg140
  z171 := Tryd.sizeOf140
  v171 := Tryd.zeroValue140
  t173 := Tryd.underlying143
  a173 := Tryd.isAgg143
  z173 := Tryd.sizeOf143
  v173 := Tryd.zeroValue143
  t212 := Tryd.underlying147
  a212 := Tryd.isAgg147
  z212 := Tryd.sizeOf147
  v212 := Tryd.zeroValue147
  t213 := Tryd.underlying149
  a213 := Tryd.isAgg149
  z213 := Tryd.sizeOf149
  t232 := Tryd.underlying153
  a232 := Tryd.isAgg153
  z232 := Tryd.sizeOf153
  v232 := Tryd.zeroValue153
  t233 := Tryd.underlying154
  a233 := Tryd.isAgg154
  z233 := Tryd.sizeOf154
  v233 := Tryd.zeroValue154
  g17 := by kernel_rfl
  g18 := by kernel_rfl
  g19 := by kernel_rfl
  i0 := by kernel_rfl
  i2 := by kernel_rfl
  i3 := by kernel_rfl
  i4 := by kernel_rfl
  i5 := by kernel_rfl
  i9 := by kernel_rfl
  i20 := by kernel_rfl
  i37 := by kernel_rfl
  i46 := by kernel_rfl
  i51 := by kernel_rfl
  i53 := by kernel_rfl
  i171 := by kernel_rfl
  i173 := by kernel_rfl
  i212 := by kernel_rfl
  i232 := by kernel_rfl
  i233 := by kernel_rfl
  m17 := by kernel_rfl
  m18 := by kernel_rfl
  m19 := by kernel_rfl

namespace YtflpfphfoibggaaDoor
open Go.RowKit

/-- The table that strconv reads. -/
def TabAt (B : Nat) (w : World) : Prop := Lib.TabBelow Tryd.prog B w "internal/strconv.uint64pow10" .u64 Lib.pow10Tab
theorem TabAt.on {B : Nat} {w w1 : World} (h : TabAt B w) (hb : Below B w w1) : TabAt B w1 := Lib.TabBelow.on h hb

theorem dec_digits : ∀ n : Nat, 0 < n → Lib.decDigits n = digsB n := by
  intro n
  induction n using Nat.strongRecOn with
  | ind n ih =>
    intro h
    rw [Lib.decDigits, digsB, if_neg (by omega)]
    split
    · have : n / 10 = 0 := by omega
      rw [this, digsB, if_pos rfl]
      have : n % 10 = n := by omega
      simp [dgB, this]
    · rw [ih (n / 10) (by omega) (by omega)]
      rfl
theorem itoa_dec (n : Nat) : Lib.itoa (n : Int) = decB n := by
  rw [Lib.itoa_nonneg]
  unfold decB
  split
  · subst_vars; rw [Lib.decDigits_one (by decide)]; rfl
  · exact dec_digits n (by omega)

/-- What is no row of bytes stays, at whatever place of its own. -/
def KeptO (w w' : World) : Prop := Lib.OthersKept 5 none w w'
theorem KeptO.refl (w : World) : KeptO w w := fun _ _ h _ _ => h
theorem KeptO.trans {a b c : World} (h : KeptO a b) (k : KeptO b c) : KeptO a c := Lib.OthersKept.trans h k
theorem Kept.o {w w' : World} (h : Kept w w') : KeptO w w' := fun q o ho _ hn => h q o ho fun cur => hn cur (0, 0)
theorem KeptO.below {w w' : World} (h : Below w.heap.size w w') : KeptO w w' := (Kept.below h).o
theorem KeptO.blk {w w' : World} (h : KeptO w w') {b : Nat} {c : Array Value} {T : TypeId} (hT : T ≠ 5) (ho : w.heap[b]? = some (.cells c T (0, 0))) : w'.heap[b]? = some (.cells c T (0, 0)) :=
  h b _ ho (by simp) fun c' fz he => by injection he with _ h2; exact hT h2

theorem appInt_any (B q : Nat) (hq : q ≤ 1000000) (v : Value) (l : List UInt8) (w : World) (ho : OwnB w B v l) (hB : B ≤ w.heap.size) (hl : l.length + 21 ≤ 140737488355328) (ht : TabAt B w) :
    Calls Tryd.prog 100 #[v, .int .i64 q, .int .i64 10] w fun e w' => ∃ p n m, e = .returned (.slice p n m) ∧ OwnB w' B (.slice p n m) (l ++ decB q) ∧ Below B w w' ∧ KeptO w w' :=
  (Any.strconv_AppendInt_10 laysAI B l.length (q : Int) (by omega) (by omega) v (cellsB l) w ho hB hl ht).mono fun e w' ⟨v', he, hr, hb, hk⟩ => by
    have h2 : OwnB w' B v' (l ++ decB q) := by
      show w'.ownsRow B 5 1 v' (l ++ decB q).length (cellsB (l ++ decB q))
      have e1 : cellsB l ++ Lib.byteCells (Lib.itoa (q : Int)) = cellsB (l ++ decB q) := by rw [itoa_dec]; simp [cellsB, Lib.byteCells]
      have e2 : (l ++ decB q).length = l.length + (Lib.itoa (q : Int)).length := by rw [itoa_dec]; simp
      rw [← e1, e2]
      exact hr
    obtain ⟨p, n, m, rfl⟩ := h2.slice
    exact ⟨p, n, m, he, h2, hb, hk⟩
end YtflpfphfoibggaaDoor
end Go.Proofs
