/- Walks: the closures that resolve by other ones. · Walks: the closures that resolve part by part. · What resolves: all makers keep to it. -/
import Derived.Test.YtnnjhcjalmdmcaaGreatGRrA
import Derived.Test.YtnnjhcjalmdmcaaGreatGRm6W
namespace Go.Proofs.YtnnjhcjalmdmcaaGreat
open Go.RowKit

theorem IsVas.atR {w : World} {a : Option Addr} {n m : Nat} {l : List Va} (h : IsVas w (.slice a n m) l) {k : Nat} (hk : k < l.length) :
    n = l.length ∧ ∃ b off r z, a = some ⟨b, off, none⟩ ∧ w.cell? ⟨b, off + k * 4, none⟩ = some (.int .i64 (l.getD k zva).kd) ∧ w.cell? ⟨b, off + k * 4 + 1, none⟩ = some (.int .i64 (l.getD k zva).nn) ∧ w.cell? ⟨b, off + k * 4 + 2, none⟩ = some (.string (l.getD k zva).tx) ∧ w.cell? ⟨b, off + k * 4 + 3, none⟩ = some (.slice r (l.getD k zva).it.length z) ∧
    IsVa w (l.getD k zva) (.agg #[.int .i64 (l.getD k zva).kd, .int .i64 (l.getD k zva).nn, .string (l.getD k zva).tx, .slice r (l.getD k zva).it.length z]) ∧ n ≤ m ∧ m ≤ 9223372036854775807 := by
  obtain ⟨a', cap, he, h1, h2, h3⟩ := h
  simp only [Value.slice.injEq] at he
  obtain ⟨rfl, rfl, rfl⟩ := he
  obtain ⟨b, off, rfl, c0, c1, c2, c3, k0, k1, k2, k3, k4⟩ := IsVas.at h3 hk
  rw [getD_eq hk]
  obtain ⟨r, z, rfl, rfl, rfl, rfl⟩ := k4.cells
  exact ⟨rfl, b, off, r, z, rfl, k0, k1, k2, k3, k4, h1, h2⟩
theorem IsVa.items {w : World} {u : Va} {c0 c1 c2 : Value} {p : Option Addr} {n m : Nat} (h : IsVa w u (.agg #[c0, c1, c2, .slice p n m])) : IsVas w (.slice p n m) u.it := by
  cases u with | mk k nn t it =>
  obtain ⟨vp, e, _, _, _, hs⟩ := h.parts
  simp only [Value.agg.injEq, Array.mk.injEq, List.cons.injEq, and_true] at e
  obtain ⟨_, _, _, rfl⟩ := e
  exact hs

set_option maxRecDepth 100000 in
set_option maxHeartbeats 1000000 in
theorem wrap11_any (u : Va) (r : Va × Int) (j : Int) (b vb : Nat) (p : Option Addr) (m : Nat) (f1 f2 : FuncId) (c1 c2 : Array Value) (w : World) (h1 : w.heap[b]? = some (.cells #[fnv f1 c1, fnv f2 c2] 67 (0, 0))) (h2 : w.heap[vb]? = some (.cells #[.int .i64 u.kd, .int .i64 u.nn, .string u.tx, .slice p u.it.length m] 29 (0, 0)))
    (hE : Enters f1) (hC : ∀ w' : World, Below w.heap.size w w' → Calls Tryz.prog f1 (#[.agg #[.int .i64 u.kd, .int .i64 u.nn, .string u.tx, .slice p u.it.length m]] ++ c1) w' (RdPost r w')) :
    Calls Tryz.prog 82 #[.int .i64 j, .pointer (some ⟨b, 0, none⟩), .pointer (some ⟨vb, 0, none⟩)] w (RdPost r w) := by
  obtain ⟨W, hW⟩ : ∃ W, W = w.alloc (.cells #[.int .i64 0, .int .i64 0, .string ⟨#[]⟩, .slice none 0 0, .int .i64 0] 33) := ⟨_, rfl⟩
  have hbw : Below w.heap.size w W := by rw [hW]; exact below_alloc _ _
  have N1 : Hid (W.heap[w.heap.size]? = some (.cells #[.int .i64 0, .int .i64 0, .string ⟨#[]⟩, .slice none 0 0, .int .i64 0] 33 (0, 0))) := by show _ = _; rw [hW]; exact Go.Deep.blk_alloc_new _ _
  have BW := Lib.hid hbw
  have HW := Lib.hid hW
  have HCall := Lib.hid (hC W hbw)
  obtain ⟨x0, x1, _, _, xz⟩ := blk2r h1
  obtain ⟨y0, y1, y2, y3, _, _, _, _, yz⟩ := blk4 h2
  unfold Enters at hE
  clear hbw hW hC h1 h2
  go_enter Tryz.func82, Tryz.ntmps82
  go_wp2_with fail
  rw [← HW.out]
  refine HCall.out.mono ?_
  rintro e w1 ⟨c0, c1', c2', c3, F, rfl, ho1, hn1, hb1⟩
  obtain ⟨r3, z3, rfl, rfl, rfl, rfl⟩ := (OwnVa.is _ _ _ ho1).cells
  have HO := Lib.hid ho1
  have HNd := Lib.hid hn1
  have B1 := Lib.hid hb1
  have nz := (Array.getElem?_eq_some_iff.1 N1.out).1
  obtain ⟨z0, z1, z2, z3', z4, _, _, _, _, _, zz⟩ := blk5 (blk_below N1.out hb1 nz)
  clear hb1 ho1 hn1 x0 x1 xz y0 y1 y2 y3 yz hE
  go_wp2_with fail
  refine bodyPost_ret (v := .agg #[.int .i64 r.1.kd, .int .i64 r.1.nn, .string r.1.tx, .slice r3 r.1.it.length z3, .int .i64 r.2]) (by simp [results, Tryz.results82, go_sem, z0, z1, z2, z3', z4]) rfl ?_
  exact rd_of_va BW.out B1.out (Nat.le_refl _) nz HO.out HNd.out r.2

set_option maxRecDepth 100000 in
set_option maxHeartbeats 1000000 in
theorem items11_any (u : Va) (r : Va × Int) (j : Nat) (hj : j < u.it.length) (b vb : Nat) (p : Option Addr) (m : Nat) (f1 f2 : FuncId) (c1 c2 : Array Value) (w : World) (h1 : w.heap[b]? = some (.cells #[fnv f1 c1, fnv f2 c2] 67 (0, 0))) (h2 : w.heap[vb]? = some (.cells #[.int .i64 u.kd, .int .i64 u.nn, .string u.tx, .slice p u.it.length m] 29 (0, 0))) (hv : IsVa w u (.agg #[.int .i64 u.kd, .int .i64 u.nn, .string u.tx, .slice p u.it.length m]))
    (hE : Enters f1) (hC : ∀ (w' : World) (v : Value), Below w.heap.size w w' → IsVa w' (u.it.getD j zva) v → Calls Tryz.prog f1 (#[v] ++ c1) w' (RdPost r w')) :
    Calls Tryz.prog 95 #[.int .i64 j, .pointer (some ⟨b, 0, none⟩), .pointer (some ⟨vb, 0, none⟩)] w (RdPost r w) := by
  obtain ⟨_, g, off, q, z, rfl, k0, k1, k2, k3, k4, hm1, hm2⟩ := hv.items.atR hj
  obtain ⟨x, hx⟩ : ∃ x, u.it.getD j zva = x := ⟨_, rfl⟩
  rw [hx] at k0 k1 k2 k3 k4 hC
  obtain ⟨W, hW⟩ : ∃ W, W = w.alloc (.cells #[.int .i64 0, .int .i64 0, .string ⟨#[]⟩, .slice none 0 0, .int .i64 0] 33) := ⟨_, rfl⟩
  have hbw : Below w.heap.size w W := by rw [hW]; exact below_alloc _ _
  have N1 : Hid (W.heap[w.heap.size]? = some (.cells #[.int .i64 0, .int .i64 0, .string ⟨#[]⟩, .slice none 0 0, .int .i64 0] 33 (0, 0))) := by show _ = _; rw [hW]; exact Go.Deep.blk_alloc_new _ _
  have BW := Lib.hid hbw
  have HW := Lib.hid hW
  have HCall := Lib.hid (hC W.drew _ hbw.drew (IsVa.keep (Keeps.of_below hbw.drew) _ _ k4))
  obtain ⟨x0, x1, _, _, xz⟩ := blk2r h1
  obtain ⟨y0, y1, y2, y3, _, _, _, _, yz⟩ := blk4 h2
  have HRB := Lib.hid (And.intro (Nat.le_refl w.heap.size) hbw.size)
  have HSK : Hid (∀ w', Below w.heap.size W w' → (w'.cell? ⟨b, 0, none⟩ = some (.func (.func f1) #[] c1) ∧ w'.cell? ⟨vb, 3, none⟩ = some (.slice (some ⟨g, off, none⟩) u.it.length m) ∧ w'.cell? ⟨g, off + j * 4, none⟩ = some (.int .i64 x.kd) ∧ w'.cell? ⟨g, off + j * 4 + 1, none⟩ = some (.int .i64 x.nn) ∧ w'.cell? ⟨g, off + j * 4 + 2, none⟩ = some (.string x.tx) ∧ w'.cell? ⟨g, off + j * 4 + 3, none⟩ = some (.slice q x.it.length z))) := fun w' hb =>
    have hk := Keeps.of_below (hbw.trans hb)
    ⟨hk _ _ _ x0, hk _ _ _ y3, hk _ _ _ k0, hk _ _ _ k1, hk _ _ _ k2, hk _ _ _ k3⟩
  unfold Enters at hE
  have hjl : (j : Int) < (u.it.length : Int) := by omega
  clear hbw hW hC h1 h2 hv hx k0 k1 k2 k3 k4 x0 x1 xz y0 y1 y2 y3 yz
  go_enter Tryz.func95, Tryz.ntmps95
  go_upto_region 1 with fail
  rw [← HW.out]
  go_region_held3 (fun w' => w'.cell? ⟨b, 0, none⟩ = some (.func (.func f1) #[] c1) ∧ w'.cell? ⟨vb, 3, none⟩ = some (.slice (some ⟨g, off, none⟩) u.it.length m) ∧ w'.cell? ⟨g, off + j * 4, none⟩ = some (.int .i64 x.kd) ∧ w'.cell? ⟨g, off + j * 4 + 1, none⟩ = some (.int .i64 x.nn) ∧ w'.cell? ⟨g, off + j * 4 + 2, none⟩ = some (.string x.tx) ∧ w'.cell? ⟨g, off + j * 4 + 3, none⟩ = some (.slice q x.it.length z))
    (first
      | exact HSK.out _ (Below.refl _ W).drew
      | exact HSK.out _ (B1.out.mono HRB.out.2)
      | exact HSK.out _ ((putQ_below (B1.out.mono HRB.out.2) (Nat.le_refl _) _ _ _ _).setCell (p := ⟨w.heap.size, 4, none⟩) (Nat.le_refl _) _))
    (first
      | (refine HCall.out.mono ?_; rintro e w1 ⟨c0, c1', c2', c3, F, rfl, ho1, hn1, hb1⟩; obtain ⟨r3, z3, rfl, rfl, rfl, rfl⟩ := (OwnVa.is _ _ _ ho1).cells; have HO := Lib.hid (show OwnVa w1 W.heap.size _ _ F from ho1); have HNd := Lib.hid hn1; have B1 := Lib.hid (show Below W.heap.size W w1 from (Below.refl _ W).drew.trans hb1); obtain ⟨_, _, _, _, _, _, _, _, _, _, _⟩ := blk5 (blk_below (w := W) N1.out B1.out (Array.getElem?_eq_some_iff.1 N1.out).1); clear ho1 hn1 hb1)
      | fail)
  all_goals
    have nz := (Array.getElem?_eq_some_iff.1 N1.out).1
    obtain ⟨z0, z1, z2, z3', z4, _, _, _, _, _, zz⟩ := blk5 (blk_below (w := W) N1.out B1.out nz)
    go_wp2_with fail
    refine bodyPost_ret (v := .agg #[.int .i64 r.1.kd, .int .i64 r.1.nn, .string r.1.tx, .slice r3 r.1.it.length z3, .int .i64 r.2]) (by simp [results, Tryz.results95, go_sem, z0, z1, z2, z3', z4]) rfl ?_
    exact rd_of_va BW.out B1.out (by omega) nz HO.out HNd.out r.2

set_option maxRecDepth 100000 in
set_option maxHeartbeats 1000000 in
theorem rec11_any (u : Va) (r : Va × Int) (j n cc : Nat) (hj : j < n) (_hcc : n ≤ cc ∧ cc ≤ 9223372036854775807) (fb vb g off : Nat) (p : Option Addr) (m : Nat) (f1 : FuncId) (c1 : Array Value) (T : TypeId) (w : World) (h1 : w.heap[fb]? = some (.cells #[.slice (some ⟨g, off, none⟩) n cc] T (0, 0))) (hg : w.cell? ⟨g, off + j * 2, none⟩ = some (fnv f1 c1)) (h2 : w.heap[vb]? = some (.cells #[.int .i64 u.kd, .int .i64 u.nn, .string u.tx, .slice p u.it.length m] 29 (0, 0)))
    (hE : Enters f1) (hC : ∀ (w' : World), Below w.heap.size w w' → Calls Tryz.prog f1 (#[.agg #[.int .i64 u.kd, .int .i64 u.nn, .string u.tx, .slice p u.it.length m]] ++ c1) w' (RdPost r w')) :
    Calls Tryz.prog 99 #[.int .i64 j, .pointer (some ⟨fb, 0, none⟩), .pointer (some ⟨vb, 0, none⟩)] w (RdPost r w) := by
  obtain ⟨W, hW⟩ : ∃ W, W = w.alloc (.cells #[.int .i64 0, .int .i64 0, .string ⟨#[]⟩, .slice none 0 0, .int .i64 0] 33) := ⟨_, rfl⟩
  have hbw : Below w.heap.size w W := by rw [hW]; exact below_alloc _ _
  have N1 : Hid (W.heap[w.heap.size]? = some (.cells #[.int .i64 0, .int .i64 0, .string ⟨#[]⟩, .slice none 0 0, .int .i64 0] 33 (0, 0))) := by show _ = _; rw [hW]; exact Go.Deep.blk_alloc_new _ _
  have BW := Lib.hid hbw
  have HW := Lib.hid hW
  have HCall := Lib.hid (hC W.drew hbw.drew)
  obtain ⟨x0, _, xz⟩ := blk1r h1
  obtain ⟨y0, y1, y2, y3, _, _, _, _, yz⟩ := blk4 h2
  have HRB := Lib.hid (And.intro (Nat.le_refl w.heap.size) hbw.size)
  have HSK : Hid (∀ w', Below w.heap.size W w' → (w'.cell? ⟨fb, 0, none⟩ = some (.slice (some ⟨g, off, none⟩) n cc) ∧ w'.cell? ⟨g, off + j * 2, none⟩ = some (.func (.func f1) #[] c1) ∧ w'.cell? ⟨vb, 0, none⟩ = some (.int .i64 u.kd) ∧ w'.cell? ⟨vb, 1, none⟩ = some (.int .i64 u.nn) ∧ w'.cell? ⟨vb, 2, none⟩ = some (.string u.tx) ∧ w'.cell? ⟨vb, 3, none⟩ = some (.slice p u.it.length m))) := fun w' hb =>
    have hk := Keeps.of_below (hbw.trans hb)
    ⟨hk _ _ _ x0, hk _ _ _ hg, hk _ _ _ y0, hk _ _ _ y1, hk _ _ _ y2, hk _ _ _ y3⟩
  unfold Enters at hE
  have hjl : (j : Int) < (n : Int) := by omega
  clear hbw hW hC h1 h2 hg x0 xz y0 y1 y2 y3 yz
  go_enter Tryz.func99, Tryz.ntmps99
  go_upto_region 1 with fail
  rw [← HW.out]
  go_region_held3 (fun w' => w'.cell? ⟨fb, 0, none⟩ = some (.slice (some ⟨g, off, none⟩) n cc) ∧ w'.cell? ⟨g, off + j * 2, none⟩ = some (.func (.func f1) #[] c1) ∧ w'.cell? ⟨vb, 0, none⟩ = some (.int .i64 u.kd) ∧ w'.cell? ⟨vb, 1, none⟩ = some (.int .i64 u.nn) ∧ w'.cell? ⟨vb, 2, none⟩ = some (.string u.tx) ∧ w'.cell? ⟨vb, 3, none⟩ = some (.slice p u.it.length m))
    (first
      | exact HSK.out _ (Below.refl _ W).drew
      | exact HSK.out _ (B1.out.mono HRB.out.2)
      | exact HSK.out _ ((putQ_below (B1.out.mono HRB.out.2) (Nat.le_refl _) _ _ _ _).setCell (p := ⟨w.heap.size, 4, none⟩) (Nat.le_refl _) _))
    (first
      | (refine HCall.out.mono ?_; rintro e w1 ⟨c0, c1', c2', c3, F, rfl, ho1, hn1, hb1⟩; obtain ⟨r3, z3, rfl, rfl, rfl, rfl⟩ := (OwnVa.is _ _ _ ho1).cells; have HO := Lib.hid (show OwnVa w1 W.heap.size _ _ F from ho1); have HNd := Lib.hid hn1; have B1 := Lib.hid (show Below W.heap.size W w1 from (Below.refl _ W).drew.trans hb1); obtain ⟨_, _, _, _, _, _, _, _, _, _, _⟩ := blk5 (blk_below (w := W) N1.out B1.out (Array.getElem?_eq_some_iff.1 N1.out).1); clear ho1 hn1 hb1)
      | fail)
  all_goals
    have nz := (Array.getElem?_eq_some_iff.1 N1.out).1
    obtain ⟨z0, z1, z2, z3', z4, _, _, _, _, _, zz⟩ := blk5 (blk_below (w := W) N1.out B1.out nz)
    go_wp2_with fail
    refine bodyPost_ret (v := .agg #[.int .i64 r.1.kd, .int .i64 r.1.nn, .string r.1.tx, .slice r3 r.1.it.length z3, .int .i64 r.2]) (by simp [results, Tryz.results99, go_sem, z0, z1, z2, z3', z4]) rfl ?_
    exact rd_of_va BW.out B1.out (by omega) nz HO.out HNd.out r.2

set_option maxRecDepth 100000 in
set_option maxHeartbeats 1000000 in
theorem field1_any (u : Va) (r : Va × Int) (j : Nat) (hj : j < u.it.length) (b b3 : Nat) (v : Value) (f1 f2 : FuncId) (c1 c2 : Array Value) (w : World) (h1 : w.heap[b]? = some (.cells #[fnv f1 c1, fnv f2 c2] 67 (0, 0))) (h3 : w.heap[b3]? = some (.cells #[.int .i64 j] 3 (0, 0))) (hv : IsVa w u v)
    (hE : Enters f1) (hC : ∀ (w' : World) (v : Value), Below w.heap.size w w' → IsVa w' (u.it.getD j zva) v → Calls Tryz.prog f1 (#[v] ++ c1) w' (RdPost r w')) :
    Calls Tryz.prog 106 #[v, .pointer (some ⟨b, 0, none⟩), .pointer (some ⟨b3, 0, none⟩)] w (RdPost r w) := by
  obtain ⟨p, m, rfl⟩ := hv.agg
  obtain ⟨_, g, off, q, z, rfl, k0, k1, k2, k3, k4, hm1, hm2⟩ := hv.items.atR hj
  obtain ⟨x, hx⟩ : ∃ x, u.it.getD j zva = x := ⟨_, rfl⟩
  rw [hx] at k0 k1 k2 k3 k4 hC
  have HN := two_new w (.cells #[.int .i64 u.kd, .int .i64 u.nn, .string u.tx, .slice (some ⟨g, off, none⟩) u.it.length m] 29) (.cells #[.int .i64 0, .int .i64 0, .string ⟨#[]⟩, .slice none 0 0, .int .i64 0] 33)
  obtain ⟨W, hW⟩ : ∃ W, W = (w.alloc (.cells #[.int .i64 u.kd, .int .i64 u.nn, .string u.tx, .slice (some ⟨g, off, none⟩) u.it.length m] 29)).alloc (.cells #[.int .i64 0, .int .i64 0, .string ⟨#[]⟩, .slice none 0 0, .int .i64 0] 33) := ⟨_, rfl⟩
  have hbw : Below w.heap.size w W := by rw [hW]; exact (below_alloc w _).alloc (by simp) _
  have hz : W.heap.size = w.heap.size + 1 + 1 := by rw [hW]; simp
  rw [← hW] at HN
  have N1 := Lib.hid HN.2
  have BW := Lib.hid hbw
  have HW := Lib.hid hW
  have HCall := Lib.hid (hC W.drew _ hbw.drew (IsVa.keep (Keeps.of_below hbw.drew) _ _ k4))
  obtain ⟨x0, x1, _, _, xz⟩ := blk2r h1
  obtain ⟨i0, _, iz⟩ := blk1r h3
  obtain ⟨y0, y1, y2, y3, _, _, _, _, yz⟩ := blk4 HN.1
  have HRB := Lib.hid (And.intro (Nat.le_refl (w.heap.size + 1)) (show w.heap.size + 1 ≤ W.heap.size by omega))
  have HSK : Hid (∀ w', Below (w.heap.size + 1) W w' → (w'.cell? ⟨b, 0, none⟩ = some (.func (.func f1) #[] c1) ∧ w'.cell? ⟨w.heap.size, 3, none⟩ = some (.slice (some ⟨g, off, none⟩) u.it.length m) ∧ w'.cell? ⟨b3, 0, none⟩ = some (.int .i64 j) ∧ w'.cell? ⟨g, off + j * 4, none⟩ = some (.int .i64 x.kd) ∧ w'.cell? ⟨g, off + j * 4 + 1, none⟩ = some (.int .i64 x.nn) ∧ w'.cell? ⟨g, off + j * 4 + 2, none⟩ = some (.string x.tx) ∧ w'.cell? ⟨g, off + j * 4 + 3, none⟩ = some (.slice q x.it.length z))) := fun w' hb => by
    have kk : ∀ b o c, b < w.heap.size + 1 → W.cell? ⟨b, o, none⟩ = some c → w'.cell? ⟨b, o, none⟩ = some c := fun b o c hlt hc => by rw [hb.cell (p := ⟨b, o, none⟩) hlt]; exact hc
    have hk := Keeps.of_below hbw
    have gz : g < w.heap.size := World.block_lt_of_cell? w ⟨g, off + j * 4, none⟩ k0
    exact ⟨kk _ _ _ (by omega) (hk _ _ _ x0), kk _ _ _ (by omega) y3, kk _ _ _ (by omega) (hk _ _ _ i0), kk _ _ _ (by omega) (hk _ _ _ k0), kk _ _ _ (by omega) (hk _ _ _ k1), kk _ _ _ (by omega) (hk _ _ _ k2), kk _ _ _ (by omega) (hk _ _ _ k3)⟩
  unfold Enters at hE
  have hjl : (j : Int) < (u.it.length : Int) := by omega
  clear HN hbw hW hz hC h1 h3 hv hx k0 k1 k2 k3 k4 x0 x1 xz y0 y1 y2 y3 yz i0 iz
  go_enter Tryz.func106, Tryz.ntmps106
  go_upto_region 1 with fail
  rw [← HW.out]
  go_region_held3 (fun w' => w'.cell? ⟨b, 0, none⟩ = some (.func (.func f1) #[] c1) ∧ w'.cell? ⟨w.heap.size, 3, none⟩ = some (.slice (some ⟨g, off, none⟩) u.it.length m) ∧ w'.cell? ⟨b3, 0, none⟩ = some (.int .i64 j) ∧ w'.cell? ⟨g, off + j * 4, none⟩ = some (.int .i64 x.kd) ∧ w'.cell? ⟨g, off + j * 4 + 1, none⟩ = some (.int .i64 x.nn) ∧ w'.cell? ⟨g, off + j * 4 + 2, none⟩ = some (.string x.tx) ∧ w'.cell? ⟨g, off + j * 4 + 3, none⟩ = some (.slice q x.it.length z))
    (first
      | exact HSK.out _ (Below.refl _ W).drew
      | exact HSK.out _ (B1.out.mono HRB.out.2)
      | exact HSK.out _ ((putQ_below (B1.out.mono HRB.out.2) (Nat.le_refl _) _ _ _ _).setCell (p := ⟨w.heap.size + 1, 4, none⟩) (Nat.le_refl _) _))
    (first
      | (refine HCall.out.mono ?_; rintro e w1 ⟨c0, c1', c2', c3, F, rfl, ho1, hn1, hb1⟩; obtain ⟨r3, z3, rfl, rfl, rfl, rfl⟩ := (OwnVa.is _ _ _ ho1).cells; have HO := Lib.hid (show OwnVa w1 W.heap.size _ _ F from ho1); have HNd := Lib.hid hn1; have B1 := Lib.hid (show Below W.heap.size W w1 from (Below.refl _ W).drew.trans hb1); obtain ⟨_, _, _, _, _, _, _, _, _, _, _⟩ := blk5 (blk_below (w := W) N1.out B1.out (Array.getElem?_eq_some_iff.1 N1.out).1); clear ho1 hn1 hb1)
      | fail)
  all_goals
    have nz := (Array.getElem?_eq_some_iff.1 N1.out).1
    obtain ⟨z0, z1, z2, z3', z4, _, _, _, _, _, zz⟩ := blk5 (blk_below (w := W) N1.out B1.out nz)
    go_wp2_with fail
    refine bodyPost_ret (v := .agg #[.int .i64 r.1.kd, .int .i64 r.1.nn, .string r.1.tx, .slice r3 r.1.it.length z3, .int .i64 r.2]) (by simp [results, Tryz.results106, go_sem, z0, z1, z2, z3', z4]) rfl ?_
    exact rd_of_va BW.out B1.out (by omega) nz HO.out HNd.out r.2

set_option maxRecDepth 100000 in
set_option maxHeartbeats 1000000 in
theorem unwrap1_yes (u : Va) (r : Va × Int) (hj : 0 < u.it.length) (b : Nat) (v : Value) (f1 f2 : FuncId) (c1 c2 : Array Value) (w : World) (h1 : w.heap[b]? = some (.cells #[fnv f1 c1, fnv f2 c2] 67 (0, 0))) (hv : IsVa w u v)
    (hE : Enters f1) (hC : ∀ (w' : World) (v : Value), Below w.heap.size w w' → IsVa w' (u.it.getD 0 zva) v → Calls Tryz.prog f1 (#[v] ++ c1) w' (RdPost r w')) :
    Calls Tryz.prog 83 #[v, .pointer (some ⟨b, 0, none⟩)] w (RdPost r w) := by
  obtain ⟨p, m, rfl⟩ := hv.agg
  obtain ⟨_, g, off, q, z, rfl, k0, k1, k2, k3, k4, hm1, hm2⟩ := hv.items.atR hj
  simp only [Nat.zero_mul, Nat.add_zero] at k0 k1 k2 k3
  obtain ⟨x, hx⟩ : ∃ x, u.it.getD 0 zva = x := ⟨_, rfl⟩
  rw [hx] at k0 k1 k2 k3 k4 hC
  have HN := two_new w (.cells #[.int .i64 u.kd, .int .i64 u.nn, .string u.tx, .slice (some ⟨g, off, none⟩) u.it.length m] 29) (.cells #[.int .i64 0, .int .i64 0, .string ⟨#[]⟩, .slice none 0 0, .int .i64 0] 33)
  obtain ⟨W, hW⟩ : ∃ W, W = (w.alloc (.cells #[.int .i64 u.kd, .int .i64 u.nn, .string u.tx, .slice (some ⟨g, off, none⟩) u.it.length m] 29)).alloc (.cells #[.int .i64 0, .int .i64 0, .string ⟨#[]⟩, .slice none 0 0, .int .i64 0] 33) := ⟨_, rfl⟩
  have hbw : Below w.heap.size w W := by rw [hW]; exact (below_alloc w _).alloc (by simp) _
  have hz : W.heap.size = w.heap.size + 1 + 1 := by rw [hW]; simp
  rw [← hW] at HN
  have N1 := Lib.hid HN.2
  have BW := Lib.hid hbw
  have HW := Lib.hid hW
  have HCall := Lib.hid (hC W.drew _ hbw.drew (IsVa.keep (Keeps.of_below hbw.drew) _ _ k4))
  obtain ⟨x0, x1, _, _, xz⟩ := blk2r h1
  obtain ⟨y0, y1, y2, y3, _, _, _, _, yz⟩ := blk4 HN.1
  have HRB := Lib.hid (And.intro (Nat.le_refl (w.heap.size + 1)) (show w.heap.size + 1 ≤ W.heap.size by omega))
  have HSK : Hid (∀ w', Below (w.heap.size + 1) W w' → (w'.cell? ⟨b, 0, none⟩ = some (.func (.func f1) #[] c1) ∧ w'.cell? ⟨w.heap.size, 3, none⟩ = some (.slice (some ⟨g, off, none⟩) u.it.length m) ∧ w'.cell? ⟨g, off, none⟩ = some (.int .i64 x.kd) ∧ w'.cell? ⟨g, off + 1, none⟩ = some (.int .i64 x.nn) ∧ w'.cell? ⟨g, off + 2, none⟩ = some (.string x.tx) ∧ w'.cell? ⟨g, off + 3, none⟩ = some (.slice q x.it.length z))) := fun w' hb => by
    have kk : ∀ b o c, b < w.heap.size + 1 → W.cell? ⟨b, o, none⟩ = some c → w'.cell? ⟨b, o, none⟩ = some c := fun b o c hlt hc => by rw [hb.cell (p := ⟨b, o, none⟩) hlt]; exact hc
    have hk := Keeps.of_below hbw
    have gz : g < w.heap.size := World.block_lt_of_cell? w ⟨g, off, none⟩ k0
    exact ⟨kk _ _ _ (by omega) (hk _ _ _ x0), kk _ _ _ (by omega) y3, kk _ _ _ (by omega) (hk _ _ _ k0), kk _ _ _ (by omega) (hk _ _ _ k1), kk _ _ _ (by omega) (hk _ _ _ k2), kk _ _ _ (by omega) (hk _ _ _ k3)⟩
  unfold Enters at hE
  have hne : ((u.it.length : Int) == 0) = false := by rw [beq_eq_false_iff_ne]; omega
  clear HN hbw hW hz hC h1 hv hx k0 k1 k2 k3 k4 x0 x1 xz y0 y1 y2 y3 yz
  go_enter Tryz.func83, Tryz.ntmps83
  go_upto_region 3 with fail
  rw [← HW.out]
  go_region_held3 (fun w' => w'.cell? ⟨b, 0, none⟩ = some (.func (.func f1) #[] c1) ∧ w'.cell? ⟨w.heap.size, 3, none⟩ = some (.slice (some ⟨g, off, none⟩) u.it.length m) ∧ w'.cell? ⟨g, off, none⟩ = some (.int .i64 x.kd) ∧ w'.cell? ⟨g, off + 1, none⟩ = some (.int .i64 x.nn) ∧ w'.cell? ⟨g, off + 2, none⟩ = some (.string x.tx) ∧ w'.cell? ⟨g, off + 3, none⟩ = some (.slice q x.it.length z))
    (first
      | exact HSK.out _ (Below.refl _ W).drew
      | exact HSK.out _ (B1.out.mono HRB.out.2)
      | exact HSK.out _ ((putQ_below (B1.out.mono HRB.out.2) (Nat.le_refl _) _ _ _ _).setCell (p := ⟨w.heap.size + 1, 4, none⟩) (Nat.le_refl _) _))
    (first
      | (refine HCall.out.mono ?_; rintro e w1 ⟨c0, c1', c2', c3, F, rfl, ho1, hn1, hb1⟩; obtain ⟨r3, z3, rfl, rfl, rfl, rfl⟩ := (OwnVa.is _ _ _ ho1).cells; have HO := Lib.hid (show OwnVa w1 W.heap.size _ _ F from ho1); have HNd := Lib.hid hn1; have B1 := Lib.hid (show Below W.heap.size W w1 from (Below.refl _ W).drew.trans hb1); obtain ⟨_, _, _, _, _, _, _, _, _, _, _⟩ := blk5 (blk_below (w := W) N1.out B1.out (Array.getElem?_eq_some_iff.1 N1.out).1); clear ho1 hn1 hb1)
      | fail)
  all_goals
    have nz := (Array.getElem?_eq_some_iff.1 N1.out).1
    obtain ⟨z0, z1, z2, z3', z4, _, _, _, _, _, zz⟩ := blk5 (blk_below (w := W) N1.out B1.out nz)
    go_wp2_with fail
    refine bodyPost_ret (v := .agg #[.int .i64 r.1.kd, .int .i64 r.1.nn, .string r.1.tx, .slice r3 r.1.it.length z3, .int .i64 r.2]) (by simp [results, Tryz.results83, go_sem, z0, z1, z2, z3', z4]) rfl ?_
    exact rd_of_va BW.out B1.out (by omega) nz HO.out HNd.out r.2

end Go.Proofs.YtnnjhcjalmdmcaaGreat
namespace Go.Proofs.YtnnjhcjalmdmcaaGreat
open Go.RowKit

theorem arr1 (a b c : Value) : (#[a] ++ #[b, c] : Array Value) = #[a, b, c] := rfl
theorem arr0 (a b : Value) : (#[a] ++ #[b] : Array Value) = #[a, b] := rfl

set_option maxRecDepth 100000 in
set_option maxHeartbeats 1000000 in
theorem unwrap1_no (u : Va) (hj : u.it.length = 0) (b : Nat) (v : Value) (w : World) (hv : IsVa w u v) :
    Calls Tryz.prog 83 #[v, .pointer (some ⟨b, 0, none⟩)] w (RdPost (zva, 6) w) := by
  obtain ⟨p, m, rfl⟩ := hv.agg
  have HN := two_new w (.cells #[.int .i64 u.kd, .int .i64 u.nn, .string u.tx, .slice p u.it.length m] 29) (.cells #[.int .i64 0, .int .i64 0, .string ⟨#[]⟩, .slice none 0 0, .int .i64 6] 33)
  obtain ⟨W, hW⟩ : ∃ W, W = (w.alloc (.cells #[.int .i64 u.kd, .int .i64 u.nn, .string u.tx, .slice p u.it.length m] 29)).alloc (.cells #[.int .i64 0, .int .i64 0, .string ⟨#[]⟩, .slice none 0 0, .int .i64 6] 33) := ⟨_, rfl⟩
  have hbw : Below w.heap.size w W := by rw [hW]; exact (below_alloc w _).alloc (by simp) _
  have hz : W.heap.size = w.heap.size + 1 + 1 := by rw [hW]; simp
  rw [← hW] at HN
  obtain ⟨y0, y1, y2, y3, _, _, _, _, yz⟩ := blk4 HN.1
  obtain ⟨y4, y5, y6, y7, y8, _, _, _, _, _, yzz⟩ := blk5 HN.2
  have HZ := Lib.hid hz
  have BW := Lib.hid hbw
  have HW := Lib.hid hW
  have hq : ((u.it.length : Int) == 0) = true := by rw [hj]; rfl
  have HJ := Lib.hid hj
  clear HN hbw hz hW hv hj
  go_enter Tryz.func83, Tryz.ntmps83
  go_wp2_with fail
  rw [← HW.out]
  refine bodyPost_ret (v := .agg #[.int .i64 0, .int .i64 0, .string ⟨#[]⟩, .slice none 0 0, .int .i64 6]) (by simp [results, Tryz.results83, go_sem, y4, y5, y6, y7, y8]) rfl ?_
  exact rd_at (r := (zva, 6)) BW.out (own_zva _ _) List.nodup_nil

set_option maxRecDepth 100000 in
set_option maxHeartbeats 1000000 in
theorem wrap1_any (u : Va) (r : Va × Int) (b : Nat) (v : Value) (f1 f2 : FuncId) (c1 c2 : Array Value) (w : World) (h1 : w.heap[b]? = some (.cells #[fnv f1 c1, fnv f2 c2] 67 (0, 0))) (hv : IsVa w u v)
    (hE : Enters f1) (hC : ∀ (w' : World) (v : Value), Below w.heap.size w w' → IsVa w' u v → Calls Tryz.prog f1 (#[v] ++ c1) w' (RdPost r w')) :
    Calls Tryz.prog 80 #[v, .pointer (some ⟨b, 0, none⟩)] w (RdPost (collR 5 [] [r]) w) := by
  have hvv := hv
  obtain ⟨p, m, rfl⟩ := hv.agg
  have HN := two_new w (.cells #[.int .i64 u.kd, .int .i64 u.nn, .string u.tx, .slice p u.it.length m] 29) (.cells #[.int .i64 0, .int .i64 0, .string ⟨#[]⟩, .slice none 0 0, .int .i64 0] 33)
  obtain ⟨W, hW⟩ : ∃ W, W = (w.alloc (.cells #[.int .i64 u.kd, .int .i64 u.nn, .string u.tx, .slice p u.it.length m] 29)).alloc (.cells #[.int .i64 0, .int .i64 0, .string ⟨#[]⟩, .slice none 0 0, .int .i64 0] 33) := ⟨_, rfl⟩
  have hbw : Below w.heap.size w W := by rw [hW]; exact (below_alloc w _).alloc (by simp) _
  have hz : W.heap.size = w.heap.size + 1 + 1 := by rw [hW]; simp
  rw [← hW] at HN
  have hb := (Array.getElem?_eq_some_iff.1 h1).1
  have HCall : Hid (Calls Tryz.prog 81 #[.int .i64 5, .int .i64 1, .func (.func 82) #[] #[.pointer (some ⟨b, 0, none⟩), .pointer (some ⟨w.heap.size, 0, none⟩)]] W (RdPost (collR 5 [] [r]) W)) := by
    refine collected_any 5 (by unfold InI64'; omega) [r] (by simp) _ _ W (fun args w => enter_of Tryz.func82 (by kernel_rfl) rfl args w) fun w' j hj hb' => ?_
    rw [arr1, show [r][j] = r from List.getElem_singleton _]
    have hb2 := hbw.trans (hb'.mono hbw.size)
    exact wrap11_any u r j b w.heap.size p m f1 f2 c1 c2 w' (blk_below h1 hb2 hb) (blk_below HN.1 hb' (by omega)) hE fun w2 hb3 => hC w2 _ (hb2.trans (hb3.mono hb2.size)) (IsVa.keep (Keeps.of_below (hb2.trans (hb3.mono hb2.size))) _ _ hvv)
  obtain ⟨R, hR⟩ : ∃ R, collR 5 [] [r] = R := ⟨_, rfl⟩
  rw [hR] at HCall ⊢
  have N2 := Lib.hid HN.2
  have HZ := Lib.hid hz
  have BW := Lib.hid hbw
  have HW := Lib.hid hW
  clear HN hbw hz hW hv hvv hC hE h1 hb hR
  go_enter Tryz.func80, Tryz.ntmps80
  go_wp2_with fail
  rw [← HW.out]
  refine HCall.out.mono ?_
  rintro e w1 ⟨c0, c1, c2, c3, F, rfl, ho1, hn1, hb1⟩
  obtain ⟨r3, z3, rfl, rfl, rfl, rfl⟩ := (OwnVa.is _ _ _ ho1).cells
  have HO := Lib.hid ho1
  have HNd := Lib.hid hn1
  have B1 := Lib.hid hb1
  obtain ⟨y4, y5, y6, y7, y8, _, _, _, _, _, yzz⟩ := blk5 (blk_below N2.out hb1 (by have := HZ.out; omega))
  clear hb1 ho1 hn1
  go_wp2_with fail
  refine bodyPost_ret (v := .agg #[.int .i64 R.1.kd, .int .i64 R.1.nn, .string R.1.tx, .slice r3 R.1.it.length z3, .int .i64 R.2]) (by simp [results, Tryz.results80, go_sem, y4, y5, y6, y7, y8]) rfl ?_
  exact rd_of_va BW.out B1.out (by omega) (by have := HZ.out; omega) HO.out HNd.out R.2

set_option maxRecDepth 100000 in
set_option maxHeartbeats 1000000 in
theorem items1_any (u : Va) (L : List (Va × Int)) (k : Int) (hk : InI64' k) (hl : L.length = u.it.length) (h6 : L.length ≤ 6) (b1 b2 : Nat) (v : Value) (f1 f2 : FuncId) (c1 c2 : Array Value) (w : World) (h1 : w.heap[b1]? = some (.cells #[.int .i64 k] 2 (0, 0))) (h2 : w.heap[b2]? = some (.cells #[fnv f1 c1, fnv f2 c2] 67 (0, 0))) (hv : IsVa w u v)
    (hE : Enters f1) (hC : ∀ (w' : World) (j : Nat) (hj : j < L.length) (v : Value), Below w.heap.size w w' → IsVa w' (u.it.getD j zva) v → Calls Tryz.prog f1 (#[v] ++ c1) w' (RdPost L[j] w')) :
    Calls Tryz.prog 94 #[v, .pointer (some ⟨b1, 0, none⟩), .pointer (some ⟨b2, 0, none⟩)] w (RdPost (collR k [] L) w) := by
  have hvv := hv
  obtain ⟨p, m, rfl⟩ := hv.agg
  have HN := two_new w (.cells #[.int .i64 u.kd, .int .i64 u.nn, .string u.tx, .slice p u.it.length m] 29) (.cells #[.int .i64 0, .int .i64 0, .string ⟨#[]⟩, .slice none 0 0, .int .i64 0] 33)
  obtain ⟨W, hW⟩ : ∃ W, W = (w.alloc (.cells #[.int .i64 u.kd, .int .i64 u.nn, .string u.tx, .slice p u.it.length m] 29)).alloc (.cells #[.int .i64 0, .int .i64 0, .string ⟨#[]⟩, .slice none 0 0, .int .i64 0] 33) := ⟨_, rfl⟩
  have hbw : Below w.heap.size w W := by rw [hW]; exact (below_alloc w _).alloc (by simp) _
  have hz : W.heap.size = w.heap.size + 1 + 1 := by rw [hW]; simp
  rw [← hW] at HN
  have hb := (Array.getElem?_eq_some_iff.1 h2).1
  have hcol := collected_any k hk L h6 95 #[.pointer (some ⟨b2, 0, none⟩), .pointer (some ⟨w.heap.size, 0, none⟩)] W (fun args w => enter_of Tryz.func95 (by kernel_rfl) rfl args w) fun w' j hj hb' => by
    rw [arr1]
    have hb2 := hbw.trans (hb'.mono hbw.size)
    exact items11_any u L[j] j (hl ▸ hj) b2 w.heap.size p m f1 f2 c1 c2 w' (blk_below h2 hb2 hb) (blk_below HN.1 hb' (by omega)) (IsVa.keep (Keeps.of_below hb2) _ _ hvv) hE fun w2 v hb3 hv2 => hC w2 j hj v (hb2.trans (hb3.mono hb2.size)) hv2
  rw [hl] at hcol
  have HCall := Lib.hid hcol
  obtain ⟨R, hR⟩ : ∃ R, collR k [] L = R := ⟨_, rfl⟩
  rw [hR] at HCall ⊢
  obtain ⟨y0, y1, y2, y3, _, _, _, _, yz⟩ := blk4 HN.1
  have h1' := blk_below h1 hbw (Array.getElem?_eq_some_iff.1 h1).1
  obtain ⟨i0, _, iz⟩ := blk1r h1'
  have N2 := Lib.hid HN.2
  have HZ := Lib.hid hz
  have BW := Lib.hid hbw
  have HW := Lib.hid hW
  clear HN hbw hz hcol hv hvv hC hE h1 h2 hb hR hl h6 hk h1'
  rw [hW] at i0 y0 y1 y2 y3
  clear hW
  go_enter Tryz.func94, Tryz.ntmps94
  go_wp2_with fail
  rw [← HW.out]
  refine HCall.out.mono ?_
  rintro e w1 ⟨c0, c1, c2, c3, F, rfl, ho1, hn1, hb1⟩
  obtain ⟨r3, z3, rfl, rfl, rfl, rfl⟩ := (OwnVa.is _ _ _ ho1).cells
  have HO := Lib.hid ho1
  have HNd := Lib.hid hn1
  have B1 := Lib.hid hb1
  obtain ⟨y4, y5, y6, y7, y8, _, _, _, _, _, yzz⟩ := blk5 (blk_below N2.out hb1 (by have := HZ.out; omega))
  clear hb1 ho1 hn1
  go_wp2_with fail
  refine bodyPost_ret (v := .agg #[.int .i64 R.1.kd, .int .i64 R.1.nn, .string R.1.tx, .slice r3 R.1.it.length z3, .int .i64 R.2]) (by simp [results, Tryz.results94, go_sem, y4, y5, y6, y7, y8]) rfl ?_
  exact rd_of_va BW.out B1.out (by omega) (by have := HZ.out; omega) HO.out HNd.out R.2

set_option maxRecDepth 100000 in
set_option maxHeartbeats 1000000 in
theorem rec1_any (u : Va) (L : List (Va × Int)) (h6 : L.length ≤ 6) (fb : Nat) (aa : Option Addr) (cc : Nat) (T : TypeId) (hcc : L.length ≤ cc ∧ cc ≤ 9223372036854775807) (v : Value) (w : World) (h1 : w.heap[fb]? = some (.cells #[.slice aa L.length cc] T (0, 0))) (hv : IsVa w u v)
    (hrow : ∀ i (h : i < L.length), ∃ (g off : Nat) (f1 : FuncId) (c1 : Array Value), aa = some ⟨g, off, none⟩ ∧ w.cell? ⟨g, off + i * 2, none⟩ = some (fnv f1 c1) ∧ Enters f1 ∧ ∀ (w' : World) (v : Value), Below w.heap.size w w' → IsVa w' u v → Calls Tryz.prog f1 (#[v] ++ c1) w' (RdPost L[i] w')) :
    Calls Tryz.prog 98 #[v, .pointer (some ⟨fb, 0, none⟩)] w (RdPost (collR 7 [] L) w) := by
  have hvv := hv
  obtain ⟨p, m, rfl⟩ := hv.agg
  have HN := two_new w (.cells #[.int .i64 u.kd, .int .i64 u.nn, .string u.tx, .slice p u.it.length m] 29) (.cells #[.int .i64 0, .int .i64 0, .string ⟨#[]⟩, .slice none 0 0, .int .i64 0] 33)
  obtain ⟨W, hW⟩ : ∃ W, W = (w.alloc (.cells #[.int .i64 u.kd, .int .i64 u.nn, .string u.tx, .slice p u.it.length m] 29)).alloc (.cells #[.int .i64 0, .int .i64 0, .string ⟨#[]⟩, .slice none 0 0, .int .i64 0] 33) := ⟨_, rfl⟩
  have hbw : Below w.heap.size w W := by rw [hW]; exact (below_alloc w _).alloc (by simp) _
  have hz : W.heap.size = w.heap.size + 1 + 1 := by rw [hW]; simp
  rw [← hW] at HN
  have hb := (Array.getElem?_eq_some_iff.1 h1).1
  have HCall := Lib.hid (collected_any 7 (by unfold InI64'; omega) L h6 99 #[.pointer (some ⟨fb, 0, none⟩), .pointer (some ⟨w.heap.size, 0, none⟩)] W (fun args w => enter_of Tryz.func99 (by kernel_rfl) rfl args w) fun w' j hj hb' => by
    rw [arr1]
    have hb2 := hbw.trans (hb'.mono hbw.size)
    obtain ⟨g, off, f1, c1, rfl, k0, hE, hC⟩ := hrow j hj
    exact rec11_any u L[j] j L.length cc hj hcc fb w.heap.size g off p m f1 c1 T w' (blk_below h1 hb2 hb) (Keeps.of_below hb2 _ _ _ k0) (blk_below HN.1 hb' (by omega)) hE fun w2 hb3 => hC w2 _ (hb2.trans (hb3.mono hb2.size)) (IsVa.keep (Keeps.of_below (hb2.trans (hb3.mono hb2.size))) _ _ hvv))
  obtain ⟨R, hR⟩ : ∃ R, collR 7 [] L = R := ⟨_, rfl⟩
  rw [hR] at HCall ⊢
  obtain ⟨i0, _, iz⟩ := blk1r (blk_below h1 hbw hb)
  obtain ⟨n, hn⟩ : ∃ n, L.length = n := ⟨_, rfl⟩
  rw [hn] at HCall i0
  have N2 := Lib.hid HN.2
  have HZ := Lib.hid hz
  have BW := Lib.hid hbw
  have HW := Lib.hid hW
  rw [hW] at i0
  clear HN hbw hz hv hvv hrow h1 hb hR h6 hcc hn hW
  go_enter Tryz.func98, Tryz.ntmps98
  go_wp2_with fail
  rw [← HW.out]
  refine HCall.out.mono ?_
  rintro e w1 ⟨c0, c1, c2, c3, F, rfl, ho1, hn1, hb1⟩
  obtain ⟨r3, z3, rfl, rfl, rfl, rfl⟩ := (OwnVa.is _ _ _ ho1).cells
  have HO := Lib.hid ho1
  have HNd := Lib.hid hn1
  have B1 := Lib.hid hb1
  obtain ⟨y4, y5, y6, y7, y8, _, _, _, _, _, yzz⟩ := blk5 (blk_below N2.out hb1 (by have := HZ.out; omega))
  clear hb1 ho1 hn1
  go_wp2_with fail
  refine bodyPost_ret (v := .agg #[.int .i64 R.1.kd, .int .i64 R.1.nn, .string R.1.tx, .slice r3 R.1.it.length z3, .int .i64 R.2]) (by simp [results, Tryz.results98, go_sem, y4, y5, y6, y7, y8]) rfl ?_
  exact rd_of_va BW.out B1.out (by omega) (by have := HZ.out; omega) HO.out HNd.out R.2
end Go.Proofs.YtnnjhcjalmdmcaaGreat
namespace Go.Proofs.YtnnjhcjalmdmcaaGreat
open Go.RowKit

theorem Still.cellR {X : Nat → Prop} {w w' : World} (h : Still X w w') {b o : Nat} {c : Value} (hc : w.cell? ⟨b, o, none⟩ = some c) (hx : ¬ X b) : w'.cell? ⟨b, o, none⟩ = some c := by
  have hb : b < w.heap.size := World.block_lt_of_cell? w ⟨b, o, none⟩ hc
  have e := h.2 b hb hx
  unfold World.cell? at hc ⊢
  simp only at hc ⊢
  rw [e]; exact hc
theorem arrn (a : Value) : (#[a] ++ #[] : Array Value) = #[a] := rfl
theorem headD_getD (l : List Va) : l.getD 0 zva = l.headD zva := by cases l <;> rfl
def GR : RG := fun X w P R _ f1 c1 _ _ => Reads X w P R f1 c1
theorem gr_rm : RM GR where
  move := fun h hs hy => Reads.move h hs hy
  same := fun h hp hr _ => ⟨h.1, fun w' u v hs hP hv => by rw [hr u hP]; exact h.2 w' u v hs (hp u hP) hv⟩
  wrap := fun {X w P R U f1 c1 f2 c2 b} h1 hx h => ⟨fun args w => enter_of Tryz.func80 (by kernel_rfl) rfl args w, fun w' u v hst hp hv => by
    rw [arr0]
    exact wrap1_any u (R u) b v f1 f2 c1 c2 w' (hst.blk h1 hx) hv h.1 fun w2 v2 hb2 hv2 => h.2 w2 u v2 (hst.below hb2) hp hv2⟩
  unwrap := fun {X w P R U f1 c1 f2 c2 b} h1 hx h => ⟨fun args w => enter_of Tryz.func83 (by kernel_rfl) rfl args w, fun w' u v hst hp hv => by
    rw [arr0]
    unfold unwrapR
    by_cases h0 : u.it.length = 0
    · rw [if_pos h0]; exact unwrap1_no u h0 b v w' hv
    · rw [if_neg h0]
      refine unwrap1_yes u (R (u.it.headD zva)) (by omega) b v f1 f2 c1 c2 w' (hst.blk h1 hx) hv h.1 fun w2 v2 hb2 hv2 => ?_
      rw [headD_getD] at hv2
      refine h.2 w2 _ v2 (hst.below hb2) (hp.2 _ ?_) hv2
      cases hl : u.it with
      | nil => rw [hl] at h0; exact absurd rfl h0
      | cons x l => simp⟩
  other := fun {X z w b s c0 c1 c2 c3 d} hd hp hs he hb hx => ⟨fun args w => enter_of Tryz.func85 (by kernel_rfl) rfl args w, fun w' u v hst _ hv => by
    rw [arrn]; exact other1_any u v w' hv⟩
  plain := ⟨fun args w => enter_of Tryz.func101 (by kernel_rfl) rfl args w, fun w' u v _ hp hv => by rw [arrn]; exact plain1_any u v w' hv hp⟩
  pick := fun {X z w b1 b2 wr kn v1 v2} _ s2 _ h8 he _ h2 _ x2 => ⟨fun args w => enter_of Tryz.func88 (by kernel_rfl) rfl args w, fun w' u v hst _ hv => by
    rw [arr0]; exact pick1_any kn b2 v2 _ u v w' (hst.blk h2 x2) (s2.keep (hst.keeps he.below he.lo)) h8 hv⟩
  items := fun {X w P R U f1 c1 f2 c2 b1 b2 k} hk h1 h2 x1 x2 h => ⟨fun args w => enter_of Tryz.func94 (by kernel_rfl) rfl args w, fun w' u v hst hp hv => by
    rw [arr1]
    refine items1_any u (u.it.map R) k hk (by simp) (by simpa using hp.1) b1 b2 v f1 f2 c1 c2 w' (hst.blk h1 x1) (hst.blk h2 x2) hv h.1 fun w2 j hj v2 hb2 hv2 => ?_
    have hj' : j < u.it.length := by simpa using hj
    rw [List.getElem_map]
    rw [getD_eq hj'] at hv2
    exact h.2 w2 _ v2 (hst.below hb2) (hp.2 _ (List.getElem_mem hj')) hv2⟩
  newField := fun {X z w b s c0 c1 c2 c3 d} hd hp hs he hb hx => ⟨fun args w => enter_of Tryz.func108 (by kernel_rfl) rfl args w, fun w' u v hst _ hv => by
    rw [arr0]; exact newField1_any d hd s b c0 c1 c2 c3 u v w' (hst.blk hb hx) hp (IsSh.keep (hst.keeps he.below he.lo) _ _ hs) hv⟩
  field := fun {X z w P R U f1 c1 f2 c2 b1 b2 b3 na su c3 c4 c5 c6 d j} _ _ _ _ h1 _ h3 x1 _ x3 _ h => ⟨fun args w => enter_of Tryz.func106 (by kernel_rfl) rfl args w, fun w' u v hst hp hv => by
    rw [arr1]
    exact field1_any u (R (u.it.getD j zva)) j hp.1 b1 b3 v f1 f2 c1 c2 w' (hst.blk h1 x1) (hst.blk h3 x3) hv h.1 fun w2 v2 hb2 hv2 => h.2 w2 _ v2 (hst.below hb2) hp.2 hv2⟩
  record := fun {X w b aa cc L} hb hx h6 hcc hrow => ⟨fun args w => enter_of Tryz.func98 (by kernel_rfl) rfl args w, fun w' u v hst hp hv => by
    rw [arr0]
    have e : (L.map fun p => p.2.1 u).length = L.length := by simp
    refine rec1_any u (L.map fun p => p.2.1 u) (by rw [e]; exact h6) b aa cc _ (by rw [e]; exact hcc) v w' (by rw [e]; exact hst.blk hb hx) hv fun i hi => ?_
    obtain ⟨g, off, ha, hg, f1, c1, f2, c2, k0, k1, k2⟩ := hrow i (by rw [← e]; exact hi)
    refine ⟨g, off, f1, c1, ha, hst.cellR k0 hg, k2.1, fun w2 v2 hb2 hv2 => ?_⟩
    rw [List.getElem_map]
    exact k2.2 w2 u v2 (hst.below hb2) (hp _ (List.getElem_mem _)) hv2⟩

/-- What readingOf's first one resolves. -/
theorem readingR_any (X : Nat → Prop) (z w : World) (wt rt : Sh) (vw vr : Value) (hpw : partOk 5 wt = true) (hpr : partOk 5 rt = true) (hw : IsSh z wt vw) (hr : IsSh z rt vr) (he : EnvR X z w) :
    Calls Tryz.prog 36 #[vw, vr] w (MadeG GR X (fun u => fitB wt u = true) (rdB 10 wt rt) (wnB 10 wt rt) w) :=
  ro_all GR gr_rm 10 X z w 5 5 wt rt vw vr (by omega) (Nat.le_refl _) (Nat.le_refl _) hpw hpr hw hr he
end Go.Proofs.YtnnjhcjalmdmcaaGreat
