/- Walks: (*impl.byteReader).number, plain. -/
import Derived.Test.YtbpidhlpakobiaaGreatDoorHUnPl
import Derived.Test.YtbpidhlpakobiaaGreatDoorHRdB
import Derived.Test.YtbpidhlpakobiaaGreatDoorHMarkTW
import Derived.Test.YtbpidhlpakobiaaGreatDoorHPkOf
import Derived.Test.YtbpidhlpakobiaaGreatDoorHFitC
import Derived.StillTailTactics
import Derived.Deep.RegionWith
namespace Go.Proofs.YtbpidhlpakobiaaGreatDoor
open Go.RowKit

/-- Where a reader stands. -/
def RdAt (w : World) (rb : Nat) (bs : ByteArray) (p : Int) : Prop := w.heap[rb]? = some (.cells #[.string bs, .int .i64 p] 91 (0, 0))
theorem textRes_size (bs : ByteArray) (p : Int) (h : bs.size ≤ 8000) : (textRes bs p).1.size ≤ 9223372036854775807 := by
  unfold textRes
  split
  · show (0 : Nat) ≤ _; omega
  · split
    · show (0 : Nat) ≤ _; omega
    · split
      · show (0 : Nat) ≤ _; omega
      · show (bs.extract _ _).size ≤ _
        rw [ByteArray.size_extract]
        omega
theorem plainIs (t : ByteArray) (b : Bool) (h : plainOk t.data.toList = b) (w : World) (hs : t.size ≤ 9223372036854775807) :
    Calls Tryz.prog 180 #[.string t] w fun e w' => e = .returned (.bool b) ∧ w = w' := by
  subst h; exact plainText_any t w hs
theorem errV_bad {c : Int} (h : c ≠ 0) : errV c = .iface 97 (.agg #[.int .i64 c]) := by unfold errV; rw [if_neg h]

set_option maxRecDepth 100000 in
set_option maxHeartbeats 1000000 in
theorem rdNum_any (bs : ByteArray) (p most : Int) (rb : Nat) (w : World) (hs : bs.size ≤ 8000) (h : RdAt w rb bs p) (R : Int × Int × Int) (hR : readN bs p most = R) :
    Calls Tryz.prog 152 #[.pointer (some ⟨rb, 0, none⟩), .int .i64 most] w fun e w' => e = .returned (.tuple #[.int .i64 R.1, errV R.2.2]) ∧ (R.2.2 = 0 → RdAt w' rb bs R.2.1) ∧ Only [rb] w w' := by
  have HH := Lib.hid h
  have HS := Lib.hid hs
  obtain ⟨b0, b1, f0, f1, bz⟩ := blk2 h
  by_cases hc : (getRes bs p).2.2 = 0
  · have HC := Lib.hid hc
    obtain ⟨n, hn⟩ : ∃ n, (getRes bs p).1 = n := ⟨_, rfl⟩
    obtain ⟨q, hq⟩ : ∃ q, (getRes bs p).2.1 = q := ⟨_, rfl⟩
    have HN := Lib.hid hn
    have HQ := Lib.hid hq
    by_cases h1 : n < 0 ∨ most < n
    · have HR : Hid (R = (0, 0, 3)) := by show _ = _; rw [← hR]; unfold readN; rw [if_neg (fun h => h hc), hn, if_pos h1]
      have h1' : n < 0 ∨ (0 ≤ n ∧ most < n) := by omega
      clear h h1 hR hn hq hc hs
      rcases h1' with h1 | ⟨h0, h1⟩
      all_goals
        go_enter Tryz.func152, Tryz.ntmps152
        go_wp2_with fail
        go_region_with (go_at_call 177; refine (readNum_ok bs p _ HS.out HC.out).mono ?_; rintro e w1 ⟨rfl, hb1⟩; rw [HN.out, HQ.out]; have B1 := Lib.hid ((Below.refl w.heap.size w).drew.trans hb1); clear hb1)
        all_goals
          go_wp2_with fail
          go_ret2
          exact ⟨by rw [HR.out]; rfl, by rw [HR.out]; intro h; exact absurd h (by decide), Only.of_below B1.out⟩
    · have HR : Hid (R = (n, q, 0)) := by show _ = _; rw [← hR]; unfold readN; rw [if_neg (fun h => h hc), hn, if_neg h1, hq]
      have h0 : 0 ≤ n := by omega
      have h2 : n ≤ most := by omega
      clear h h1 hR hn hq hc hs
      go_enter Tryz.func152, Tryz.ntmps152
      go_wp2_with fail
      go_region_with (go_at_call 177; refine (readNum_ok bs p _ HS.out HC.out).mono ?_; rintro e w1 ⟨rfl, hb1⟩; rw [HN.out, HQ.out]; have B1 := Lib.hid ((Below.refl w.heap.size w).drew.trans hb1); have C1 := Lib.hid (blk_below HH.out B1.out bz); obtain ⟨_, _, _, _, _⟩ := blk2 C1.out; clear hb1)
      all_goals
        go_wp2_with fail
        go_ret2
        exact ⟨by rw [HR.out]; rfl, by rw [HR.out]; exact fun _ => by have := blk_set C1.out 1 (.int .i64 q); simpa [RdAt] using this, (Only.of_below B1.out).set (by simp) _ _⟩
  · have HB : Hid (R = (0, 0, (getRes bs p).2.2)) := by show _ = _; rw [← hR]; unfold readN; rw [if_pos hc]
    obtain ⟨c, hcc⟩ : ∃ c, (getRes bs p).2.2 = c := ⟨_, rfl⟩
    rw [hcc] at HB hc
    have HC := Lib.hid hcc
    have HC0 := Lib.hid hc
    clear h hR hc hcc hs
    go_enter Tryz.func152, Tryz.ntmps152
    go_wp2_with fail
    go_region_with (go_at_call 177; refine (readNum_bad bs p c _ HS.out HC.out HC0.out).mono ?_; rintro e w1 ⟨rfl, hb1⟩; have B1 := Lib.hid ((Below.refl w.heap.size w).drew.trans hb1); clear hb1)
    all_goals
      go_wp2_with fail
      go_ret2
      exact ⟨by rw [HB.out, errV_bad HC0.out]; rfl, by rw [HB.out]; intro h; exact absurd h HC0.out, Only.of_below B1.out⟩

set_option maxRecDepth 100000 in
set_option maxHeartbeats 1000000 in
theorem rdPlain_any (bs : ByteArray) (p : Int) (rb : Nat) (w : World) (hs : bs.size ≤ 8000) (h : RdAt w rb bs p) (R : ByteArray × Int × Int) (hR : readP bs p = R) :
    Calls Tryz.prog 156 #[.pointer (some ⟨rb, 0, none⟩)] w fun e w' => e = .returned (.tuple #[.string R.1, errV R.2.2]) ∧ (R.2.2 = 0 → RdAt w' rb bs R.2.1) ∧ Only [rb] w w' := by
  have HH := Lib.hid h
  have HS := Lib.hid hs
  obtain ⟨b0, b1, f0, f1, bz⟩ := blk2 h
  by_cases hc : (textRes bs p).2.2 = 0
  · have HC := Lib.hid hc
    obtain ⟨t, ht⟩ : ∃ t, (textRes bs p).1 = t := ⟨_, rfl⟩
    obtain ⟨q, hq⟩ : ∃ q, (textRes bs p).2.1 = q := ⟨_, rfl⟩
    have HT := Lib.hid ht
    have HQ := Lib.hid hq
    have HZ : Hid (t.size ≤ 9223372036854775807) := by show _ ≤ _; rw [← ht]; exact textRes_size bs p hs
    cases h1 : plainOk t.data.toList
    · have HR : Hid (R = (⟨#[]⟩, 0, 3)) := by show _ = _; rw [← hR]; unfold readP; rw [if_neg (fun h => h hc), ht, if_neg (by rw [h1]; decide)]
      have H1 := Lib.hid h1
      clear h h1 hR ht hq hc hs
      go_enter Tryz.func156, Tryz.ntmps156
      go_wp2_with fail
      go_region_with (go_at_call 179; refine (readText_ok bs p _ HS.out HC.out).mono ?_; rintro e w1 ⟨rfl, hb1⟩; rw [HT.out, HQ.out]; have B1 := Lib.hid ((Below.refl w.heap.size w).drew.trans hb1); clear hb1)
      all_goals
        go_wp2_with fail
        refine (plainIs t _ H1.out _ HZ.out).mono ?_
        rintro e w' ⟨rfl, rfl⟩
        go_wp2_with fail
        go_ret2
        exact ⟨by rw [HR.out]; rfl, by rw [HR.out]; intro h; exact absurd h (by decide), Only.of_below B1.out⟩
    · have HR : Hid (R = (t, q, 0)) := by show _ = _; rw [← hR]; unfold readP; rw [if_neg (fun h => h hc), ht, if_pos h1, hq]
      have H1 := Lib.hid h1
      clear h h1 hR ht hq hc hs
      go_enter Tryz.func156, Tryz.ntmps156
      go_wp2_with fail
      go_region_with (go_at_call 179; refine (readText_ok bs p _ HS.out HC.out).mono ?_; rintro e w1 ⟨rfl, hb1⟩; rw [HT.out, HQ.out]; have B1 := Lib.hid ((Below.refl w.heap.size w).drew.trans hb1); have C1 := Lib.hid (blk_below HH.out B1.out bz); obtain ⟨_, _, _, _, _⟩ := blk2 C1.out; clear hb1)
      all_goals
        go_wp2_with fail
        refine (plainIs t _ H1.out _ HZ.out).mono ?_
        rintro e w' ⟨rfl, rfl⟩
        go_wp2_with fail
        go_ret2
        exact ⟨by rw [HR.out]; rfl, by rw [HR.out]; exact fun _ => by have := blk_set C1.out 1 (.int .i64 q); simpa [RdAt] using this, (Only.of_below B1.out).set (by simp) _ _⟩
  · have HB : Hid (R = (⟨#[]⟩, 0, (textRes bs p).2.2)) := by show _ = _; rw [← hR]; unfold readP; rw [if_pos hc]
    obtain ⟨c, hcc⟩ : ∃ c, (textRes bs p).2.2 = c := ⟨_, rfl⟩
    rw [hcc] at HB hc
    have HC := Lib.hid hcc
    have HC0 := Lib.hid hc
    clear h hR hc hcc hs
    go_enter Tryz.func156, Tryz.ntmps156
    go_wp2_with fail
    go_region_with (go_at_call 179; refine (readText_bad bs p c _ HS.out HC.out HC0.out).mono ?_; rintro e w1 ⟨rfl, hb1⟩; have B1 := Lib.hid ((Below.refl w.heap.size w).drew.trans hb1); clear hb1)
    all_goals
      go_wp2_with fail
      go_ret2
      exact ⟨by rw [HB.out, errV_bad HC0.out]; rfl, by rw [HB.out]; intro h; exact absurd h HC0.out, Only.of_below B1.out⟩
end Go.Proofs.YtbpidhlpakobiaaGreatDoor
