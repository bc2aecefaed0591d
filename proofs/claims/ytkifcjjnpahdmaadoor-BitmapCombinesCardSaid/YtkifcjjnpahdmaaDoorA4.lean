import Derived.Test.YtkifcjjnpahdmaaDoorA3
namespace Go.Proofs.YtkifcjjnpahdmaaDoor
open Go.RowKit
open Go.Deep

theorem bsz {B : Nat} {W w1 : World} (hb : Below B W w1) : W.heap.size ≤ w1.heap.size := hb.size
theorem ret_tup {a b a' b' : Value} (h : a = a') (k : b = b') : Ending.returned (.tuple #[a, b]) = .returned (.tuple #[a', b']) := by rw [h, k]

set_option maxHeartbeats 400000 in
theorem has_bad (n : Int) (A : Option Addr) (cap : Nat) (ws : List Nat) (i : Int) (w : World) (hr : Rd w A ws) (hne : chkI n ws ≠ 0) :
    Calls Tryd.prog 19 #[.agg #[.int .i64 n, .slice A ws.length cap], .int .i64 i] w fun e w' => e = .returned (.tuple #[.bool false, .int .i64 (chkI n ws)]) ∧ Below w.heap.size w w' := by
  have hC := check_any n A cap ws _ (hr.alloc (.cells #[.int .i64 n, .slice A ws.length cap] 24))
  have hb0 : (chkI n ws != 0) = true := by simpa using hne
  have HC := Lib.hid hC
  clear hC
  go_enter Tryd.func19, Tryd.ntmps19
  go_wp2_with fail
  refine HC.out.mono ?_
  rintro e w1 ⟨rfl, hb⟩
  obtain ⟨hc1, hf1⟩ := bc hb
  go_wp2
  go_ret2
  exact ⟨rfl, ((Below.refl _ _).alloc (Nat.le_refl _) _).trans (hb.mono (by simp))⟩
set_option maxHeartbeats 400000 in
theorem has_out (n : Int) (A : Option Addr) (cap : Nat) (ws : List Nat) (i : Int) (w : World) (hr : Rd w A ws) (h0 : chkI n ws = 0) (hi : i < 0 ∨ n ≤ i) :
    Calls Tryd.prog 19 #[.agg #[.int .i64 n, .slice A ws.length cap], .int .i64 i] w fun e w' => e = .returned (.tuple #[.bool false, .int .i64 2]) ∧ Below w.heap.size w w' := by
  have hC := check_any n A cap ws _ (hr.alloc (.cells #[.int .i64 n, .slice A ws.length cap] 24))
  rw [h0] at hC
  have HC := Lib.hid hC
  clear hC h0
  rcases Int.lt_or_le i 0 with h1 | h1
  · clear hi
    go_enter Tryd.func19, Tryd.ntmps19
    go_wp2_with fail
    refine HC.out.mono ?_
    rintro e w1 ⟨rfl, hb⟩
    obtain ⟨hc1, hf1⟩ := bc hb
    go_wp2
    go_ret2
    exact ⟨rfl, ((Below.refl _ _).alloc (Nat.le_refl _) _).trans (hb.mono (by simp))⟩
  · have h2 : n ≤ i := by omega
    clear hi
    go_enter Tryd.func19, Tryd.ntmps19
    go_wp2_with fail
    refine HC.out.mono ?_
    rintro e w1 ⟨rfl, hb⟩
    obtain ⟨hc1, hf1⟩ := bc hb
    go_wp2
    go_ret2
    exact ⟨rfl, ((Below.refl _ _).alloc (Nat.le_refl _) _).trans (hb.mono (by simp))⟩
set_option maxHeartbeats 400000 in
theorem has_in (n : Int) (b o cap : Nat) (ws : List Nat) (k j x z : Nat) (w : World) (hr : Rd w (some ⟨b, o, none⟩) ws) (h0 : chkI n ws = 0) (hk : (k : Int) < n) (hn : n ≤ 1024)
    (hj : (k : Int) / 64 = (j : Int)) (hj2 : (j : Int) < (ws.length : Int)) (hb0 : b < w.heap.size) (hc : w.cell? ⟨b, o + j, none⟩ = some (.int .u64 (x : Int)))
    (hz : bits .and .u64 (x : Int) (maskI (j : Int) (k : Int) ((k : Int) + 1) : Int) = (z : Int)) :
    Calls Tryd.prog 19 #[.agg #[.int .i64 n, .slice (some ⟨b, o, none⟩) ws.length cap], .int .i64 (k : Int)] w fun e w' => e = .returned (.tuple #[.bool ((z : Int) != 0), .int .i64 0]) ∧ Below w.heap.size w w' := by
  have hC := check_any n (some ⟨b, o, none⟩) cap ws _ (hr.alloc (.cells #[.int .i64 n, .slice (some ⟨b, o, none⟩) ws.length cap] 24))
  rw [h0] at hC
  have HC := Lib.hid hC
  clear hC h0
  have hj3 : (j : Int) ≤ 16 := by omega
  have hk0 : ¬ (k : Int) < 0 := by omega
  have hk1 : ¬ n ≤ (k : Int) := by omega
  go_enter Tryd.func19, Tryd.ntmps19
  go_wp2_with fail
  refine HC.out.mono ?_
  rintro e w1 ⟨rfl, hb⟩
  obtain ⟨hc1, hf1⟩ := bc hb
  have hs1 := bsz hb
  have hcell : w1.cell? ⟨b, o + j, none⟩ = some (.int .u64 (x : Int)) := by
    rw [hc1 b _ (by simp; omega), ← hc]
    exact World.cell?_alloc_lt _ _ ⟨b, o + j, none⟩ hb0
  go_wp2
  go_quiet ((go_at_call 47; exact q1 fun W => mask_any _ _ _ W (by omega) (by omega) (by omega) (by omega) (by omega) (by omega)))
  go_wp2
  go_ret2
  exact ⟨rfl, below_drewN (((Below.refl _ _).alloc (Nat.le_refl _) _).trans (hb.mono (by simp))) _⟩
end Go.Proofs.YtkifcjjnpahdmaaDoor
