import Derived.Test.YtkifcjjnpahdmaaDoorF6
namespace Go.Proofs.YtkifcjjnpahdmaaDoor
open Go.RowKit
open Go.Deep

theorem xor_bit (x y j : Nat) : (x ^^^ y).testBit j = (x.testBit j != y.testBit j) := by
  rw [Nat.testBit_xor]
theorem cw_bit (m x y j : Nat) (hy : y < 18446744073709551616) (hj : j < 64) : (cw m x y).testBit j = cb m (x.testBit j) (y.testBit j) := by
  match m with
  | 0 => exact xor_bit x y j
  | 1 => exact Nat.testBit_or ..
  | 2 => exact Nat.testBit_and ..
  | 3 => exact testBit_andn x y j hy hj
  | k + 4 => exact xor_bit x y j
theorem cb_no (m : Nat) : cb m false false = false := by
  match m with
  | 0 => rfl
  | 1 => rfl
  | 2 => rfl
  | 3 => rfl
  | k + 4 => rfl
theorem cmW_pack (m n : Nat) (xs ys : List Nat) (hx : ∀ j, xs.getD j 0 < 18446744073709551616) (hy : ∀ j, ys.getD j 0 < 18446744073709551616) (h0 : chkI n xs = 0) (h1 : chkI n ys = 0) : cmW m xs ys = pack (cbP m xs ys n) n := by
  obtain ⟨g1, g2, g3, g4⟩ := chk_good h0
  obtain ⟨_, _, g5, g6⟩ := chk_good h1
  have hfx := ((fitB_iff n xs g1 hx).1 g3).2
  have hfy := ((fitB_iff n ys g1 hy).1 g5).2
  have hlen : (cmW m xs ys).length = xs.length := by simp [cmW]
  refine pack_eq _ _ _ (by rw [hlen, g4]) (fun j => ?_) fun i hi => ?_
  · rcases Nat.lt_or_ge j xs.length with h | h
    · rw [cmW_at _ _ _ _ h]
      exact cw_lt _ _ _ (hx j) (hy j)
    · have : (cmW m xs ys).getD j 0 = 0 := by simp [hlen, h]
      rw [this]
      decide
  · rw [hlen] at hi
    have hj : i / 64 < xs.length := by omega
    have e : bit (cmW m xs ys) i = cb m (bit xs i) (bit ys i) := by
      unfold bit
      rw [cmW_at _ _ _ _ hj]
      exact cw_bit _ _ _ _ (hy _) (by omega)
    rw [e]
    unfold cbP
    by_cases d : i < n
    · rw [if_pos d, decide_eq_true d, Bool.true_and]
    · rw [if_neg d, decide_eq_false d, Bool.false_and, hfx i (by omega) (by omega), hfy i (by omega) (by omega)]
      exact cb_no m
theorem rcomb_any (n m : Int) (A B : Option Addr) (c d : Nat) (xs ys : List Nat) (op : Int) (w : World) (hx : Rd w A xs) (hy : Rd w B ys) :
    Calls Tryd.prog 30 #[.agg #[.int .i64 n, .slice A xs.length c], .agg #[.int .i64 m, .slice B ys.length d], .int .i64 op] w (RetS w (combN n m xs ys op) (combW n m xs ys op) (combE n m xs ys op)) := by
  unfold combN combW
  by_cases h0 : chkI n xs = 0
  · by_cases h1 : chkI m ys = 0
    · by_cases hc : n ≠ m ∨ op < 1 ∨ 4 < op
      · have e : combE n m xs ys op = 2 := by unfold combE; rw [if_neg (by simp [h0]), if_neg (by simp [h1]), if_pos hc]
        rw [e, if_neg (by omega), if_neg (by omega)]
        by_cases hnm : n = m
        · subst hnm
          by_cases c1 : op < 1
          · exact rcomb_b4 n op A B c d xs ys w hx hy h0 h1 c1
          · exact rcomb_b5 n op A B c d xs ys w hx hy h0 h1 c1 (by omega)
        · exact rcomb_b3 n m op A B c d xs ys w hx hy h0 h1 hnm
      · have e : combE n m xs ys op = 0 := by unfold combE; rw [if_neg (by simp [h0]), if_neg (by simp [h1]), if_neg hc]
        rw [e, if_pos rfl, if_pos rfl]
        obtain rfl : n = m := by omega
        obtain ⟨g1, _⟩ := chk_good h0
        obtain ⟨n', rfl⟩ := Int.eq_ofNat_of_zero_le (a := n) (by omega)
        rw [cmW_pack _ _ _ _ hx.lt hy.lt h0 h1]
        obtain rfl | rfl | rfl | rfl : op = 1 ∨ op = 2 ∨ op = 3 ∨ op = 4 := by omega
        · exact rcomb1 n' A B c d xs ys w hx hy h0 h1
        · exact rcomb2 n' A B c d xs ys w hx hy h0 h1
        · exact rcomb3 n' A B c d xs ys w hx hy h0 h1
        · exact rcomb4 n' A B c d xs ys w hx hy h0 h1
    · have e : combE n m xs ys op = chkI m ys := by unfold combE; rw [if_neg (by simp [h0]), if_pos h1]
      rw [e, if_neg h1, if_neg h1]
      exact rcomb_b2 n m op A B c d xs ys w hx hy h0 h1
  · have e : combE n m xs ys op = chkI n xs := by unfold combE; rw [if_pos h0]
    rw [e, if_neg h0, if_neg h0]
    exact rcomb_b1 n m op A B c d xs ys w hx hy h0
end Go.Proofs.YtkifcjjnpahdmaaDoor
