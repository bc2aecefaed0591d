import Derived.Test.YtkneonfhikcdkaaDoorO9
namespace Go.Proofs.YtkneonfhikcdkaaDoor
open Go.RowKit

theorem tmod_lt (n m : Int) (h : 1 ≤ m) : -m < n.tmod m ∧ n.tmod m < m := by
  have := Int.tmod_lt_of_pos n (show 0 < m by omega)
  have h2 := Int.lt_tmod_of_pos n (show 0 < m by omega)
  omega
theorem tmod_neg (n m : Int) (h : 1 ≤ m) (h2 : n.tmod m < 0) : n.tmod m + m = n % m := by
  rw [Int.emod_eq_tmod]
  have : ¬ (0 ≤ n ∨ m ∣ n) := by
    rintro (h3 | h3)
    · have := Int.tmod_nonneg m h3; omega
    · have := Int.tmod_eq_zero_of_dvd h3; omega
  rw [if_neg this]
  omega
theorem tmod_pos (n m : Int) (h2 : 0 ≤ n.tmod m) : n.tmod m = n % m := by
  rw [Int.emod_eq_tmod]
  by_cases h3 : 0 ≤ n ∨ m ∣ n
  · rw [if_pos h3]; omega
  · exfalso
    have h4 : ¬ 0 ≤ n := fun x => h3 (.inl x)
    have h5 : n.tmod m ≠ 0 := fun x => h3 (.inr (Int.dvd_of_tmod_eq_zero x))
    have h6 : n.tmod m ≤ 0 := by
      have := Int.tmod_nonneg m (show 0 ≤ -n by omega)
      rw [Int.neg_tmod] at this
      omega
    omega
set_option maxHeartbeats 400000 in
theorem mod_any (n m : Int) (w : World) (h1 : 1 ≤ m) (h2 : m ≤ 1099511627776) : Calls Tryd.prog 36 #[.int .i64 n, .int .i64 m] w fun e w' => e = .returned (.int .i64 (n % m)) ∧ w = w' := by
  obtain ⟨t1, t2⟩ := tmod_lt n m h1
  have t3 := Lib.hid (tmod_neg n m h1)
  have t4 := Lib.hid (tmod_pos n m)
  have t5 : IntKind.i64.wrap (n.tmod m) = n.tmod m := IntWalk.i64_in _ (by omega)
  have hm : (m == 0) = false := by simp; omega
  go_enter Tryd.func36, Tryd.ntmps36
  go_wp2
  · go_ret
    exact ⟨ret_i64 (t3.out (by omega)), rfl⟩
  · go_ret
    exact ⟨ret_i64 (t4.out (by omega)), rfl⟩

theorem pow_facts (n : Int) (h : 1 ≤ n) (h2 : n ≤ 1099511627776) : 0 ≤ blI n - 1 ∧ blI n - 1 ≤ 40 ∧ (2 : Int) ^ (blI n - 1).toNat ≤ n ∧ n < 2 ^ (blI n).toNat := by
  have hb := bl_bd n h (by omega)
  have b1 := Lib.bitLen_le n.toNat 41 (by omega) (by omega)
  unfold blI
  obtain ⟨h3, h4, h5⟩ := hb
  generalize Lib.bitLen n.toNat = k at *
  refine ⟨by omega, by omega, ?_, ?_⟩
  · have e : ((k : Int) - 1).toNat = k - 1 := by omega
    rw [e]
    have : ((2 ^ (k - 1) : Nat) : Int) ≤ ((n.toNat : Nat) : Int) := Int.ofNat_le.2 h4
    rw [Int.natCast_pow] at this
    push_cast at this
    omega
  · have e : (k : Int).toNat = k := by omega
    rw [e]
    have : ((n.toNat : Nat) : Int) < ((2 ^ k : Nat) : Int) := Int.ofNat_lt.2 h5
    rw [Int.natCast_pow] at this
    push_cast at this
    omega
theorem pow_step (n : Int) (h : 1 ≤ n) (h2 : n ≤ 1099511627776) : (blI (n - 1) = blI n - 1 ∧ n = 2 ^ (blI n - 1).toNat) ∨ (blI (n - 1) = blI n ∧ n ≠ 2 ^ (blI n - 1).toNat) := by
  have hb := bl_bd n h (by omega)
  obtain ⟨N, rfl⟩ : ∃ N : Nat, n = N := ⟨n.toNat, by omega⟩
  have e0 : ((N : Int) - 1).toNat = N - 1 := by omega
  unfold blI
  rw [e0]
  rw [Int.toNat_natCast] at hb ⊢
  obtain ⟨h3, h4, h5⟩ := hb
  have hc : N ≠ 1 → 1 ≤ Lib.bitLen (N - 1) ∧ 2 ^ (Lib.bitLen (N - 1) - 1) ≤ N - 1 ∧ N - 1 < 2 ^ Lib.bitLen (N - 1) := fun h1 => by
    have := bl_bd ((N : Int) - 1) (by omega) (by omega)
    rwa [e0] at this
  have c1 : ∀ k, k ≤ 64 → N - 1 < 2 ^ k → Lib.bitLen (N - 1) ≤ k := fun k hk hl => Lib.bitLen_le (N - 1) k hk hl
  have b1 := Lib.bitLen_le N 41 (by omega) (by omega)
  generalize hL : Lib.bitLen N = L at *
  obtain ⟨k, rfl⟩ : ∃ k, L = k + 1 := ⟨L - 1, by omega⟩
  have e1 : (((k + 1 : Nat) : Int) - 1).toNat = k := by omega
  rw [e1]
  have e2 : ((N : Int) = 2 ^ k) ↔ N = 2 ^ k := by
    rw [← Int.natCast_inj, Int.natCast_pow]; push_cast; rfl
  rw [Ne, e2]
  have e3 : (2 : Nat) ^ (k + 1) = 2 * 2 ^ k := by rw [Nat.pow_succ]; omega
  simp only [Nat.add_sub_cancel] at h4
  by_cases hN : N = 2 ^ k
  · left
    refine ⟨?_, hN⟩
    rcases Nat.eq_zero_or_pos k with rfl | hk
    · have : N = 1 := by simpa using hN
      subst this
      rfl
    · obtain ⟨j, rfl⟩ : ∃ j, k = j + 1 := ⟨k - 1, by omega⟩
      have e4 : (2 : Nat) ^ (j + 1) = 2 * 2 ^ j := by rw [Nat.pow_succ]; omega
      have e5 : 1 ≤ (2 : Nat) ^ j := Nat.one_le_two_pow
      obtain ⟨g1, g2, g3⟩ := hc (by omega)
      have g4 := c1 (j + 1) (by omega) (by omega)
      have g5 : ¬ Lib.bitLen (N - 1) ≤ j := fun hle => by
        have := Nat.pow_le_pow_right (show 0 < 2 by omega) hle
        omega
      omega
  · right
    refine ⟨?_, hN⟩
    have e5 : 1 ≤ (2 : Nat) ^ k := Nat.one_le_two_pow
    obtain ⟨g1, g2, g3⟩ := hc (by omega)
    have g4 := c1 (k + 1) (by omega) (by omega)
    have g5 : ¬ Lib.bitLen (N - 1) ≤ k := fun hle => by
      have := Nat.pow_le_pow_right (show 0 < 2 by omega) hle
      omega
    omega
set_option maxHeartbeats 4000000 in
theorem powers_any (x : Int) (w : World) (hT : Tab w) (h2 : 2 ≤ w.heap.size) : Calls Tryd.prog 8 #[.int .i64 x] w fun e w' => e = .returned (.bool true) ∧ Ev w w' := by
  have HM := Lib.hid fun W => mod_any x 1099511627776 W (by omega) (by omega)
  have m0 := Int.emod_nonneg x (show (1099511627776 : Int) ≠ 0 by omega)
  have m1 := Int.emod_lt_of_pos x (show (0 : Int) < 1099511627776 by omega)
  generalize x % 1099511627776 = y at *
  have H1 : Hid (∀ W, Calls Tryd.prog 11 #[.int .i64 (1 + y)] W fun e w' => e = .returned (.tuple #[.int .i64 (blI (1 + y) - 1), .int .i64 0]) ∧ W = w') := Lib.hid fun W => by
    have h := log_any (1 + y) W (by omega)
    have e1 : logV (1 + y) = blI (1 + y) - 1 := by unfold logV; rw [if_neg (by omega)]
    have e2 : logE (1 + y) = 0 := by unfold logE; rw [if_neg (by omega)]
    rw [e1, e2] at h
    exact h
  have H2 : Hid (∀ W, Calls Tryd.prog 13 #[.int .i64 (1 + y)] W fun e w' => e = .returned (.tuple #[.int .i64 (blI y), .int .i64 0]) ∧ W = w') := Lib.hid fun W => by
    have h := least_any (1 + y) W (by omega)
    have e1 : lstV (1 + y) = blI y := by unfold lstV; rw [if_neg (by omega), show 1 + y - 1 = y by omega]
    have e2 : logE (1 + y) = 0 := by unfold logE; rw [if_neg (by omega)]
    rw [e1, e2] at h
    exact h
  have H7 : Hid (∀ W, Ev w W → Calls Tryd.prog 17 #[] W fun e w' => e = .returned (.bool true) ∧ Ev w w') := Lib.hid fun W e => evN e (awake_any W (hT.ev h2 e) (by have := e.sz; omega))
  obtain ⟨k0, k1, k2, k3⟩ := pow_facts (1 + y) (by omega) (by omega)
  have hm : (blI y = blI (1 + y) - 1 ∧ 1 + y = 2 ^ (blI (1 + y) - 1).toNat) ∨ (blI y = blI (1 + y) ∧ 1 + y ≠ 2 ^ (blI (1 + y) - 1).toNat) := by
    have := pow_step (1 + y) (by omega) (by omega)
    rwa [show 1 + y - 1 = y by omega] at this
  have e3 : (blI (1 + y)).toNat = (blI (1 + y) - 1).toNat + 1 := by omega
  rw [e3] at k3
  obtain ⟨k, hk⟩ : ∃ k : Nat, blI (1 + y) - 1 = k := ⟨(blI (1 + y) - 1).toNat, by omega⟩
  have hk' : blI (1 + y) = k + 1 := by omega
  rw [hk] at k2 k3 hm H1 k1
  rw [hk'] at hm
  rw [Int.toNat_natCast] at k2 k3 hm
  clear hT e3 hk hk' k0
  go_enter Tryd.func8, Tryd.ntmps8
  go_wp2_with fail
  refine (HM.out _).mono ?_
  rintro e w' ⟨rfl, rfl⟩
  go_wp2_with fail
  refine (H1.out _).mono ?_
  rintro e w' ⟨rfl, rfl⟩
  go_wp2_with fail
  refine (H2.out _).mono ?_
  rintro e w' ⟨rfl, rfl⟩
  rcases hm with ⟨e1, e2⟩ | ⟨e1, e2⟩
  · rw [e1]
    go_wp2_with fail
    refine (H7.out _ (Ev.refl _)).mono ?_
    rintro e w' ⟨rfl, hev⟩
    go_wp2_with fail
    go_ret
    exact ⟨rfl, hev⟩
  · rw [e1]
    have q1 : ((1 + y : Int) == 2 ^ k) = false := by simpa using e2
    have q2 : ((k : Int) + 1 == k) = false := by simp; omega
    clear e2
    go_wp2_with fail
    refine (H7.out _ (Ev.refl _)).mono ?_
    rintro e w' ⟨rfl, hev⟩
    go_wp2_with fail
    go_ret
    exact ⟨rfl, hev⟩
end Go.Proofs.YtkneonfhikcdkaaDoor
