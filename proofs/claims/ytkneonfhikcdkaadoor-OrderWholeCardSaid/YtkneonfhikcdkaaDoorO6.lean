import Derived.Test.YtkneonfhikcdkaaDoorO5
namespace Go.Proofs.YtkneonfhikcdkaaDoor
open Go.RowKit

theorem len_any (x : Int) (w : World) (h0 : 0 ≤ x) (h1 : x ≤ 18446744073709551615) : Calls Tryd.prog 38 #[.int .u64 x] w fun e w' => e = .returned (.int .i64 (Lib.bitLen x.toNat)) ∧ w = w' :=
  (Tryd.bits_Len x w h0 h1).mono fun _ _ h => ⟨h.1, h.2.symm⟩
def blI (n : Int) : Int := Lib.bitLen n.toNat
theorem blI_half (n : Int) (h : 1 < n) (h2 : n ≤ 9223372036854775807) : blI n = 1 + blI (n / 2) := bl_half n h (by omega)
theorem blI_one : blI 1 = 1 := rfl
theorem blI_bd (n : Int) (h : 1 ≤ n) (h2 : n ≤ 9223372036854775807) : 1 ≤ blI n ∧ blI n ≤ 64 := by
  have := bl_bd n h (by omega)
  have h3 := Lib.bitLen_le n.toNat 64 (by omega) (by omega)
  unfold blI
  omega
theorem blI_zero : blI 0 = 0 := rfl
def logV (n : Int) : Int := if n < 1 then 0 else blI n - 1
def logE (n : Int) : Int := if n < 1 then 2 else 0
def lstV (n : Int) : Int := if n < 1 then 0 else blI (n - 1)
set_option maxHeartbeats 400000 in
theorem log_any (n : Int) (w : World) (hn : n ≤ 9223372036854775807) : Calls Tryd.prog 11 #[.int .i64 n] w fun e w' => e = .returned (.tuple #[.int .i64 (logV n), .int .i64 (logE n)]) ∧ w = w' := by
  unfold logV logE
  by_cases h : n < 1
  · rw [if_pos h, if_pos h]
    go_enter Tryd.func11, Tryd.ntmps11
    go_wp2_with fail
    go_ret2
    exact ⟨rfl, rfl⟩
  · rw [if_neg h, if_neg h]
    have H : Hid (∀ W, Calls Tryd.prog 38 #[.int .u64 n] W fun e w' => e = .returned (.int .i64 (blI n)) ∧ W = w') := Lib.hid fun W => len_any n W (by omega) (by omega)
    obtain ⟨b1, b2⟩ := blI_bd n (by omega) hn
    have n0 : 0 ≤ n := by omega
    have n1 : 1 ≤ n := by omega
    clear h
    generalize blI n = b at *
    go_enter Tryd.func11, Tryd.ntmps11
    go_wp2_with fail
    refine (H.out _).mono ?_
    rintro e w' ⟨rfl, rfl⟩
    go_wp2_with fail
    go_ret2
    exact ⟨rfl, rfl⟩
set_option maxHeartbeats 400000 in
theorem least_any (n : Int) (w : World) (hn : n ≤ 9223372036854775807) : Calls Tryd.prog 13 #[.int .i64 n] w fun e w' => e = .returned (.tuple #[.int .i64 (lstV n), .int .i64 (logE n)]) ∧ w = w' := by
  unfold lstV logE
  by_cases h : n < 1
  · rw [if_pos h, if_pos h]
    go_enter Tryd.func13, Tryd.ntmps13
    go_wp2_with fail
    go_ret2
    exact ⟨rfl, rfl⟩
  · rw [if_neg h, if_neg h]
    have H : Hid (∀ W, Calls Tryd.prog 38 #[.int .u64 (n - 1)] W fun e w' => e = .returned (.int .i64 (blI (n - 1))) ∧ W = w') := Lib.hid fun W => len_any (n - 1) W (by omega) (by omega)
    have n0 : 0 ≤ n := by omega
    have n1 : 1 ≤ n := by omega
    have n2 : 0 ≤ n - 1 := by omega
    have hw : IntKind.u64.wrap (n - 1) = n - 1 := by rw [IntKind.wrap_u64]; omega
    clear h
    generalize blI (n - 1) = b at *
    go_enter Tryd.func13, Tryd.ntmps13
    go_wp2_with fail
    refine (H.out _).mono ?_
    rintro e w' ⟨rfl, rfl⟩
    go_wp2_with fail
    go_ret2
    exact ⟨rfl, rfl⟩
set_option maxHeartbeats 400000 in
theorem rlog_any (n : Int) (w : World) (hn : n ≤ 9223372036854775807) : Calls Tryd.prog 12 #[.int .i64 n] w fun e w' => e = .returned (.tuple #[.int .i64 (logV n), .int .i64 (logE n)]) ∧ w = w' := by
  unfold logV logE
  by_cases h : n < 1
  · rw [if_pos h, if_pos h]
    go_enter Tryd.func12, Tryd.ntmps12
    go_wp2_with fail
    go_ret2
    exact ⟨rfl, rfl⟩
  · rw [if_neg h, if_neg h]
    obtain ⟨b1, b2⟩ := blI_bd n (by omega) hn
    have n1 : 1 ≤ n := by omega
    obtain ⟨b, hb⟩ : ∃ b, b = blI n := ⟨_, rfl⟩
    rw [← hb] at b1 b2 ⊢
    have HB := Lib.hid hb
    clear h hb
    go_enter Tryd.func12, Tryd.ntmps12
    go_wp2_with fail
    go_loop [0, 4] (fun x k => ∃ m j : Int, 1 ≤ m ∧ m ≤ n ∧ 0 ≤ j ∧ j ≤ 64 ∧ x = .int .i64 m ∧ k = .int .i64 j ∧ blI m + j = b) (fun x _ => (intOf x).toNat)
    case atStart => exact ⟨n, 0, by omega, by omega, by omega, by omega, rfl, rfl, by rw [HB.out]; omega⟩
    case round =>
      obtain ⟨m, j, m1, m2, j0, j1, rfl, rfl, hbj⟩ := hrel
      have HBJ := Lib.hid hbj
      by_cases hm : 1 < m
      · have h2 := blI_half m hm (by omega)
        have h3 := blI_bd (m / 2) (by omega) (by omega)
        have h5 : j + 1 ≤ 64 := by omega
        have H2 := Lib.hid h2
        clear hbj h2 h3
        go_wp2_with fail
        go_round
        case rel => exact ⟨m / 2, j + 1, by omega, by omega, by omega, by omega, rfl, rfl, by have := HBJ.out; have := H2.out; omega⟩
        case measure => simp [intOf]; omega
      · obtain rfl : m = 1 := by omega
        rw [blI_one] at hbj
        clear HBJ
        have HBJ := Lib.hid hbj
        clear hbj
        go_wp2_with fail
        go_ret2
        exact ⟨ret_2 (by have := HBJ.out; omega) rfl, rfl⟩
set_option maxHeartbeats 400000 in
theorem rleast_any (n : Int) (w : World) (hn : n ≤ 9223372036854775807) : Calls Tryd.prog 14 #[.int .i64 n] w fun e w' => e = .returned (.tuple #[.int .i64 (lstV n), .int .i64 (logE n)]) ∧ w = w' := by
  unfold lstV logE
  by_cases h : n < 1
  · rw [if_pos h, if_pos h]
    go_enter Tryd.func14, Tryd.ntmps14
    go_wp2_with fail
    go_ret2
    exact ⟨rfl, rfl⟩
  · rw [if_neg h, if_neg h]
    have n1 : 1 ≤ n := by omega
    by_cases h1 : n = 1
    · subst h1
      go_enter Tryd.func14, Tryd.ntmps14
      go_wp2_with fail
      go_ret2
      exact ⟨rfl, rfl⟩
    · have hl := fun W => rlog_any (n - 1) W (by omega)
      have e1 : logV (n - 1) = blI (n - 1) - 1 := by unfold logV; rw [if_neg (by omega)]
      have e2 : logE (n - 1) = 0 := by unfold logE; rw [if_neg (by omega)]
      rw [e1, e2] at hl
      obtain ⟨b1, b2⟩ := blI_bd (n - 1) (by omega) (by omega)
      have H := Lib.hid hl
      have h1' : (n == 1) = false := by simpa using h1
      clear hl e1 e2 h h1
      generalize blI (n - 1) = b at *
      go_enter Tryd.func14, Tryd.ntmps14
      go_wp2_with fail
      refine (H.out _).mono ?_
      rintro e w' ⟨rfl, rfl⟩
      go_wp2_with fail
      go_ret2
      exact ⟨ret_2 (by omega) rfl, rfl⟩
end Go.Proofs.YtkneonfhikcdkaaDoor
