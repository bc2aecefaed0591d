import Derived.Test.YteilclbpehmbpaaG1
import Derived.IntWalk
import Derived.Deep.LoopGhost
import Derived.WalkMore
namespace Go.Proofs.Yteilclbpehmbpaa
open Go.RowKit
/-- the ratio -/
def rt (n : Int) : Int := if 256 ≤ n then 8 else if 196 ≤ n then 7 else if 144 ≤ n then 6 else if 100 ≤ n then 5 else if 64 ≤ n then 4 else if 36 ≤ n then 3 else if 16 ≤ n then 2 else 1
def rtE (n : Int) : Int := if 0 ≤ n ∧ n ≤ 256 then 0 else 2
def rtV (n : Int) : Int := if 0 ≤ n ∧ n ≤ 256 then rt n else 0
def tgV (n : Int) : Int := if 0 ≤ n ∧ n ≤ 256 then (n + rt n) / (rt n + 1) else 0
theorem rt_cases (n : Int) (h : n ≤ 256) : (n < 16 ∧ rt n = 1) ∨ (16 ≤ n ∧ n < 36 ∧ rt n = 2) ∨ (36 ≤ n ∧ n < 64 ∧ rt n = 3) ∨ (64 ≤ n ∧ n < 100 ∧ rt n = 4) ∨ (100 ≤ n ∧ n < 144 ∧ rt n = 5) ∨ (144 ≤ n ∧ n < 196 ∧ rt n = 6) ∨ (196 ≤ n ∧ n < 256 ∧ rt n = 7) ∨ (256 = n ∧ rt n = 8) := by
  unfold rt
  repeat' split
  all_goals omega
theorem rt_bd (n : Int) (h : n ≤ 256) : 1 ≤ rt n ∧ rt n ≤ 8 := by
  rcases rt_cases n h with h | h | h | h | h | h | h | h <;> omega
set_option maxHeartbeats 1000000 in
theorem rratio_any (n : Int) (w : World) (h0 : 0 ≤ n) (h1 : n ≤ 256) : Calls Try.prog 35 #[.int .i64 n] w fun e w' => e = .returned (.int .i64 (rt n)) ∧ w = w' := by
  have hc := Lib.hid (rt_cases n h1)
  obtain ⟨r, hr⟩ : ∃ r, rt n = r := ⟨_, rfl⟩
  rw [hr] at hc ⊢
  clear hr
  go_enter Try.func35, Try.ntmps35
  go_wp2
  go_loop [3] (fun t => ∃ k : Int, 1 ≤ k ∧ k ≤ r ∧ t = .int .i64 k) (fun t => (9 - intOf t).toNat)
  case atStart => exact ⟨1, by omega, by have := hc.out; omega, rfl⟩
  case round =>
    obtain ⟨k, hk1, hk2, rfl⟩ := hrel
    have hr8 : r ≤ 8 := by have := hc.out; omega
    rcases (show k = 1 ∨ k = 2 ∨ k = 3 ∨ k = 4 ∨ k = 5 ∨ k = 6 ∨ k = 7 ∨ k = 8 by omega) with rfl | rfl | rfl | rfl | rfl | rfl | rfl | rfl
    all_goals
      go_wp2
      all_goals
        first
          | (go_ret; refine ⟨ret_i64 ?_, rfl⟩; have := hc.out; omega)
          | (go_round
             case rel => exact ⟨_, by omega, by have := hc.out; omega, rfl⟩
             case measure => simp [intOf])
set_option maxHeartbeats 2000000 in
theorem ratio_ok (n : Int) (w : World) (h0 : 0 ≤ n) (h1 : n ≤ 256) : Calls Try.prog 9 #[.int .i64 n] w fun e w' => e = .returned (.tuple #[.int .i64 (rt n), .int .i64 0]) ∧ w = w' := by
  have hc := Lib.hid (rt_cases n h1)
  obtain ⟨r, hr⟩ : ∃ r, rt n = r := ⟨_, rfl⟩
  rw [hr] at hc ⊢
  clear hr
  go_enter Try.func9, Try.ntmps9
  go_wp2
  go_step3
  go_wp2
  go_step3
  go_wp2
  go_loopg [4, 12] 12 (fun g t i wr => ∃ k : Int, 0 ≤ k ∧ k ≤ r + 1 ∧ (g : Int) + k = 12 ∧ i = .int .i64 k ∧ t = .int .i64 (if k ≤ 2 then 1 else k - 1) ∧ w = wr)
  case atStart => exact ⟨0, by omega, by have := hc.out; omega, by omega, rfl, rfl, rfl⟩
  case round =>
    obtain ⟨k, hk1, hk2, hg, rfl, rfl, rfl⟩ := hrel
    have hr8 : r ≤ 8 := by have := hc.out; omega
    have HG := Lib.hid hg
    clear hg
    rcases (show k = 0 ∨ k = 1 ∨ k = 2 ∨ k = 3 ∨ k = 4 ∨ k = 5 ∨ k = 6 ∨ k = 7 ∨ k = 8 ∨ k = 9 by omega) with rfl | rfl | rfl | rfl | rfl | rfl | rfl | rfl | rfl | rfl
    all_goals
      go_wp2
      all_goals
        first
          | (exfalso; have := hc.out; omega)
          | ((try rw [Exit.noGoto_ret]); go_ret2; refine ⟨ret_2 ?_ rfl, rfl⟩; have := hc.out; omega)
          | (go_roundg (gk - 1)
             case rel =>
               refine ⟨_, ?_, ?_, ?_, rfl, ?_, rfl⟩
               · omega
               · have := hc.out; omega
               · have := HG.out; omega
               · simp
             case measure => have := HG.out; omega)
theorem ratio_bad (n : Int) (w : World) (h : ¬ (0 ≤ n ∧ n ≤ 256)) : Calls Try.prog 9 #[.int .i64 n] w fun e w' => e = .returned (.tuple #[.int .i64 0, .int .i64 2]) ∧ w = w' := by
  by_cases h1 : n < 0
  · go_enter Try.func9, Try.ntmps9
    go_wp2
    go_step3
    go_wp2
    (try rw [Exit.noGoto_ret])
    go_ret2
    exact ⟨rfl, rfl⟩
  · have h2 : 256 < n := by omega
    go_enter Try.func9, Try.ntmps9
    go_wp2
    go_step3
    go_wp2
    (try rw [Exit.noGoto_ret])
    go_ret2
    exact ⟨rfl, rfl⟩
theorem ratio_any (n : Int) (w : World) : Calls Try.prog 9 #[.int .i64 n] w fun e w' => e = .returned (.tuple #[.int .i64 (rtV n), .int .i64 (rtE n)]) ∧ w = w' := by
  unfold rtV rtE
  by_cases h : 0 ≤ n ∧ n ≤ 256
  · rw [if_pos h, if_pos h]; exact ratio_ok n w h.1 h.2
  · rw [if_neg h, if_neg h]; exact ratio_bad n w h
theorem rRatio_any (n : Int) (w : World) : Calls Try.prog 18 #[.int .i64 n] w fun e w' => e = .returned (.tuple #[.int .i64 (rtV n), .int .i64 (rtE n)]) ∧ w = w' := by
  unfold rtV rtE
  by_cases h : 0 ≤ n ∧ n ≤ 256
  · rw [if_pos h, if_pos h]
    have H := Lib.hid (rratio_any n w h.1 h.2)
    obtain ⟨h0, h1⟩ := h
    have h2 : decide (n < 0) = false := decide_eq_false (by omega)
    have h3 : decide (256 < n) = false := decide_eq_false (by omega)
    go_enter Try.func18, Try.ntmps18
    go_wp2_with fail
    refine H.out.mono ?_
    rintro e w' ⟨rfl, rfl⟩
    go_wp2
    go_ret2
    exact ⟨rfl, rfl⟩
  · rw [if_neg h, if_neg h]
    by_cases h1 : n < 0
    · go_enter Try.func18, Try.ntmps18
      go_wp2
      go_ret2
      exact ⟨rfl, rfl⟩
    · have h2 : 256 < n := by omega
      go_enter Try.func18, Try.ntmps18
      go_wp2
      go_ret2
      exact ⟨rfl, rfl⟩
theorem target_any (n : Int) (w : World) : Calls Try.prog 19 #[.int .i64 n] w fun e w' => e = .returned (.tuple #[.int .i64 (tgV n), .int .i64 (rtE n)]) ∧ w = w' := by
  unfold tgV rtE
  by_cases h : 0 ≤ n ∧ n ≤ 256
  · rw [if_pos h, if_pos h]
    have H := Lib.hid (ratio_ok n w h.1 h.2)
    obtain ⟨r1, r2⟩ := rt_bd n h.2
    have q1 : (n + rt n).tdiv (rt n + 1) = (n + rt n) / (rt n + 1) := Int.tdiv_eq_ediv_of_nonneg (by omega)
    have q2 : 0 ≤ (n + rt n) / (rt n + 1) := Int.ediv_nonneg (by omega) (by omega)
    have q3 : (n + rt n) / (rt n + 1) ≤ n + rt n := Int.ediv_le_self _ (by omega)
    have hz : (rt n + 1 == 0) = false := by simp; omega
    obtain ⟨h0, h1⟩ := h
    generalize rt n = r at *
    generalize (n + r) / (r + 1) = t at *
    go_enter Try.func19, Try.ntmps19
    go_wp2_with fail
    refine H.out.mono ?_
    rintro e w' ⟨rfl, rfl⟩
    go_wp2
    go_ret2
    exact ⟨ret_2 (by first | rfl | assumption) rfl, rfl⟩
  · rw [if_neg h, if_neg h]
    have H := Lib.hid (ratio_bad n w h)
    go_enter Try.func19, Try.ntmps19
    go_wp2_with fail
    refine H.out.mono ?_
    rintro e w' ⟨rfl, rfl⟩
    go_wp2
    go_ret2
    exact ⟨rfl, rfl⟩
theorem rtarget_ok (n : Int) (w : World) (h0 : 0 ≤ n) (h1 : n ≤ 256) : Calls Try.prog 36 #[.int .i64 n] w fun e w' => e = .returned (.int .i64 ((n + rt n) / (rt n + 1))) ∧ w = w' := by
  have H := Lib.hid (rratio_any n w h0 h1)
  obtain ⟨r1, r2⟩ := rt_bd n h1
  have q1 : (n + rt n).tdiv (rt n + 1) = (n + rt n) / (rt n + 1) := Int.tdiv_eq_ediv_of_nonneg (by omega)
  have q2 : 0 ≤ (n + rt n) / (rt n + 1) := Int.ediv_nonneg (by omega) (by omega)
  have q3 : (n + rt n) / (rt n + 1) ≤ n + rt n := Int.ediv_le_self _ (by omega)
  have hz : (rt n + 1 == 0) = false := by simp; omega
  generalize rt n = r at *
  have q4 : n + (r + 1) - 1 = n + r := by omega
  generalize (n + r) / (r + 1) = t at *
  go_enter Try.func36, Try.ntmps36
  go_wp2_with fail
  refine H.out.mono ?_
  rintro e w' ⟨rfl, rfl⟩
  go_wp2
  go_ret
  exact ⟨ret_i64 (by first | rfl | assumption), rfl⟩
theorem rTarget_any (n : Int) (w : World) : Calls Try.prog 20 #[.int .i64 n] w fun e w' => e = .returned (.tuple #[.int .i64 (tgV n), .int .i64 (rtE n)]) ∧ w = w' := by
  unfold tgV rtE
  by_cases h : 0 ≤ n ∧ n ≤ 256
  · rw [if_pos h, if_pos h]
    have H := Lib.hid (rtarget_ok n w h.1 h.2)
    obtain ⟨h0, h1⟩ := h
    have h2 : decide (n < 0) = false := decide_eq_false (by omega)
    have h3 : decide (256 < n) = false := decide_eq_false (by omega)
    generalize (n + rt n) / (rt n + 1) = t at *
    go_enter Try.func20, Try.ntmps20
    go_wp2_with fail
    refine H.out.mono ?_
    rintro e w' ⟨rfl, rfl⟩
    go_wp2
    go_ret2
    exact ⟨rfl, rfl⟩
  · rw [if_neg h, if_neg h]
    by_cases h1 : n < 0
    · go_enter Try.func20, Try.ntmps20
      go_wp2
      go_ret2
      exact ⟨rfl, rfl⟩
    · have h2 : 256 < n := by omega
      go_enter Try.func20, Try.ntmps20
      go_wp2
      go_ret2
      exact ⟨rfl, rfl⟩
end Go.Proofs.Yteilclbpehmbpaa
