import Derived.Test.YtkkmnpjkladhfaaDoorW6
namespace Go.Proofs.YtkkmnpjkladhfaaDoor
open Go.RowKit

set_option maxHeartbeats 400000 in
theorem rleast_any (s : Int) (w : World) (s1 : 1 ≤ s) (s6 : s ≤ 6) : Calls Tryd.prog 41 #[.int .i64 s] w fun e w' => e = .returned (.tuple #[.int .i64 (lstV s), .int .i64 (if s = 6 then 0 else 512)]) ∧ w = w' := by
  rcases six s1 s6 with rfl | rfl | rfl | rfl | rfl | rfl
  all_goals
    go_enter Tryd.func41, Tryd.ntmps41
    go_wp2
    go_ret2
    exact ⟨rfl, rfl⟩
set_option maxHeartbeats 1000000 in
theorem rcheck_any (s r c : Int) (w : World) : Calls Tryd.prog 15 #[wt s r c] w fun e w' => e = .returned (.int .i64 (oChk s r c)) ∧ Ev w w' := by
  by_cases h1 : s < 1 ∨ 6 < s
  · have e : oChk s r c = 9 := by unfold oChk; rw [if_pos h1]
    rw [e]
    clear e
    go_enter Tryd.func15, Tryd.ntmps15
    go_wp2_with fail
    all_goals first | (exfalso; omega) | (go_ret; exact ⟨rfl, al1 _ _⟩)
  have s1 : 1 ≤ s := by omega
  have s6 : s ≤ 6 := by omega
  have HL := Lib.hid fun W => rleast_any s W s1 s6
  clear h1
  rcases (show c = 0 ∨ c ≠ 0 by omega) with rfl | hc
  · rcases six s1 s6 with rfl | rfl | rfl | rfl | rfl | rfl
    all_goals
      go_enter Tryd.func15, Tryd.ntmps15
      go_wp2_with (go_at_call 41; refine (HL.out _).mono ?_; simp only [lstV]; rintro e w' ⟨rfl, rfl⟩)
      all_goals
        go_ret
        exact ⟨ret_i64 (by unfold oChk; (repeat' split) <;> omega), al1 _ _⟩
  · have hc' : (c != 0) = true := by simpa using hc
    have HC := Lib.hid hc
    clear hc
    rcases six s1 s6 with rfl | rfl | rfl | rfl | rfl | rfl
    all_goals
      go_enter Tryd.func15, Tryd.ntmps15
      go_wp2_with (go_at_call 41; refine (HL.out _).mono ?_; simp only [lstV]; rintro e w' ⟨rfl, rfl⟩)
      all_goals
        have hcc := HC.out
        go_ret
        exact ⟨ret_i64 (by unfold oChk; (repeat' split) <;> omega), al1 _ _⟩
def pE (s r k : Int) : Int := if posB s k = false then 9 else if fitB s r k = false then 15 else 0
set_option maxHeartbeats 4000000 in
theorem rpossible_any (s r c k : Int) (w : World) (s1 : 1 ≤ s) (s6 : s ≤ 6) (k1 : 1 ≤ k) (k6 : k ≤ 6) (r0 : 0 ≤ r) : Calls Tryd.prog 37 #[wt s r c, .int .i64 k] w fun e w' => e = .returned (.int .i64 (pE s r k)) ∧ Ev w w' := by
  rcases six k1 k6 with rfl | rfl | rfl | rfl | rfl | rfl <;> rcases six s1 s6 with rfl | rfl | rfl | rfl | rfl | rfl
  all_goals
    go_enter Tryd.func37, Tryd.ntmps37
    go_wp2
    all_goals
      go_ret
      exact ⟨ret_i64 (by simp [pE, posB, fitB] <;> omega), al1 _ _⟩
end Go.Proofs.YtkkmnpjkladhfaaDoor
