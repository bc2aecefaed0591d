import Derived.Test.YtkkmnpjkladhfaaDoorW1
import Derived.RegionTactic
import Derived.ChangeAlike
namespace Go.Proofs.YtkkmnpjkladhfaaDoor
open Go.RowKit

set_option maxHeartbeats 1000000 in
theorem evE_any (k p : Int) (w : World) : Calls Tryd.prog 33 #[ev k p] w fun e w' => e = .returned (.int .i64 (evE k p)) ∧ Below w.heap.size w w' := by
  have HP := Lib.hid fun W => proc_any p W
  by_cases h : k < 1 ∨ 6 < k
  · have e : evE k p = 16 := by unfold evE; rw [if_pos h]
    rw [e]
    clear e
    go_enter Tryd.func33, Tryd.ntmps33
    go_wp2_with fail
    all_goals first | (exfalso; omega) | (go_ret; exact ⟨rfl, al1 _ _⟩)
  · by_cases h4 : k = 4
    · subst h4
      have e : evE 4 p = if p < 1 ∨ 8 < p then 2 else 0 := by unfold evE; rw [if_neg h, if_pos rfl]
      rw [e]
      clear e h
      go_enter Tryd.func33, Tryd.ntmps33
      go_wp2_with (go_at_call 40; refine (HP.out _).mono ?_; rintro e w' ⟨rfl, rfl⟩)
      all_goals (go_ret; exact ⟨rfl, al1 _ _⟩)
    · have e : evE k p = if p ≠ 0 then 3 else 0 := by unfold evE; rw [if_neg h, if_neg h4]
      rw [e]
      have k1 : 1 ≤ k := by omega
      have k6 : k ≤ 6 := by omega
      have h4' : (k == 4) = false := by simpa using h4
      clear e h h4
      by_cases g4 : p = 0
      · subst g4
        go_enter Tryd.func33, Tryd.ntmps33
        go_wp2_with fail
        go_ret
        exact ⟨rfl, al1 _ _⟩
      · rw [if_pos g4]
        have g5 : (p != 0) = true := by simpa using g4
        clear g4
        go_enter Tryd.func33, Tryd.ntmps33
        go_wp2_with fail
        go_ret
        exact ⟨rfl, al1 _ _⟩
theorem six {s : Int} (h : 1 ≤ s) (h2 : s ≤ 6) : s = 1 ∨ s = 2 ∨ s = 3 ∨ s = 4 ∨ s = 5 ∨ s = 6 := by omega
set_option maxHeartbeats 4000000 in
theorem possible_any (s k : Int) (w : World) (s1 : 1 ≤ s) (s6 : s ≤ 6) (k1 : 1 ≤ k) (k6 : k ≤ 6) : Calls Tryd.prog 34 #[.int .i64 s, .int .i64 k] w fun e w' => e = .returned (.bool (posB s k)) ∧ Below w.heap.size w w' := by
  rcases six s1 s6 with rfl | rfl | rfl | rfl | rfl | rfl <;> rcases six k1 k6 with rfl | rfl | rfl | rfl | rfl | rfl
  all_goals
    go_enter Tryd.func34, Tryd.ntmps34
    go_wp2
    go_ret
    exact ⟨rfl, al1 _ _⟩
set_option maxHeartbeats 1000000 in
theorem fits_any (s r c k : Int) (w : World) : Calls Tryd.prog 35 #[wt s r c, .int .i64 k] w fun e w' => e = .returned (.bool (fitB s r k)) ∧ Below w.heap.size w w' := by
  rcases (show k = 1 ∨ k = 2 ∨ k = 4 ∨ (k ≠ 1 ∧ k ≠ 2 ∧ k ≠ 4) by omega) with rfl | rfl | rfl | ⟨h1, h2, h4⟩
  · go_enter Tryd.func35, Tryd.ntmps35
    go_wp2
    all_goals
      go_ret
      exact ⟨ret_b (by unfold fitB; simp; omega), al1 _ _⟩
  · rcases (show s = 3 ∨ s ≠ 3 by omega) with rfl | h3
    · go_enter Tryd.func35, Tryd.ntmps35
      go_wp2
      all_goals
        go_ret
        exact ⟨ret_b (by unfold fitB; simp; try omega), al1 _ _⟩
    · have h3' : (s != 3) = true := by simpa using h3
      have e : fitB s r 2 = decide (1 ≤ r) := by
        unfold fitB
        rw [if_neg (by omega), if_pos rfl]
        exact decide_eq_decide.2 (by omega)
      rw [e]
      clear e h3
      rcases (show r = 1 ∨ 1 < r ∨ r < 1 by omega) with rfl | hr | hr
      · go_enter Tryd.func35, Tryd.ntmps35
        go_wp2
        all_goals
          go_ret
          exact ⟨ret_b (by simp; try omega), al1 _ _⟩
      · go_enter Tryd.func35, Tryd.ntmps35
        go_wp2
        all_goals
          go_ret
          exact ⟨ret_b (by simp; try omega), al1 _ _⟩
      · have hr' : (r == 1) = false := by simp; omega
        go_enter Tryd.func35, Tryd.ntmps35
        go_wp2
        all_goals
          go_ret
          exact ⟨ret_b (by simp; try omega), al1 _ _⟩
  · go_enter Tryd.func35, Tryd.ntmps35
    go_wp2
    all_goals
      go_ret
      exact ⟨ret_b (by unfold fitB; simp; try omega), al1 _ _⟩
  · have e : fitB s r k = true := by unfold fitB; rw [if_neg h1, if_neg h2, if_neg h4]
    rw [e]
    have d1 : (k == 1) = false := by simpa using h1
    have d2 : (k == 2) = false := by simpa using h2
    have d4 : (k == 4) = false := by simpa using h4
    clear e h1 h2 h4
    go_enter Tryd.func35, Tryd.ntmps35
    go_wp2
    go_ret
    exact ⟨rfl, al1 _ _⟩
end Go.Proofs.YtkkmnpjkladhfaaDoor
