import Derived.Test.YteilclbpehmbpaaB1
namespace Go.Proofs.Yteilclbpehmbpaa
open Go.RowKit
def ptOk (n num den : Int) : Prop := 0 ≤ n ∧ n ≤ 256 ∧ 1 ≤ den ∧ den ≤ 1000 ∧ 0 ≤ num ∧ num ≤ den
instance (n num den : Int) : Decidable (ptOk n num den) := by unfold ptOk; infer_instance
def ptV (n num den : Int) : Int := if ptOk n num den then (2 * n * num + den) / (2 * den) else 0
def ptE (n num den : Int) : Int := if ptOk n num den then 0 else 2
theorem mul_bd {n num : Int} (h0 : 0 ≤ n) (h1 : n ≤ 256) (h2 : 0 ≤ num) (h3 : num ≤ 1000) : 0 ≤ 2 * n * num ∧ 2 * n * num ≤ 512000 := by
  have a : 0 ≤ n * num := Int.mul_nonneg h0 h2
  have b : n * num ≤ 256 * 1000 := Int.mul_le_mul h1 h3 h2 (by omega)
  rw [Int.mul_assoc]
  omega
set_option maxHeartbeats 1000000 in
theorem part_ok (n num den : Int) (w : World) (h : ptOk n num den) : Calls Try.prog 10 #[.int .i64 n, .int .i64 num, .int .i64 den] w fun e w' => e = .returned (.tuple #[.int .i64 ((2 * n * num + den) / (2 * den)), .int .i64 0]) ∧ w = w' := by
  obtain ⟨a1, a2, a3, a4, a5, a6⟩ := h
  obtain ⟨p0, p1⟩ := mul_bd a1 a2 a5 (by omega)
  have q1 : (2 * n * num + den).tdiv (2 * den) = (2 * n * num + den) / (2 * den) := Int.tdiv_eq_ediv_of_nonneg (by omega)
  have q2 : 0 ≤ (2 * n * num + den) / (2 * den) := Int.ediv_nonneg (by omega) (by omega)
  have q3 : (2 * n * num + den) / (2 * den) ≤ 2 * n * num + den := Int.ediv_le_self _ (by omega)
  have hz : (2 * den == 0) = false := by simp; omega
  have f1 : decide (n < 0) = false := decide_eq_false (by omega)
  have f2 : decide (256 < n) = false := decide_eq_false (by omega)
  have f3 : decide (den < 1) = false := decide_eq_false (by omega)
  have f4 : decide (1000 < den) = false := decide_eq_false (by omega)
  have f5 : decide (num < 0) = false := decide_eq_false (by omega)
  have f6 : decide (den < num) = false := decide_eq_false (by omega)
  generalize hP : 2 * n * num = P at *
  generalize (P + den) / (2 * den) = R at *
  have i1 : IntKind.i64.wrap (2 * n) = 2 * n := IntWalk.i64_in _ (by omega)
  have i2 : IntKind.i64.wrap (2 * n * num) = P := by rw [hP]; exact IntWalk.i64_in _ (by omega)
  have i3 : IntKind.i64.wrap (P + den) = P + den := IntWalk.i64_in _ (by omega)
  have HP := Lib.hid hP
  clear hP
  go_enter Try.func10, Try.ntmps10
  go_wp2
  go_ret2
  exact ⟨ret_2 (by first | rfl | assumption) rfl, rfl⟩
set_option maxHeartbeats 1000000 in
theorem part_bad (n num den : Int) (w : World) (h : ¬ ptOk n num den) : Calls Try.prog 10 #[.int .i64 n, .int .i64 num, .int .i64 den] w fun e w' => e = .returned (.tuple #[.int .i64 0, .int .i64 2]) ∧ w = w' := by
  unfold ptOk at h
  rcases (show n < 0 ∨ (0 ≤ n ∧ 256 < n) ∨ (0 ≤ n ∧ n ≤ 256 ∧ den < 1) ∨ (0 ≤ n ∧ n ≤ 256 ∧ 1 ≤ den ∧ 1000 < den) ∨ (0 ≤ n ∧ n ≤ 256 ∧ 1 ≤ den ∧ den ≤ 1000 ∧ num < 0) ∨ (0 ≤ n ∧ n ≤ 256 ∧ 1 ≤ den ∧ den ≤ 1000 ∧ 0 ≤ num ∧ den < num) by omega) with h1 | ⟨h1, h2⟩ | ⟨h1, h2, h3⟩ | ⟨h1, h2, h3, h4⟩ | ⟨h1, h2, h3, h4, h5⟩ | ⟨h1, h2, h3, h4, h5, h6⟩
  all_goals
    (try have f1 : decide (n < 0) = false := decide_eq_false (by omega))
    (try have f2 : decide (256 < n) = false := decide_eq_false (by omega))
    (try have f3 : decide (den < 1) = false := decide_eq_false (by omega))
    (try have f4 : decide (1000 < den) = false := decide_eq_false (by omega))
    (try have f5 : decide (num < 0) = false := decide_eq_false (by omega))
    clear h
    go_enter Try.func10, Try.ntmps10
    go_wp2
    go_ret2
    exact ⟨rfl, rfl⟩
theorem part_any (n num den : Int) (w : World) : Calls Try.prog 10 #[.int .i64 n, .int .i64 num, .int .i64 den] w fun e w' => e = .returned (.tuple #[.int .i64 (ptV n num den), .int .i64 (ptE n num den)]) ∧ w = w' := by
  unfold ptV ptE
  by_cases h : ptOk n num den
  · rw [if_pos h, if_pos h]; exact part_ok n num den w h
  · rw [if_neg h, if_neg h]; exact part_bad n num den w h
set_option maxHeartbeats 1000000 in
theorem rpart_ok (n num den : Int) (w : World) (h : ptOk n num den) : Calls Try.prog 21 #[.int .i64 n, .int .i64 num, .int .i64 den] w fun e w' => e = .returned (.tuple #[.int .i64 ((2 * n * num + den) / (2 * den)), .int .i64 0]) ∧ w = w' := by
  obtain ⟨a1, a2, a3, a4, a5, a6⟩ := h
  obtain ⟨p0, p1⟩ := mul_bd a1 a2 a5 (by omega)
  have q1 : (2 * n * num + den).tdiv (2 * den) = (2 * n * num + den) / (2 * den) := Int.tdiv_eq_ediv_of_nonneg (by omega)
  have q2 : 0 ≤ (2 * n * num + den) / (2 * den) := Int.ediv_nonneg (by omega) (by omega)
  have q3 : (2 * n * num + den) / (2 * den) ≤ 2 * n * num + den := Int.ediv_le_self _ (by omega)
  have hz : (2 * den == 0) = false := by simp; omega
  have f1 : decide (n < 0) = false := decide_eq_false (by omega)
  have f2 : decide (256 < n) = false := decide_eq_false (by omega)
  have f3 : decide (den < 1) = false := decide_eq_false (by omega)
  have f4 : decide (1000 < den) = false := decide_eq_false (by omega)
  have f5 : decide (num < 0) = false := decide_eq_false (by omega)
  have f6 : decide (den < num) = false := decide_eq_false (by omega)
  generalize hP : 2 * n * num = P at *
  generalize (P + den) / (2 * den) = R at *
  have i1 : IntKind.i64.wrap (2 * n) = 2 * n := IntWalk.i64_in _ (by omega)
  have i2 : IntKind.i64.wrap (2 * n * num) = P := by rw [hP]; exact IntWalk.i64_in _ (by omega)
  have i3 : IntKind.i64.wrap (P + den) = P + den := IntWalk.i64_in _ (by omega)
  have HP := Lib.hid hP
  clear hP
  go_enter Try.func21, Try.ntmps21
  go_wp2
  go_ret2
  exact ⟨ret_2 (by first | rfl | assumption) rfl, rfl⟩
set_option maxHeartbeats 1000000 in
theorem rpart_bad (n num den : Int) (w : World) (h : ¬ ptOk n num den) : Calls Try.prog 21 #[.int .i64 n, .int .i64 num, .int .i64 den] w fun e w' => e = .returned (.tuple #[.int .i64 0, .int .i64 2]) ∧ w = w' := by
  unfold ptOk at h
  rcases (show n < 0 ∨ (0 ≤ n ∧ 256 < n) ∨ (0 ≤ n ∧ n ≤ 256 ∧ den < 1) ∨ (0 ≤ n ∧ n ≤ 256 ∧ 1 ≤ den ∧ 1000 < den) ∨ (0 ≤ n ∧ n ≤ 256 ∧ 1 ≤ den ∧ den ≤ 1000 ∧ num < 0) ∨ (0 ≤ n ∧ n ≤ 256 ∧ 1 ≤ den ∧ den ≤ 1000 ∧ 0 ≤ num ∧ den < num) by omega) with h1 | ⟨h1, h2⟩ | ⟨h1, h2, h3⟩ | ⟨h1, h2, h3, h4⟩ | ⟨h1, h2, h3, h4, h5⟩ | ⟨h1, h2, h3, h4, h5, h6⟩
  all_goals
    (try have f1 : decide (n < 0) = false := decide_eq_false (by omega))
    (try have f2 : decide (256 < n) = false := decide_eq_false (by omega))
    (try have f3 : decide (den < 1) = false := decide_eq_false (by omega))
    (try have f4 : decide (1000 < den) = false := decide_eq_false (by omega))
    (try have f5 : decide (num < 0) = false := decide_eq_false (by omega))
    clear h
    go_enter Try.func21, Try.ntmps21
    go_wp2
    go_ret2
    exact ⟨rfl, rfl⟩
theorem rpart_any (n num den : Int) (w : World) : Calls Try.prog 21 #[.int .i64 n, .int .i64 num, .int .i64 den] w fun e w' => e = .returned (.tuple #[.int .i64 (ptV n num den), .int .i64 (ptE n num den)]) ∧ w = w' := by
  unfold ptV ptE
  by_cases h : ptOk n num den
  · rw [if_pos h, if_pos h]; exact rpart_ok n num den w h
  · rw [if_neg h, if_neg h]; exact rpart_bad n num den w h
end Go.Proofs.Yteilclbpehmbpaa
