import Derived.Test.YteilclbpehmbpaaB6
namespace Go.Proofs.Yteilclbpehmbpaa
open Go.RowKit
theorem tmod_lt (n m : Int) (h : 1 ≤ m) : -m < n.tmod m ∧ n.tmod m < m := by
  have h1 := Int.emod_nonneg n (show m ≠ 0 by omega)
  have h2 := Int.emod_lt_of_pos n (show 0 < m by omega)
  rw [Int.tmod_eq_emod]
  split <;> omega
theorem tmod_neg (n m : Int) (h : 1 ≤ m) : n.tmod m < 0 → n.tmod m + m = n % m := by
  have h1 := Int.emod_nonneg n (show m ≠ 0 by omega)
  have h2 := Int.emod_lt_of_pos n (show 0 < m by omega)
  rw [Int.tmod_eq_emod]
  split <;> omega
theorem tmod_pos (n m : Int) (h : 1 ≤ m) : 0 ≤ n.tmod m → n.tmod m = n % m := by
  have h2 := Int.emod_lt_of_pos n (show 0 < m by omega)
  rw [Int.tmod_eq_emod]
  split <;> omega
theorem mod_any (n m : Int) (w : World) (h1 : 1 ≤ m) (h2 : m ≤ 1099511627776) : Calls Try.prog 28 #[.int .i64 n, .int .i64 m] w fun e w' => e = .returned (.int .i64 (n % m)) ∧ w = w' := by
  obtain ⟨t1, t2⟩ := tmod_lt n m h1
  have t3 := Lib.hid (tmod_neg n m h1)
  have t4 := Lib.hid (tmod_pos n m h1)
  have t5 : IntKind.i64.wrap (n.tmod m) = n.tmod m := IntWalk.i64_in _ (by omega)
  have hm : (m == 0) = false := by simp; omega
  go_enter Try.func28, Try.ntmps28
  go_wp2
  · go_ret
    exact ⟨ret_i64 (t3.out (by omega)), rfl⟩
  · go_ret
    exact ⟨ret_i64 (t4.out (by omega)), rfl⟩

set_option maxRecDepth 100000 in
set_option maxHeartbeats 2000000 in
theorem numbers_law (n num den : Int) (w : World) : Calls Try.prog 4 #[.int .i64 n, .int .i64 num, .int .i64 den] w fun e w' => e = .returned (.bool true) ∧ Ev w w' := by
  have L1 := Lib.hid (ratio_any n w)
  have L2 := Lib.hid (rRatio_any n w)
  have L3 := Lib.hid (target_any n w)
  have L4 := Lib.hid (rTarget_any n w)
  have L5 := Lib.hid (part_any n num den w)
  have L6 := Lib.hid (rpart_any n num den w)
  have AW := Lib.hid (awake_any w)
  generalize rtV n = a at *
  generalize rtE n = b at *
  generalize tgV n = c at *
  generalize ptV n num den = d at *
  generalize ptE n num den = e at *
  have e1 : (a != a) = false := by simp
  have e2 : (b != b) = false := by simp
  have e3 : (c == c) = true := by simp
  have e4 : (b == b) = true := by simp
  have e5 : (d == d) = true := by simp
  have e6 : (e == e) = true := by simp
  go_enter Try.func4, Try.ntmps4
  go_wp2_with fail
  refine L1.out.mono ?_
  rintro x w' ⟨rfl, rfl⟩
  go_wp2_with fail
  refine L2.out.mono ?_
  rintro x w' ⟨rfl, rfl⟩
  go_wp2_with fail
  refine L3.out.mono ?_
  rintro x w' ⟨rfl, rfl⟩
  go_wp2_with fail
  refine L4.out.mono ?_
  rintro x w' ⟨rfl, rfl⟩
  go_wp2_with fail
  refine L5.out.mono ?_
  rintro x w' ⟨rfl, rfl⟩
  go_wp2_with fail
  refine L6.out.mono ?_
  rintro x w' ⟨rfl, rfl⟩
  go_wp2_with fail
  refine AW.out.mono ?_
  rintro x w' ⟨rfl, hev⟩
  go_wp2_with fail
  go_ret
  exact ⟨rfl, hev⟩
theorem rt_next (k : Int) (h0 : 0 ≤ k) (h1 : k < 256) : ∃ a b t : Int, rt k = a ∧ rt (k + 1) = b ∧ (k + rt k) / (rt k + 1) = t ∧ (a = 1 ∨ a = 2 ∨ a = 3 ∨ a = 4 ∨ a = 5 ∨ a = 6 ∨ a = 7) ∧ a ≤ b ∧ b ≤ 8 ∧ (1 < a → 4 * a * a ≤ k) ∧ k < 4 * (a + 1) * (a + 1) ∧ 0 ≤ t ∧ t ≤ k ∧ (0 < k → 0 < t) ∧ k ≤ t * (a + 1) ∧ (t - 1) * (a + 1) < k := by
  refine ⟨_, _, _, rfl, rfl, rfl, ?_⟩
  rcases rt_cases k (by omega) with ⟨g, e⟩ | ⟨g1, g2, e⟩ | ⟨g1, g2, e⟩ | ⟨g1, g2, e⟩ | ⟨g1, g2, e⟩ | ⟨g1, g2, e⟩ | ⟨g1, g2, e⟩ | ⟨g, e⟩
  all_goals
    rw [e]
    rcases rt_cases (k + 1) (by omega) with ⟨g', e'⟩ | ⟨g1', g2', e'⟩ | ⟨g1', g2', e'⟩ | ⟨g1', g2', e'⟩ | ⟨g1', g2', e'⟩ | ⟨g1', g2', e'⟩ | ⟨g1', g2', e'⟩ | ⟨g', e'⟩ <;> (rw [e']; omega)
end Go.Proofs.Yteilclbpehmbpaa
