import Derived.Test.YtpgghbabhgfchaaA1
namespace Go.Proofs.Ytpgghbabhgfchaa
open Go.RowKit
theorem tmod_lt (n m : Int) (h : 1 ≤ m) : -m < n.tmod m ∧ n.tmod m < m := by
  have h1 := Int.emod_nonneg n (show m ≠ 0 by omega)
  have h2 := Int.emod_lt_of_pos n (show 0 < m by omega)
  rw [Int.tmod_eq_emod]
  split <;> omega
theorem tmod_neg (n m : Int) (h : 1 ≤ m) : n.tmod m < 0 → n.tmod m + m = n % m := by
  have h1 := Int.emod_nonneg n (show m ≠ 0 by omega)
  have h2 := Int.emod_lt_of_pos n (show 0 < m by omega)
  rw [Int.tmod_eq_emod]
  split <;> omega
theorem tmod_pos (n m : Int) (h : 1 ≤ m) : 0 ≤ n.tmod m → n.tmod m = n % m := by
  have h2 := Int.emod_lt_of_pos n (show 0 < m by omega)
  rw [Int.tmod_eq_emod]
  split <;> omega
theorem mod_any (n m : Int) (w : World) (h1 : 1 ≤ m) (h2 : m ≤ 1099511627776) : Calls Try.prog 28 #[.int .i64 n, .int .i64 m] w fun e w' => e = .returned (.int .i64 (n % m)) ∧ w = w' := by
  obtain ⟨t1, t2⟩ := tmod_lt n m h1
  have t3 := Lib.hid (tmod_neg n m h1)
  have t4 := Lib.hid (tmod_pos n m h1)
  have t5 : IntKind.i64.wrap (n.tmod m) = n.tmod m := IntWalk.i64_in _ (by omega)
  have hm : (m == 0) = false := by simp; omega
  go_enter Try.func28, Try.ntmps28
  go_wp2
  · go_ret
    exact ⟨ret_i64 (t3.out (by omega)), rfl⟩
  · go_ret
    exact ⟨ret_i64 (t4.out (by omega)), rfl⟩
abbrev rg (f t : Int) : Value := .agg #[.int .i64 f, .int .i64 t]
def ckE (f t : Int) : Int := if f < 0 ∨ t < f ∨ 64 ≤ t then 2 else 0
theorem check_any (f t : Int) (w : World) : Calls Try.prog 19 #[rg f t] w fun e w' => e = .returned (.int .i64 (ckE f t)) ∧ Ev w w' := by
  have hE := Lib.hid ((Ev.refl w).alloc (.cells #[.int .i64 f, .int .i64 t] 30))
  unfold ckE
  by_cases h1 : f < 0
  · rw [if_pos (by omega)]
    go_enter Try.func19, Try.ntmps19
    go_wp2
    go_ret
    exact ⟨rfl, hE.out⟩
  · by_cases h2 : t < f
    · rw [if_pos (by omega)]
      go_enter Try.func19, Try.ntmps19
      go_wp2
      go_ret
      exact ⟨rfl, hE.out⟩
    · by_cases h3 : 64 ≤ t
      · rw [if_pos (by omega)]
        go_enter Try.func19, Try.ntmps19
        go_wp2
        go_ret
        exact ⟨rfl, hE.out⟩
      · rw [if_neg (by omega)]
        go_enter Try.func19, Try.ntmps19
        go_wp2
        go_ret
        exact ⟨rfl, hE.out⟩
theorem check_ok (f t : Int) (w : World) (h : 0 ≤ f ∧ f ≤ t ∧ t < 64) : Calls Try.prog 19 #[rg f t] w fun e w' => e = .returned (.int .i64 0) ∧ Ev w w' := by
  have hh := check_any f t w
  rwa [show ckE f t = 0 from if_neg (by omega)] at hh
set_option maxHeartbeats 1000000 in
theorem made_any (n : Int) (w : World) : Calls Try.prog 29 #[.int .i64 n] w fun e w' => ∃ f t, e = .returned (rg f t) ∧ (0 ≤ f ∧ f ≤ t ∧ t < 64) ∧ Ev w w' := by
  have h1 : 0 ≤ n % 4096 ∧ n % 4096 < 4096 := ⟨Int.emod_nonneg _ (by omega), Int.emod_lt_of_pos _ (by omega)⟩
  have M := Lib.hid fun W => mod_any n 4096 W (by omega) (by omega)
  generalize n % 4096 = k at *
  have q1 : k.tdiv 64 = k / 64 := Int.tdiv_eq_ediv_of_nonneg h1.1
  have q2 : k.tmod 64 = k % 64 := Int.tmod_eq_emod_of_nonneg h1.1
  have r1 : 0 ≤ k % 64 ∧ k % 64 < 64 := by omega
  have r2 : 0 ≤ k / 64 ∧ k / 64 < 64 := by omega
  have w1 : IntKind.i64.wrap (k / 64) = k / 64 := IntWalk.i64_in _ (by omega)
  have w2 : IntKind.i64.wrap (k % 64) = k % 64 := IntWalk.i64_in _ (by omega)
  go_enter Try.func29, Try.ntmps29
  go_wp2_with fail
  refine (M.out _).mono ?_
  rintro e w' ⟨rfl, rfl⟩
  rcases (show k % 64 < k / 64 ∨ k / 64 < k % 64 ∨ k % 64 = k / 64 by omega) with h | h | h
  · go_wp2_with fail
    refine bodyPost_ret (v := rg (k % 64) (k / 64)) (by simp [results, Try.results29, go_sem]) rfl ⟨_, _, rfl, by omega, ?_⟩
    exact (Ev.refl _).alloc _
  · go_wp2_with fail
    refine bodyPost_ret (v := rg (k / 64) (k % 64)) (by simp [results, Try.results29, go_sem]) rfl ⟨_, _, rfl, by omega, ?_⟩
    exact (Ev.refl _).alloc _
  · go_wp2_with fail
    refine bodyPost_ret (v := rg (k / 64) (k / 64)) (by simp [results, Try.results29, go_sem]) rfl ⟨_, _, rfl, by omega, ?_⟩
    exact (Ev.refl _).alloc _
end Go.Proofs.Ytpgghbabhgfchaa
