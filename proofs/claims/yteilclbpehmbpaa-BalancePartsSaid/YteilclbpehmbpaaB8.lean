import Derived.Test.YteilclbpehmbpaaB7
namespace Go.Proofs.Yteilclbpehmbpaa
open Go.RowKit
theorem ratio_is (n r : Int) (w : World) (h0 : 0 ≤ n) (h1 : n ≤ 256) (h : rt n = r) : Calls Try.prog 9 #[.int .i64 n] w fun e w' => e = .returned (.tuple #[.int .i64 r, .int .i64 0]) ∧ w = w' := by
  rw [← h]; exact ratio_ok n w h0 h1
set_option maxRecDepth 100000 in
set_option maxHeartbeats 4000000 in
theorem grows_law (n : Int) (w : World) : Calls Try.prog 6 #[.int .i64 n] w fun e w' => e = .returned (.bool true) ∧ Ev w w' := by
  have M := Lib.hid (mod_any n 256 w (by omega) (by omega))
  have hk : 0 ≤ n % 256 ∧ n % 256 < 256 := ⟨Int.emod_nonneg _ (by omega), Int.emod_lt_of_pos _ (by omega)⟩
  generalize n % 256 = k at *
  obtain ⟨k0, k1⟩ := hk
  obtain ⟨a, b, t, ha, hb, ht, hcs, p1, p2, p3, p4, p5, p6, p7, p8, p9⟩ := rt_next k k0 k1
  have H1 := Lib.hid (ratio_is k a w k0 (by omega) ha)
  have H2 := Lib.hid (ratio_is (k + 1) b w (by omega) (by omega) hb)
  have H3 : Hid (Calls Try.prog 19 #[.int .i64 k] w fun e w' => e = .returned (.tuple #[.int .i64 t, .int .i64 0]) ∧ w = w') := Lib.hid (by rw [← ht]; exact target_ok k w k0 (by omega))
  have AW := Lib.hid (awake_any w)
  have fb : decide (b < a) = false := decide_eq_false (by omega)
  have t0 : decide (0 ≤ t) = true := decide_eq_true p5
  have tk : decide (t ≤ k) = true := decide_eq_true p6
  have m1 : decide (k ≤ t * (a + 1)) = true := decide_eq_true p8
  have m2 : decide ((t - 1) * (a + 1) < k) = true := decide_eq_true p9
  have hz : (k = 0 ∧ t = 0 ∧ a = 1) ∨ (decide (0 < t) = true ∧ decide (0 < k) = true) := by
    rcases Int.lt_or_le 0 k with h | h
    · right; exact ⟨decide_eq_true (p7 h), decide_eq_true h⟩
    · left
      refine ⟨by omega, by omega, ?_⟩
      rcases hcs with h | h | h | h | h | h | h <;> subst h <;> omega
  clear ha hb ht
  rcases hz with ⟨rfl, rfl, rfl⟩ | ⟨hz1, hz2⟩
  · clear p3 p4 p7 p8 p9 m1 m2 hcs
    go_enter Try.func6, Try.ntmps6
    go_wp2_with fail
    refine M.out.mono ?_
    rintro x w' ⟨rfl, rfl⟩
    go_wp2_with fail
    refine H1.out.mono ?_
    rintro x w' ⟨rfl, rfl⟩
    go_wp2_with fail
    refine H2.out.mono ?_
    rintro x w' ⟨rfl, rfl⟩
    go_wp2_with fail
    refine H3.out.mono ?_
    rintro x w' ⟨rfl, rfl⟩
    go_wp2_with fail
    refine AW.out.mono ?_
    rintro x w' ⟨rfl, hev⟩
    go_wp2_with fail
    go_ret
    exact ⟨rfl, hev⟩
  · rcases hcs with rfl | rfl | rfl | rfl | rfl | rfl | rfl
    · have fn : decide (16 ≤ k) = false := decide_eq_false (by omega)
      have s1 : t * 2 ≤ 4096 := by omega
      have s2 : -4096 ≤ (t - 1) * 2 := by omega
      have m1 : decide (k ≤ t * 2) = true := decide_eq_true (by omega)
      have m2 : decide ((t - 1) * 2 < k) = true := decide_eq_true (by omega)
      clear p3 p4 p7 p8 p9
      go_enter Try.func6, Try.ntmps6
      go_wp2_with fail
      refine M.out.mono ?_
      rintro x w' ⟨rfl, rfl⟩
      go_wp2_with fail
      refine H1.out.mono ?_
      rintro x w' ⟨rfl, rfl⟩
      go_wp2_with fail
      refine H2.out.mono ?_
      rintro x w' ⟨rfl, rfl⟩
      go_wp2_with fail
      refine H3.out.mono ?_
      rintro x w' ⟨rfl, rfl⟩
      go_wp2_with fail
      refine AW.out.mono ?_
      rintro x w' ⟨rfl, hev⟩
      go_wp2_with fail
      go_ret
      exact ⟨rfl, hev⟩
    · have fn : decide (36 ≤ k) = false := decide_eq_false (by omega)
      have fk : decide (k < 16) = false := decide_eq_false (by have := p3 (by omega); omega)
      have s1 : t * 3 ≤ 4096 := by omega
      have s2 : -4096 ≤ (t - 1) * 3 := by omega
      have m1 : decide (k ≤ t * 3) = true := decide_eq_true (by omega)
      have m2 : decide ((t - 1) * 3 < k) = true := decide_eq_true (by omega)
      clear p3 p4 p7 p8 p9
      go_enter Try.func6, Try.ntmps6
      go_wp2_with fail
      refine M.out.mono ?_
      rintro x w' ⟨rfl, rfl⟩
      go_wp2_with fail
      refine H1.out.mono ?_
      rintro x w' ⟨rfl, rfl⟩
      go_wp2_with fail
      refine H2.out.mono ?_
      rintro x w' ⟨rfl, rfl⟩
      go_wp2_with fail
      refine H3.out.mono ?_
      rintro x w' ⟨rfl, rfl⟩
      go_wp2_with fail
      refine AW.out.mono ?_
      rintro x w' ⟨rfl, hev⟩
      go_wp2_with fail
      go_ret
      exact ⟨rfl, hev⟩
    · have fn : decide (64 ≤ k) = false := decide_eq_false (by omega)
      have fk : decide (k < 36) = false := decide_eq_false (by have := p3 (by omega); omega)
      have s1 : t * 4 ≤ 4096 := by omega
      have s2 : -4096 ≤ (t - 1) * 4 := by omega
      have m1 : decide (k ≤ t * 4) = true := decide_eq_true (by omega)
      have m2 : decide ((t - 1) * 4 < k) = true := decide_eq_true (by omega)
      clear p3 p4 p7 p8 p9
      go_enter Try.func6, Try.ntmps6
      go_wp2_with fail
      refine M.out.mono ?_
      rintro x w' ⟨rfl, rfl⟩
      go_wp2_with fail
      refine H1.out.mono ?_
      rintro x w' ⟨rfl, rfl⟩
      go_wp2_with fail
      refine H2.out.mono ?_
      rintro x w' ⟨rfl, rfl⟩
      go_wp2_with fail
      refine H3.out.mono ?_
      rintro x w' ⟨rfl, rfl⟩
      go_wp2_with fail
      refine AW.out.mono ?_
      rintro x w' ⟨rfl, hev⟩
      go_wp2_with fail
      go_ret
      exact ⟨rfl, hev⟩
    · have fn : decide (100 ≤ k) = false := decide_eq_false (by omega)
      have fk : decide (k < 64) = false := decide_eq_false (by have := p3 (by omega); omega)
      have s1 : t * 5 ≤ 4096 := by omega
      have s2 : -4096 ≤ (t - 1) * 5 := by omega
      have m1 : decide (k ≤ t * 5) = true := decide_eq_true (by omega)
      have m2 : decide ((t - 1) * 5 < k) = true := decide_eq_true (by omega)
      clear p3 p4 p7 p8 p9
      go_enter Try.func6, Try.ntmps6
      go_wp2_with fail
      refine M.out.mono ?_
      rintro x w' ⟨rfl, rfl⟩
      go_wp2_with fail
      refine H1.out.mono ?_
      rintro x w' ⟨rfl, rfl⟩
      go_wp2_with fail
      refine H2.out.mono ?_
      rintro x w' ⟨rfl, rfl⟩
      go_wp2_with fail
      refine H3.out.mono ?_
      rintro x w' ⟨rfl, rfl⟩
      go_wp2_with fail
      refine AW.out.mono ?_
      rintro x w' ⟨rfl, hev⟩
      go_wp2_with fail
      go_ret
      exact ⟨rfl, hev⟩
    · have fn : decide (144 ≤ k) = false := decide_eq_false (by omega)
      have fk : decide (k < 100) = false := decide_eq_false (by have := p3 (by omega); omega)
      have s1 : t * 6 ≤ 4096 := by omega
      have s2 : -4096 ≤ (t - 1) * 6 := by omega
      have m1 : decide (k ≤ t * 6) = true := decide_eq_true (by omega)
      have m2 : decide ((t - 1) * 6 < k) = true := decide_eq_true (by omega)
      clear p3 p4 p7 p8 p9
      go_enter Try.func6, Try.ntmps6
      go_wp2_with fail
      refine M.out.mono ?_
      rintro x w' ⟨rfl, rfl⟩
      go_wp2_with fail
      refine H1.out.mono ?_
      rintro x w' ⟨rfl, rfl⟩
      go_wp2_with fail
      refine H2.out.mono ?_
      rintro x w' ⟨rfl, rfl⟩
      go_wp2_with fail
      refine H3.out.mono ?_
      rintro x w' ⟨rfl, rfl⟩
      go_wp2_with fail
      refine AW.out.mono ?_
      rintro x w' ⟨rfl, hev⟩
      go_wp2_with fail
      go_ret
      exact ⟨rfl, hev⟩
    · have fn : decide (196 ≤ k) = false := decide_eq_false (by omega)
      have fk : decide (k < 144) = false := decide_eq_false (by have := p3 (by omega); omega)
      have s1 : t * 7 ≤ 4096 := by omega
      have s2 : -4096 ≤ (t - 1) * 7 := by omega
      have m1 : decide (k ≤ t * 7) = true := decide_eq_true (by omega)
      have m2 : decide ((t - 1) * 7 < k) = true := decide_eq_true (by omega)
      clear p3 p4 p7 p8 p9
      go_enter Try.func6, Try.ntmps6
      go_wp2_with fail
      refine M.out.mono ?_
      rintro x w' ⟨rfl, rfl⟩
      go_wp2_with fail
      refine H1.out.mono ?_
      rintro x w' ⟨rfl, rfl⟩
      go_wp2_with fail
      refine H2.out.mono ?_
      rintro x w' ⟨rfl, rfl⟩
      go_wp2_with fail
      refine H3.out.mono ?_
      rintro x w' ⟨rfl, rfl⟩
      go_wp2_with fail
      refine AW.out.mono ?_
      rintro x w' ⟨rfl, hev⟩
      go_wp2_with fail
      go_ret
      exact ⟨rfl, hev⟩
    · have fn : decide (256 ≤ k) = false := decide_eq_false (by omega)
      have fk : decide (k < 196) = false := decide_eq_false (by have := p3 (by omega); omega)
      have s1 : t * 8 ≤ 4096 := by omega
      have s2 : -4096 ≤ (t - 1) * 8 := by omega
      have m1 : decide (k ≤ t * 8) = true := decide_eq_true (by omega)
      have m2 : decide ((t - 1) * 8 < k) = true := decide_eq_true (by omega)
      clear p3 p4 p7 p8 p9
      go_enter Try.func6, Try.ntmps6
      go_wp2_with fail
      refine M.out.mono ?_
      rintro x w' ⟨rfl, rfl⟩
      go_wp2_with fail
      refine H1.out.mono ?_
      rintro x w' ⟨rfl, rfl⟩
      go_wp2_with fail
      refine H2.out.mono ?_
      rintro x w' ⟨rfl, rfl⟩
      go_wp2_with fail
      refine H3.out.mono ?_
      rintro x w' ⟨rfl, rfl⟩
      go_wp2_with fail
      refine AW.out.mono ?_
      rintro x w' ⟨rfl, hev⟩
      go_wp2_with fail
      go_ret
      exact ⟨rfl, hev⟩
end Go.Proofs.Yteilclbpehmbpaa
