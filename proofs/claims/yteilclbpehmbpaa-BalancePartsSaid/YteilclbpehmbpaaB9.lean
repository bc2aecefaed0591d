import Derived.Test.YteilclbpehmbpaaB8
namespace Go.Proofs.Yteilclbpehmbpaa
open Go.RowKit
theorem ediv_bd (x y : Int) (h : 0 < y) : x / y * y ≤ x ∧ x < x / y * y + y := by
  have h1 := Int.emod_nonneg x (show y ≠ 0 by omega)
  have h2 := Int.emod_lt_of_pos x h
  have h3 := Int.emod_add_mul_ediv x y
  rw [Int.mul_comm] at h3
  omega
/-- the two parts of a number -/
theorem parts_num (k m d : Int) (h0 : 0 ≤ k) (h1 : k ≤ 256) (h2 : 1 ≤ d) (h3 : d ≤ 1000) (h4 : 0 ≤ m) (h5 : m ≤ d) :
    ∃ a b P X : Int, (2 * k * m + d) / (2 * d) = a ∧ (2 * k * (d - m) + d) / (2 * d) = b ∧ 2 * k * m = P ∧ 2 * a * d = X ∧ 0 ≤ P ∧ P ≤ 512000 ∧ 0 ≤ X ∧ X ≤ 1000000 ∧ X ≤ P + d ∧ P < X + d ∧ 0 ≤ a ∧ a ≤ k ∧ 0 ≤ b ∧ b ≤ k ∧ (a + b = k ∨ a + b = k + 1) := by
  obtain ⟨p0, p1⟩ := mul_bd h0 h1 h4 (by omega)
  obtain ⟨q0, q1⟩ := mul_bd h0 h1 (show 0 ≤ d - m by omega) (by omega)
  have hPQ : 2 * k * m + 2 * k * (d - m) = 2 * k * d := by rw [← Int.mul_add]; congr 1; omega
  obtain ⟨a1, a2⟩ := ediv_bd (2 * k * m + d) (2 * d) (by omega)
  obtain ⟨b1, b2⟩ := ediv_bd (2 * k * (d - m) + d) (2 * d) (by omega)
  refine ⟨_, _, _, _, rfl, rfl, rfl, rfl, ?_⟩
  have a0 : 0 ≤ (2 * k * m + d) / (2 * d) := Int.ediv_nonneg (by omega) (by omega)
  have b0 : 0 ≤ (2 * k * (d - m) + d) / (2 * d) := Int.ediv_nonneg (by omega) (by omega)
  generalize (2 * k * m + d) / (2 * d) = a at *
  generalize (2 * k * (d - m) + d) / (2 * d) = b at *
  have eX : 2 * a * d = a * (2 * d) := by rw [Int.mul_comm 2 a, Int.mul_assoc]
  have eY : 2 * k * d = k * (2 * d) := by rw [Int.mul_comm 2 k, Int.mul_assoc]
  rw [eX]
  rw [eY] at hPQ
  generalize 2 * k * m = P at *
  generalize 2 * k * (d - m) = Q at *
  have hD : 0 < 2 * d := by omega
  have h6 : (a + b) * (2 * d) = a * (2 * d) + b * (2 * d) := Int.add_mul _ _ _
  have h7 : (k + 2) * (2 * d) = k * (2 * d) + 2 * (2 * d) := Int.add_mul _ _ _
  have h8 : (k + 1) * (2 * d) = k * (2 * d) + 1 * (2 * d) := Int.add_mul _ _ _
  have h9 : (a + b + 1) * (2 * d) = (a + b) * (2 * d) + 1 * (2 * d) := Int.add_mul _ _ _
  have l1 : a + b < k + 2 := Int.lt_of_mul_lt_mul_right (a := 2 * d) (by omega) (by omega)
  have l2 : k < a + b + 1 := Int.lt_of_mul_lt_mul_right (a := 2 * d) (by omega) (by omega)
  have l3 : a < k + 1 := Int.lt_of_mul_lt_mul_right (a := 2 * d) (by omega) (by omega)
  have l4 : b < k + 1 := Int.lt_of_mul_lt_mul_right (a := 2 * d) (by omega) (by omega)
  have l5 : 0 ≤ a * (2 * d) := Int.mul_nonneg a0 (by omega)
  omega
set_option maxRecDepth 100000 in
set_option maxHeartbeats 4000000 in
theorem parts_law (n num den : Int) (w : World) : Calls Try.prog 8 #[.int .i64 n, .int .i64 num, .int .i64 den] w fun e w' => e = .returned (.bool true) ∧ Ev w w' := by
  have M1 := Lib.hid fun W => mod_any n 257 W (by omega) (by omega)
  have M2 := Lib.hid fun W => mod_any den 1000 W (by omega) (by omega)
  have hk : 0 ≤ n % 257 ∧ n % 257 < 257 := ⟨Int.emod_nonneg _ (by omega), Int.emod_lt_of_pos _ (by omega)⟩
  have hd : 0 ≤ den % 1000 ∧ den % 1000 < 1000 := ⟨Int.emod_nonneg _ (by omega), Int.emod_lt_of_pos _ (by omega)⟩
  generalize n % 257 = k at *
  generalize den % 1000 = d0 at *
  obtain ⟨k0, k1⟩ := hk
  obtain ⟨d1, d2⟩ := hd
  have M3 := Lib.hid fun W => mod_any num (1 + d0 + 1) W (by omega) (by omega)
  have hm : 0 ≤ num % (1 + d0 + 1) ∧ num % (1 + d0 + 1) < 1 + d0 + 1 := ⟨Int.emod_nonneg _ (by omega), Int.emod_lt_of_pos _ (by omega)⟩
  generalize num % (1 + d0 + 1) = m at *
  obtain ⟨m0, m1⟩ := hm
  obtain ⟨d, hd⟩ : ∃ d, 1 + d0 = d := ⟨_, rfl⟩
  rw [hd] at M3 m1
  have hd1 : 1 ≤ d ∧ d ≤ 1000 := by omega
  obtain ⟨g1, g2⟩ := hd1
  obtain ⟨a, b, P, X, ha, hb, hP, hX, r1, r2, r3, r4, r5, r6, r7, r8, r9, r10, r11⟩ := parts_num k m d k0 (by omega) g1 g2 m0 (by omega)
  have H1 : Hid (∀ W, Calls Try.prog 10 #[.int .i64 k, .int .i64 m, .int .i64 d] W fun e w' => e = .returned (.tuple #[.int .i64 a, .int .i64 0]) ∧ W = w') := Lib.hid fun W => by have h := part_ok k m d W (by unfold ptOk; omega); rwa [ha] at h
  have H2 : Hid (∀ W, Calls Try.prog 10 #[.int .i64 k, .int .i64 (d - m), .int .i64 d] W fun e w' => e = .returned (.tuple #[.int .i64 b, .int .i64 0]) ∧ W = w') := Lib.hid fun W => by have h := part_ok k (d - m) d W (by unfold ptOk; omega); rwa [hb] at h
  have AW := Lib.hid awake_any
  have i1 : IntKind.i64.wrap (2 * k * m) = P := by rw [hP]; exact IntWalk.i64_in _ (by omega)
  have i2 : IntKind.i64.wrap (2 * a * d) = X := by rw [hX]; exact IntWalk.i64_in _ (by omega)
  have f1 : decide (0 ≤ a) = true := decide_eq_true r7
  have f2 : decide (a ≤ k) = true := decide_eq_true r8
  have f3 : decide (X ≤ P + d) = true := decide_eq_true r5
  have f4 : decide (P < X + d) = true := decide_eq_true r6
  have hs : ((a + b == k) = true) ∨ ((a + b == k) = false ∧ (a + b == k + 1) = true) := by
    rcases r11 with h | h
    · left; simp [h]
    · right; constructor
      · simp; omega
      · simp [h]
  have HD := Lib.hid hd
  clear ha hb hP hX hd r11
  rcases hs with hs | ⟨hs, hs'⟩
  all_goals
    go_enter Try.func8, Try.ntmps8
    go_wp2_with fail
    refine (M1.out _).mono ?_
    rintro x w' ⟨rfl, rfl⟩
    go_wp2_with fail
    refine (M2.out _).mono ?_
    rintro x w' ⟨rfl, rfl⟩
    have hd := HD.out
    go_wp2_with fail
    clear hd
    refine (M3.out _).mono ?_
    rintro x w' ⟨rfl, rfl⟩
    go_wp2_with fail
    refine (H1.out _).mono ?_
    rintro x w' ⟨rfl, rfl⟩
    go_wp2_with fail
    refine (H2.out _).mono ?_
    rintro x w' ⟨rfl, rfl⟩
    go_wp2_with fail
    refine (AW.out _).mono ?_
    rintro x w' ⟨rfl, hev⟩
    go_wp2_with fail
    go_ret
    exact ⟨rfl, hev⟩
end Go.Proofs.Yteilclbpehmbpaa
