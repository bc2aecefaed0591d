import Derived.Test.YtpgghbabhgfchaaA6
namespace Go.Proofs.Ytpgghbabhgfchaa
open Go.RowKit
set_option maxRecDepth 100000 in
set_option maxHeartbeats 4000000 in
theorem back_law (n m : Int) (w : World) : Calls Try.prog 5 #[.int .i64 n, .int .i64 m] w fun e w' => e = .returned (.bool true) ∧ Ev w w' := by
  have ha : 0 ≤ n % 512 ∧ n % 512 < 512 := ⟨Int.emod_nonneg _ (by omega), Int.emod_lt_of_pos _ (by omega)⟩
  have hb : 0 ≤ m % 512 ∧ m % 512 < 512 := ⟨Int.emod_nonneg _ (by omega), Int.emod_lt_of_pos _ (by omega)⟩
  have M1 := Lib.hid (mod_any n 512 w (by omega) (by omega))
  have M2 := Lib.hid (mod_any m 512 w (by omega) (by omega))
  generalize n % 512 = a at *
  generalize m % 512 = b at *
  have k1 := where_any a w
  have k2 := where_any b w
  have k3 := address_any (a / 8) (a % 8) w
  have k4 := leaf_any (a / 8) w
  have k5 := page_any (a / 8 / 8) (a / 8 % 8) w
  unfold whA whB whE at k1 k2
  unfold lfA lfB lfE at k4
  unfold pgA pgE at k3 k5
  rw [if_pos ha, if_pos ha, if_pos ha] at k1
  rw [if_pos hb, if_pos hb, if_pos hb] at k2
  rw [if_pos (by omega), if_pos (by omega), show a / 8 * 8 + a % 8 = a from by omega] at k3
  rw [if_pos (by omega), if_pos (by omega), if_pos (by omega)] at k4
  rw [if_pos (by omega), if_pos (by omega), show a / 8 / 8 * 8 + a / 8 % 8 = a / 8 from by omega] at k5
  have hx : 0 ≤ a / 8 / 8 ∧ a / 8 / 8 < 8 ∧ 0 ≤ a / 8 % 8 ∧ a / 8 % 8 < 8 := by omega
  have hcs : (a < b ∧ a / 8 < b / 8) ∨ (a < b ∧ a / 8 = b / 8 ∧ a % 8 < b % 8) ∨ (b ≤ a ∧ a / 8 = b / 8 ∧ b % 8 ≤ a % 8) ∨ (b ≤ a ∧ b / 8 < a / 8) := by omega
  have K1 := Lib.hid k1
  have K2 := Lib.hid k2
  have K3 := Lib.hid k3
  have K4 := Lib.hid k4
  have K5 := Lib.hid k5
  have AW := Lib.hid (awake_any w)
  clear k1 k2 k3 k4 k5 ha hb
  generalize a / 8 / 8 = lf at *
  generalize a / 8 % 8 = ix at *
  generalize a / 8 = p at *
  generalize a % 8 = r at *
  generalize b / 8 = q at *
  generalize b % 8 = v at *
  obtain ⟨x1, x2, x3, x4⟩ := hx
  have e1 : (a != a) = false := by simp
  have e2 : (p != p) = false := by simp
  go_enter Try.func5, Try.ntmps5
  go_wp2_with fail
  refine M1.out.mono ?_
  rintro e w' ⟨rfl, rfl⟩
  go_wp2_with fail
  refine M2.out.mono ?_
  rintro e w' ⟨rfl, rfl⟩
  go_wp2_with fail
  refine K1.out.mono ?_
  rintro e w' ⟨rfl, rfl⟩
  go_wp2_with fail
  refine K2.out.mono ?_
  rintro e w' ⟨rfl, rfl⟩
  go_wp2_with fail
  refine K3.out.mono ?_
  rintro e w' ⟨rfl, rfl⟩
  go_wp2_with fail
  refine K4.out.mono ?_
  rintro e w' ⟨rfl, rfl⟩
  go_wp2_with fail
  refine K5.out.mono ?_
  rintro e w' ⟨rfl, rfl⟩
  rcases hcs with ⟨h1, h2⟩ | ⟨h1, h2, h3⟩ | ⟨h1, h2, h3⟩ | ⟨h1, h2⟩
  all_goals (try subst h2)
  all_goals
    go_wp2_with fail
    refine AW.out.mono ?_
    rintro e w' ⟨rfl, hev⟩
    go_wp2_with fail
    go_ret
    exact ⟨rfl, hev⟩
end Go.Proofs.Ytpgghbabhgfchaa
