import Derived.Test.YtfiglmbnjfgdlaaDoorD3
namespace Go.Proofs.YtfiglmbnjfgdlaaDoor
open Go.RowKit
theorem combos (f w : Int) : ∃ b1 b2 b3, ((b1 = true ∧ b2 = true ∧ b3 = false) ∨ (b1 = true ∧ b2 = false ∧ b3 = true) ∨ (b1 = false ∧ b2 = true ∧ b3 = true) ∨ (b1 = false ∧ b2 = false ∧ b3 = true) ∨ (b1 = false ∧ b2 = false ∧ b3 = false)) ∧ (f == -1) = b1 ∧ (w == -1) = b2 ∧ (f != w) = b3 ∧ (f != -1) = (!b1) ∧ (w != -1) = (!b2) := by
  refine ⟨_, _, _, ?_, rfl, rfl, rfl, rfl, rfl⟩
  by_cases h1 : f = -1 <;> by_cases h2 : w = -1 <;> by_cases h3 : f = w <;> simp_all
set_option maxRecDepth 100000 in
set_option maxHeartbeats 16000000 in
theorem rcheck_any (s f w : Int) (W : World) : Calls Tryd.prog 11 #[rd s f w] W fun e w' => e = .returned (.int .i64 (ck s f w)) ∧ Ev W w' := by
  have HE : Hid (Ev W (W.alloc (rdO s f w))) := Lib.hid (al1 _ _)
  by_cases h1 : s < 1 ∨ 8 < s
  · have HV : Hid (ck s f w = 9) := Lib.hid (by unfold ck; rw [if_pos h1])
    rcases (show s < 1 ∨ (¬ s < 1 ∧ 8 < s) by omega) with h2 | ⟨h2, h3⟩
    all_goals
      clear h1
      go_enter Tryd.func11, Tryd.ntmps11
      go_wp2_with fail
      go_ret
      exact ⟨by rw [HV.out]; rfl, HE.out⟩
  · by_cases h2 : -1 ≤ f ∧ f < 256 ∧ -1 ≤ w ∧ w < 256
    · obtain ⟨f0, f1, w0, w1⟩ := h2
      obtain ⟨b1, b2, b3, hb, e1, e2, e3, e4, e5⟩ := combos f w
      have HV0 : Hid (ck s f w = if fitsV s f w then 0 else 3) := Lib.hid (by
        unfold ck
        rw [if_neg h1, if_neg (by unfold inF; simp only [decide_eq_false_iff_not]; omega)])
      have HV : Hid (ck s f w = if (if s = 1 ∨ s = 7 then b1 else if s = 2 then (!b1 && b3) else if s = 4 then (!b2 && b3) else if s = 8 then (b1 && b2) else (!b1 && b2)) = true then 0 else 3) := Lib.hid (by rw [HV0.out, fits_form s f w b1 b2 b3 e1 e2 e3])
      clear HV0 e1 e2
      rcases (show s = 1 ∨ s = 2 ∨ s = 3 ∨ s = 4 ∨ s = 5 ∨ s = 6 ∨ s = 7 ∨ s = 8 by omega) with rfl | rfl | rfl | rfl | rfl | rfl | rfl | rfl
      all_goals
        clear h1
        rcases hb with ⟨rfl, rfl, rfl⟩ | ⟨rfl, rfl, rfl⟩ | ⟨rfl, rfl, rfl⟩ | ⟨rfl, rfl, rfl⟩ | ⟨rfl, rfl, rfl⟩
        all_goals
          simp only [Bool.not_true, Bool.not_false] at e4 e5
          go_enter Tryd.func11, Tryd.ntmps11
          go_wp2_with fail
          go_quiet (fail)
          go_wp2_with fail
          go_ret
          exact ⟨by rw [HV.out]; rfl, HE.out.drewN _⟩
    · have HV : Hid (ck s f w = 2) := Lib.hid (by unfold ck; rw [if_neg h1, if_pos (by unfold inF; simp only [decide_eq_false_iff_not]; omega)])
      have hs1 : ¬ s < 1 := by omega
      have hs2 : ¬ 8 < s := by omega
      rcases (show f < -1 ∨ (¬ f < -1 ∧ 256 ≤ f) ∨ (¬ f < -1 ∧ ¬ 256 ≤ f ∧ w < -1) ∨ (¬ f < -1 ∧ ¬ 256 ≤ f ∧ ¬ w < -1 ∧ 256 ≤ w) by omega) with g1 | ⟨g1, g2⟩ | ⟨g1, g2, g3⟩ | ⟨g1, g2, g3, g4⟩
      all_goals
        clear h1 h2
        go_enter Tryd.func11, Tryd.ntmps11
        go_wp2_with fail
        go_ret
        exact ⟨by rw [HV.out]; rfl, HE.out⟩
end Go.Proofs.YtfiglmbnjfgdlaaDoor
