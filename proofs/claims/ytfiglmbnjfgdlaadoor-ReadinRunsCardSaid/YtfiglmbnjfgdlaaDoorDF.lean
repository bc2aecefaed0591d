import Derived.Test.YtfiglmbnjfgdlaaDoorDE
namespace Go.Proofs.YtfiglmbnjfgdlaaDoor
open Go.RowKit
theorem may_w (s w : Int) (h : mayV s w 1 = true) : w = -1 := by
  unfold mayV mayB at h
  simp at h
  exact h.2
theorem step_ok (s f w e n : Int) (W : World) (hT : Tab W) (h0 : ck s f w = 0) (hv : cev s w e n = 0) : Calls Tryd.prog 12 #[rd s f w, .int .i64 e, .int .i64 n] W fun x w' => StepP W (stp s f w e n) x w' := by
  obtain ⟨l1, l2, hm⟩ := cev_e s w e n hv
  rcases (show e = 1 ∨ e = 2 ∨ e = 3 ∨ e = 4 ∨ e = 5 ∨ e = 6 by omega) with rfl | rfl | rfl | rfl | rfl | rfl
  · exact step1 s f w n W hT h0 hv
  · exact step2 s f w n W hT h0 hv
  · exact step3 s f w n W hT h0 hv
  · by_cases h : s = 4
    · subst h; exact step4c f w n W hT h0 hv
    · have := step4n s f w n W hT h0 hv (by simp [h])
      unfold stp
      simp only [h]
      exact this
  · by_cases h : s = 6
    · subst h; exact step5o f w n W hT h0 hv
    · have := step5r s f w n W hT h0 hv (by simp [h])
      unfold stp
      simp only [h]
      exact this
  · by_cases h : s = 3
    · subst h; exact step6r f w n W hT h0 hv
    · have := step6n s f w n W hT h0 hv (by simp [h])
      unfold stp
      simp only [h]
      exact this
theorem rstep_ok (s f w e n : Int) (W : World) (h0 : ck s f w = 0) (hv : cev s w e n = 0) : Calls Tryd.prog 13 #[rd s f w, .int .i64 e, .int .i64 n] W fun x w' => StepP W (stp s f w e n) x w' := by
  obtain ⟨l1, l2, hm⟩ := cev_e s w e n hv
  rcases (show e = 1 ∨ e = 2 ∨ e = 3 ∨ e = 4 ∨ e = 5 ∨ e = 6 by omega) with rfl | rfl | rfl | rfl | rfl | rfl
  · have hw := may_w s w hm
    subst hw
    exact rstep1 s f n W h0 hv
  · exact rstep2 s f w n W h0 hv
  · exact rstep3 s f w n W h0 hv
  · by_cases h : s = 4
    · subst h; exact rstep4c f w n W h0 hv
    · have := rstep4n s f w n W h0 hv (by simp [h])
      unfold stp
      simp only [h]
      exact this
  · have hs : s = 3 ∨ s = 6 := by
      unfold mayV mayB at hm
      simpa using hm
    rcases hs with rfl | rfl
    · exact rstep5r f w n W h0 hv
    · have hw : w = -1 := by
        obtain ⟨_, _, _, _, h⟩ := ck_cases 6 f w h0
        omega
      subst hw
      exact rstep5o f n W h0 hv
  · by_cases h : s = 3
    · subst h; exact rstep6r f w n W h0 hv
    · have := rstep6n s f w n W h0 hv (by simp [h])
      unfold stp
      simp only [h]
      exact this
/-- what both steps give: an access, a list, a number, an error -/
def StepQ (W : World) (R : Res) (er : Int) (x : Ending) (w' : World) : Prop := ∃ A c, x = .returned (.tuple #[rd R.s R.f R.w, .slice A R.l.length c, .int .i64 R.m, .int .i64 er]) ∧ RdI w' A R.l ∧ Ev W w'
theorem stp_len (s f w e n : Int) : (stp s f w e n).l.length ≤ 1 := by
  unfold stp
  repeat' split
  all_goals first | exact one_le _ | simp
theorem stR_len (s f w e n : Int) : (stR s f w e n).l.length ≤ 1 := by
  unfold stR
  split
  · exact stp_len _ _ _ _ _
  · simp
theorem stQ {W : World} {R : Res} {x : Ending} {w' : World} (hl : R.l.length ≤ 1) (h : StepP W R x w') : StepQ W R 0 x w' := by
  obtain ⟨v, h1, h2, h3⟩ := h
  obtain ⟨A, c, rfl, h4⟩ := RdI.of_own h2 (by omega)
  exact ⟨A, c, h1, h4, h3⟩
theorem step_any (s f w e n : Int) (W : World) (hT : Tab W) : Calls Tryd.prog 12 #[rd s f w, .int .i64 e, .int .i64 n] W fun x w' => StepQ W (stR s f w e n) (stE s f w e n) x w' := by
  by_cases h : stE s f w e n = 0
  · have hr : stR s f w e n = stp s f w e n := by unfold stR; rw [if_pos h]
    have h0 : ck s f w = 0 := by
      apply Classical.byContradiction
      intro hc
      unfold stE at h
      rw [if_neg hc] at h
      exact hc h
    have hv : cev s w e n = 0 := by unfold stE at h; rwa [if_pos h0] at h
    rw [h, hr]
    exact (step_ok s f w e n W hT h0 hv).mono fun x w' hh => stQ (stp_len _ _ _ _ _) hh
  · have hr : stR s f w e n = ⟨0, 0, 0, [], 0⟩ := by unfold stR; rw [if_neg h]
    rw [hr]
    exact (step_bad s f w e n _ W hT rfl (by simpa using h)).mono fun x w' ⟨h1, h2⟩ => ⟨none, 0, h1, RdI.nil _, h2⟩
theorem rstep_any (s f w e n : Int) (W : World) : Calls Tryd.prog 13 #[rd s f w, .int .i64 e, .int .i64 n] W fun x w' => StepQ W (stR s f w e n) (stE s f w e n) x w' := by
  by_cases h : stE s f w e n = 0
  · have hr : stR s f w e n = stp s f w e n := by unfold stR; rw [if_pos h]
    have h0 : ck s f w = 0 := by
      apply Classical.byContradiction
      intro hc
      unfold stE at h
      rw [if_neg hc] at h
      exact hc h
    have hv : cev s w e n = 0 := by unfold stE at h; rwa [if_pos h0] at h
    rw [h, hr]
    exact (rstep_ok s f w e n W h0 hv).mono fun x w' hh => stQ (stp_len _ _ _ _ _) hh
  · have hr : stR s f w e n = ⟨0, 0, 0, [], 0⟩ := by unfold stR; rw [if_neg h]
    rw [hr]
    exact (rstep_bad s f w e n _ W rfl (by simpa using h)).mono fun x w' ⟨h1, h2⟩ => ⟨none, 0, h1, RdI.nil _, h2⟩
end Go.Proofs.YtfiglmbnjfgdlaaDoor
