import Derived.Test.YtkneonfhikcdkaaDoorJW
namespace Go.Proofs.YtkneonfhikcdkaaDoor
def cC (a : Int) : Int := min (ctzI a) 6
def lC (r : Int) : Int := min (blI r - 1) 6
theorem cC_iff (a o : Int) (h0 : 0 ≤ a) (h1 : a ≤ 256) (o0 : 0 ≤ o) (o6 : o ≤ 6) : o ≤ cC a ↔ a % sz o = 0 := by
  rw [← ctz_sz a o h0 h1 o0 o6]
  unfold cC
  omega
theorem lC_iff (r o : Int) (h0 : 1 ≤ r) (h1 : r ≤ 256) (o0 : 0 ≤ o) (o6 : o ≤ 6) : o ≤ lC r ↔ sz o ≤ r := by
  rw [← bl_sz r o h0 h1 o0 o6]
  unfold lC
  omega
theorem cC_bd (a : Int) (h0 : 0 ≤ a) (h1 : a ≤ 256) : 0 ≤ cC a ∧ cC a ≤ 6 := by
  have := ctzI_bd a h0 (by omega)
  unfold cC
  omega
theorem lC_bd (r : Int) (h0 : 1 ≤ r) (h1 : r ≤ 256) : 0 ≤ lC r ∧ lC r ≤ 6 := by
  have := blI_bd r h0 (by omega)
  unfold lC
  omega
theorem ordV_cl (a t : Int) : ordV a t = min (cC a) (lC (t - a)) := by unfold ordV cC lC; omega
/-- a bound of how many blocks are cut -/
def bdC (a r : Int) : Int := if lC r < cC a then lC r + 1 else (6 - cC a) + r / 64 + 6
theorem next_al (a o : Int) (o0 : 0 ≤ o) (o5 : o ≤ 5) (h : a % sz o = 0) (hn : a % sz (o + 1) ≠ 0) : (a + sz o) % sz (o + 1) = 0 := by
  rcases (show o = 0 ∨ o = 1 ∨ o = 2 ∨ o = 3 ∨ o = 4 ∨ o = 5 by omega) with rfl | rfl | rfl | rfl | rfl | rfl
  all_goals simp [sz] at *
  all_goals omega
theorem next_no (a o : Int) (o0 : 0 ≤ o) (o5 : o ≤ 5) (hn : a % sz (o + 1) = 0) : (a + sz o) % sz o = 0 ∧ (a + sz o) % sz (o + 1) ≠ 0 := by
  rcases (show o = 0 ∨ o = 1 ∨ o = 2 ∨ o = 3 ∨ o = 4 ∨ o = 5 by omega) with rfl | rfl | rfl | rfl | rfl | rfl
  all_goals simp [sz] at *
  all_goals omega
theorem cutP_len : ∀ (f : Nat) (a t : Int), 0 ≤ a → a < t → t ≤ 256 → ((cutP f a t).length : Int) ≤ bdC a (t - a)
  | 0, a, t, h0, h1, h2 => by
    have := cC_bd a h0 (by omega)
    have := lC_bd (t - a) (by omega) (by omega)
    unfold bdC cutP
    simp
    split <;> omega
  | f + 1, a, t, h0, h1, h2 => by
    unfold cutP
    rw [if_pos h1]
    simp only [List.length_cons]
    obtain ⟨c0, c6⟩ := cC_bd a h0 (by omega)
    obtain ⟨l0, l6⟩ := lC_bd (t - a) (by omega) (by omega)
    obtain ⟨o1, o2, o3⟩ := ordV_bd a t h0 h1 h2
    have hs := sz_bd (ordV a t)
    have hord := ordV_cl a t
    by_cases hnx : a + sz (ordV a t) < t
    · have ih := cutP_len f (a + sz (ordV a t)) t (by omega) hnx h2
      obtain ⟨c0', c6'⟩ := cC_bd (a + sz (ordV a t)) (by omega) (by omega)
      obtain ⟨l0', l6'⟩ := lC_bd (t - (a + sz (ordV a t))) (by omega) (by omega)
      generalize hN : ((cutP f (a + sz (ordV a t)) t).length : Int) = N at *
      have hN2 : (((cutP f (a + sz (ordV a t)) t).length + 1 : Nat) : Int) = N + 1 := by omega
      rw [hN2]
      by_cases hlc : lC (t - a) < cC a
      · have ho : ordV a t = lC (t - a) := by omega
        have hal : a % sz (ordV a t + 1) = 0 := (cC_iff a _ h0 (by omega) (by omega) (by omega)).1 (by omega)
        obtain ⟨n1, n2⟩ := next_no a (ordV a t) o1 (by omega) hal
        have hc1 : ¬ ordV a t + 1 ≤ cC (a + sz (ordV a t)) := fun h => n2 ((cC_iff _ _ (by omega) (by omega) (by omega) (by omega)).1 h)
        have hc2 : ordV a t ≤ cC (a + sz (ordV a t)) := (cC_iff _ _ (by omega) (by omega) (by omega) (by omega)).2 n1
        have hr : ¬ sz (ordV a t + 1) ≤ t - a := fun h => by
          have := (lC_iff (t - a) (ordV a t + 1) (by omega) (by omega) (by omega) (by omega)).2 h
          omega
        rw [sz_two _ o1 (by omega)] at hr
        have hl : ¬ ordV a t ≤ lC (t - (a + sz (ordV a t))) := fun h => by
          have := (lC_iff _ _ (by omega) (by omega) (by omega) (by omega)).1 h
          omega
        unfold bdC at ih ⊢
        rw [if_pos hlc]
        rw [if_pos (by omega)] at ih
        omega
      · have ho : ordV a t = cC a := by omega
        by_cases hc : cC a = 6
        · have hal : (a + sz (ordV a t)) % sz 6 = 0 := by
            have h := (cC_iff a 6 h0 (by omega) (by omega) (by omega)).1 (by omega)
            rw [ho, hc]
            simp [sz] at h ⊢
            omega
          have hc' := (cC_iff (a + sz (ordV a t)) 6 (by omega) (by omega) (by omega) (by omega)).2 hal
          have hs64 : sz (ordV a t) = 64 := by rw [ho, hc]; rfl
          unfold bdC at ih ⊢
          rw [if_neg hlc]
          split at ih <;> omega
        · have h1' : a % sz (ordV a t) = 0 := ordV_al a t h0 h1 h2
          have h2' : a % sz (ordV a t + 1) ≠ 0 := fun h => by
            have := (cC_iff a (ordV a t + 1) h0 (by omega) (by omega) (by omega)).2 h
            omega
          have hal := next_al a (ordV a t) o1 (by omega) h1' h2'
          have hc' := (cC_iff (a + sz (ordV a t)) (ordV a t + 1) (by omega) (by omega) (by omega) (by omega)).2 hal
          unfold bdC at ih ⊢
          rw [if_neg hlc]
          split at ih <;> omega
    · have e : cutP f (a + sz (ordV a t)) t = [] := by
        cases f with
        | zero => rfl
        | succ f => unfold cutP; rw [if_neg hnx]
      rw [e]
      unfold bdC
      simp
      split <;> omega
theorem cutP_most (f : Nat) (a t : Int) (h0 : 0 ≤ a) (h1 : a ≤ t) (h2 : t ≤ 256) : ((cutP f a t).length : Int) ≤ 12 + (t - a) / 64 := by
  by_cases h : a < t
  · have := cutP_len f a t h0 h h2
    have := cC_bd a h0 (by omega)
    have := lC_bd (t - a) (by omega) (by omega)
    unfold bdC at *
    split at * <;> omega
  · have e : cutP f a t = [] := by
      cases f with
      | zero => rfl
      | succ f => unfold cutP; rw [if_neg h]
    rw [e]
    simp
    omega
end Go.Proofs.YtkneonfhikcdkaaDoor
