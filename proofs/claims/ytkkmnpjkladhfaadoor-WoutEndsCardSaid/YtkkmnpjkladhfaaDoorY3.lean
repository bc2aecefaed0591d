import Derived.Test.YtkkmnpjkladhfaaDoorY1
import Derived.Deep.CutRange
import Derived.Deep.Cut
namespace Go.Proofs.YtkkmnpjkladhfaaDoor
open Go.RowKit
abbrev NxC (s r c k p x1 x2 x3 ee : Int) : Prop := ∀ W, Calls Tryd.prog 10 #[wt s r c, ev k p] W fun e w' => e = .returned (.tuple #[wt x1 x2 x3, .int .i64 ee]) ∧ Ev W w'
theorem nxc (s r c k p : Int) : NxC s r c k p (nxS s r c k p) (nxR s r c k p) (nxC s r c k p) (nxE s r c k p) := fun W => next_any s r c k p W
theorem nxc_of {s r c k p x1 x2 x3 : Int} (h : nxE s r c k p = 0) (h1 : afS s r k = x1) (h2 : afR s r k = x2) (h3 : afC s r c k p = x3) : NxC s r c k p x1 x2 x3 0 := fun W => by
  have hh := next_any s r c k p W
  unfold nxS nxR nxC at hh
  rw [if_pos h, if_pos h, if_pos h, h, h1, h2, h3] at hh
  exact hh
theorem nx_at {s r c k p : Int} (h : nxE s r c k p = 0) : nxS s r c k p = afS s r k ∧ nxR s r c k p = afR s r k ∧ nxC s r c k p = afC s r c k p := by
  unfold nxS nxR nxC
  rw [if_pos h, if_pos h, if_pos h]
  exact ⟨rfl, rfl, rfl⟩
/-- a claim, undone by its drop -/
theorem fA {s r c : Int} (h : nxE s r c 4 3 = 0) : NxC (nxS s r c 4 3) (nxR s r c 4 3) (nxC s r c 4 3) 5 0 s r c 0 := by
  obtain ⟨h1, h2, h3, h4⟩ := nxE_ok h
  obtain ⟨g1, g2, g3⟩ := nx_at h
  have hv := nx_valid h
  rw [g1, g2, g3]
  obtain ⟨o1, o2, o3, o4, o5, o6, o7, o8⟩ := oChk_ok h1
  have hs : s = 2 := by
    rcases six o1 o2 with rfl | rfl | rfl | rfl | rfl | rfl <;> first | rfl | (simp [posB] at h3)
  subst hs
  have hc := o8 (by omega)
  subst hc
  refine nxc_of ?_ rfl rfl rfl
  unfold nxE
  rw [hv]
  rfl
/-- a new entry, undone by its loss -/
theorem fB {s r c : Int} (h : nxE s r c 1 0 = 0) : nxS s r c 1 0 = s ∧ NxC s (nxR s r c 1 0) (nxC s r c 1 0) 2 0 s r c 0 := by
  obtain ⟨h1, h2, h3, h4⟩ := nxE_ok h
  obtain ⟨g1, g2, g3⟩ := nx_at h
  have hv := nx_valid h
  rw [g1, g2, g3]
  obtain ⟨o1, o2, o3, o4, o5, o6, o7, o8⟩ := oChk_ok h1
  have hr : 1 ≤ r ∧ r < 512 := by simpa [fitB] using h4
  have hs6 : s ≠ 6 := by rintro rfl; simp [posB] at h3
  have e1 : afS s r 1 = s := by simp [afS]
  have e2 : afR s r 1 = r + 1 := by simp [afR]
  have e3 : afC s r c 1 0 = c := by simp [afC]
  rw [e1, e2, e3] at hv
  rw [e1, e2, e3]
  refine ⟨rfl, nxc_of ?_ ?_ ?_ ?_⟩
  · have p1 : posB s 2 = true := by simp [posB, hs6]
    have p2 : fitB s (r + 1) 2 = true := by simp [fitB]; omega
    unfold nxE
    rw [hv, p1, p2]
    rfl
  · simp [afS]; omega
  · simp [afR]
  · simp [afC]
/-- the end of a write -/
theorem fC {s r c : Int} (h : nxE s r c 6 0 = 0) : (0 < c ∧ 0 < r ∧ nxS s r c 6 0 = 5 ∧ nxR s r c 6 0 = r - 1 ∧ nxC s r c 6 0 = 0) ∨ (c = 0 ∧ 0 < r ∧ nxS s r c 6 0 = 4 ∧ nxR s r c 6 0 = r ∧ nxC s r c 6 0 = 0) ∨ (c = 0 ∧ r = 0 ∧ nxS s r c 6 0 = 6) := by
  obtain ⟨h1, h2, h3, h4⟩ := nxE_ok h
  obtain ⟨g1, g2, g3⟩ := nx_at h
  rw [g1, g2, g3]
  obtain ⟨o1, o2, o3, o4, o5, o6, o7, o8⟩ := oChk_ok h1
  rcases six o1 o2 with rfl | rfl | rfl | rfl | rfl | rfl
  · simp [posB] at h3
  · have hc := o8 (by omega)
    subst hc
    by_cases hr : r = 0
    · right; right; subst hr; exact ⟨rfl, rfl, rfl⟩
    · right; left
      exact ⟨rfl, by omega, by simp [afS, hr], by simp [afR], by simp [afC]⟩
  · have hr := o5 (by omega)
    have hc := o7 rfl
    have hr0 : r ≠ 0 := by omega
    left
    exact ⟨by omega, by omega, by simp [afS, hr0], by simp [afR, hr0], by simp [afC, hr0]⟩
  · simp [posB] at h3
  · simp [posB] at h3
  · simp [posB] at h3
/-- rounds until the page is gone -/
def pot (s r : Int) : Int := if s = 6 then 0 else if s = 3 then r + 2 else if s = 2 then r + 1 else r
/-- which kind comes, and when it can come -/
def atK (k : Nat) (s r : Int) : Prop := k = 0 ∨ (k = 1 ∧ s ≠ 3) ∨ (k = 2 ∧ s = 2 ∧ r = 0)
def kdN (k : Nat) : Int := ([5, 2, 6] : List Int).getD k 0
theorem fE {s r c : Int} {k : Nat} (hok : oChk s r c = 0) (h5 : s ≠ 5) (h6 : s ≠ 6) (hk : atK k s r) : (nxE s r c (kdN k) 0 = 0 → oChk (nxS s r c (kdN k) 0) (nxR s r c (kdN k) 0) (nxC s r c (kdN k) 0) = 0 ∧ nxS s r c (kdN k) 0 ≠ 5 ∧ pot (nxS s r c (kdN k) 0) (nxR s r c (kdN k) 0) + 1 ≤ pot s r) ∧ (nxE s r c (kdN k) 0 ≠ 0 → k + 1 < 3 ∧ atK (k + 1) s r) := by
  obtain ⟨o1, o2, o3, o4, o5, o6, o7, o8⟩ := oChk_ok hok
  refine ⟨fun h => ?_, fun h => ?_⟩
  · have hv := nx_valid h
    obtain ⟨g1, g2, g3⟩ := nx_at h
    obtain ⟨h1, h2, h3, h4⟩ := nxE_ok h
    rw [g1, g2, g3]
    refine ⟨hv, ?_⟩
    rcases hk with rfl | ⟨rfl, hs⟩ | ⟨rfl, rfl, rfl⟩
    · rw [show kdN 0 = 5 from rfl] at h3 ⊢
      have hs : s = 3 := by rcases six o1 o2 with rfl | rfl | rfl | rfl | rfl | rfl <;> first | rfl | (simp [posB] at h3)
      subst hs
      simp [afS, afR, pot]
      omega
    · rw [show kdN 1 = 2 from rfl] at h3 h4 ⊢
      have h4' : 1 < r ∨ (r = 1 ∧ s ≠ 3) := by simpa [fitB] using h4
      rcases six o1 o2 with rfl | rfl | rfl | rfl | rfl | rfl
      · by_cases hr : r = 1
        · subst hr; simp [afS, pot]
        · simp [afS, afR, pot, hr]
      · simp [afS, afR, pot]
      · omega
      · by_cases hr : r = 1
        · subst hr; simp [afS, pot]
        · simp [afS, afR, pot, hr]
      · omega
      · omega
    · rw [show kdN 2 = 6 from rfl]
      simp [afS, pot]
  · rcases hk with rfl | ⟨rfl, hs⟩ | ⟨rfl, rfl, rfl⟩
    · refine ⟨by omega, .inr (.inl ⟨rfl, ?_⟩)⟩
      rintro rfl
      apply h
      have hr := o5 (by omega)
      unfold nxE
      rw [hok]
      rfl
    · refine ⟨by omega, .inr (.inr ⟨rfl, ?_⟩)⟩
      rw [show kdN 1 = 2 from rfl] at h
      have p1 : posB s 2 = true := by simp [posB, h6]
      by_cases hr : r = 0
      · refine ⟨?_, hr⟩
        rcases six o1 o2 with rfl | rfl | rfl | rfl | rfl | rfl <;> first | rfl | omega
      · exfalso
        apply h
        have p2 : fitB s r 2 = true := by simp [fitB]; omega
        unfold nxE
        rw [hok, p1, p2]
        rfl
    · exfalso
      apply h
      rw [show kdN 2 = 6 from rfl]
      have hc := o8 (by omega)
      subst hc
      rfl
end Go.Proofs.YtkkmnpjkladhfaaDoor
