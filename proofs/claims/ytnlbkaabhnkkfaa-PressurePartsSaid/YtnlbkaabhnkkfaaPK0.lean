import Derived.Test.YtnlbkaabhnkkfaaPL
namespace Go.Proofs.Ytnlbkaabhnkkfaa
open Go.RowKit
def GoodS (g : Nat → Bool) (j : Nat) (p : Int × Int) : Prop := ∃ f t : Nat, p = ((f : Int), (t : Int)) ∧ f ≤ t ∧ t + 1 < j ∧ g f = false ∧ g (f + 1) = true ∧ g (t + 1) = true ∧ g (t + 2) = false
theorem GoodS.mono {g : Nat → Bool} {j : Nat} {p : Int × Int} (h : GoodS g j p) : GoodS g (j + 1) p := by
  obtain ⟨f, t, h1, h2, h3, h4⟩ := h
  exact ⟨f, t, h1, h2, by omega, h4⟩
theorem spF_inv2 (g : Nat → Bool) (hg : g 0 = false) (j : Nat) : (spF (upto (fun i => (i, g (i + 1))) j)).2 = g j ∧
    (g j = false → ∀ p ∈ (spF (upto (fun i => (i, g (i + 1))) j)).1, GoodS g j p) ∧
    (g j = true → ∃ (r : List (Int × Int)) (f : Nat), (spF (upto (fun i => (i, g (i + 1))) j)).1 = r ++ [((f : Int), ((j - 1 : Nat) : Int))] ∧ (∀ p ∈ r, GoodS g j p) ∧ f + 1 ≤ j ∧ g f = false ∧ g (f + 1) = true) := by
  induction j with
  | zero =>
    refine ⟨hg.symm, fun _ p hp => ?_, fun h => ?_⟩
    · exact absurd hp (by simp [spF, upto])
    · rw [hg] at h; cases h
  | succ j ih =>
    obtain ⟨i1, i2, i3⟩ := ih
    rw [upto_succ, spF_snoc]
    generalize spF (upto (fun i => (i, g (i + 1))) j) = st at *
    obtain ⟨s, bf⟩ := st
    simp only at i1 i2 i3
    subst i1
    refine ⟨rfl, fun h => ?_, fun h => ?_⟩
    · have e : (stp (s, g j) (j, g (j + 1))).1 = s := by simp [stp, h]
      rw [e]
      cases hj : g j with
      | false => exact fun p hp => (i2 hj p hp).mono
      | true =>
        obtain ⟨r, f, rfl, hr, hf, h1, h2⟩ := i3 hj
        intro p hp
        rcases List.mem_append.1 hp with hp | hp
        · exact (hr p hp).mono
        · obtain rfl := List.mem_singleton.1 hp
          refine ⟨f, j - 1, rfl, by omega, by omega, h1, h2, ?_, ?_⟩
          · rw [show j - 1 + 1 = j from by omega]; exact hj
          · rw [show j - 1 + 2 = j + 1 from by omega]; exact h
    · cases hj : g j with
      | false =>
        refine ⟨s, j, by simp [stp, h], fun p hp => (i2 hj p hp).mono, by omega, hj, h⟩
      | true =>
        obtain ⟨r, f, rfl, hr, hf, h1, h2⟩ := i3 hj
        exact ⟨r, f, by simp [stp, h, setL_snoc], fun p hp => (hr p hp).mono, by omega, h1, h2⟩
/-- what is so of each span -/
def SpOk (b c : Int) (l : List Int) (p : Int × Int) : Prop := ∃ f t : Nat, p = ((f : Int), (t : Int)) ∧ f ≤ t ∧ t < l.length ∧ l.getD f 0 < b ∧ (t + 1 < l.length → c ≤ l.getD (t + 1) 0)
theorem spans_ok (b c : Int) (l : List Int) (_hbc : b < c) : ∀ p ∈ (spF (upto (fun j => (j, gS b c l (j + 1))) l.length)).1, SpOk b c l p := by
  obtain ⟨-, h1, h2⟩ := spF_inv2 (gS b c l) rfl l.length
  have low : ∀ f, gS b c l f = false → gS b c l (f + 1) = true → l.getD f 0 < b := by
    intro f ha hb
    have : gS b c l (f + 1) = nxV b c (gS b c l f) (l.getD f 0) := rfl
    rw [ha, hb] at this
    unfold nxV at this
    simpa using this.symm
  have high : ∀ t, gS b c l (t + 1) = true → gS b c l (t + 2) = false → c ≤ l.getD (t + 1) 0 := by
    intro t ha hb
    have : gS b c l (t + 1 + 1) = nxV b c (gS b c l (t + 1)) (l.getD (t + 1) 0) := rfl
    rw [ha, show gS b c l (t + 1 + 1) = false from hb] at this
    generalize l.getD (t + 1) 0 = y at *
    unfold nxV at this
    simp at this
    omega
  have good : ∀ p, GoodS (gS b c l) l.length p → SpOk b c l p := by
    rintro p ⟨f, t, rfl, a1, a2, a3, a4, a5, a6⟩
    exact ⟨f, t, rfl, a1, by omega, low f a3 a4, fun _ => high t a5 a6⟩
  cases hl : gS b c l l.length with
  | false => exact fun p hp => good p (h1 hl p hp)
  | true =>
    obtain ⟨r, f, e, hr, hf, g1, g2⟩ := h2 hl
    rw [e]
    intro p hp
    rcases List.mem_append.1 hp with hp | hp
    · exact good p (hr p hp)
    · obtain rfl := List.mem_singleton.1 hp
      exact ⟨f, l.length - 1, rfl, by omega, by omega, low f g1 g2, fun h => by omega⟩
theorem hi_bd (l : List Int) : ∀ x ∈ hiL l, 0 ≤ x ∧ x < 20 := by
  intro x hx
  obtain ⟨y, _, rfl⟩ := List.mem_map.1 hx
  exact ⟨Int.emod_nonneg _ (by omega), Int.emod_lt_of_pos _ (by omega)⟩
theorem asE_hist {a b c : Int} (h : 0 ≤ a ∧ a < b ∧ b < c ∧ c ≤ 20) {l : List Int} (hl : l.length ≤ 40) (hx : ∀ x ∈ l, 0 ≤ x ∧ x < 20) : asE a b c l = 0 := by
  have h1 : mkE a b c = 0 := by unfold mkE; rw [if_neg (by omega), if_neg (by omega)]
  unfold asE
  rw [if_neg (by simp [h1])]
  unfold hsE
  rw [if_neg (by omega), if_neg]
  intro hany
  obtain ⟨x, hxm, hb⟩ := List.any_eq_true.1 hany
  unfold badB at hb
  have := of_decide_eq_true hb
  have := hx x hxm
  omega
end Go.Proofs.Ytnlbkaabhnkkfaa
