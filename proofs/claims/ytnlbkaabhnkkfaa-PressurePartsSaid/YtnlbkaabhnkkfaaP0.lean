namespace Go.Proofs.Ytnlbkaabhnkkfaa

/-- the error of marks -/
def mkE (a b c : Int) : Int := if a < 0 ∨ 256 < c then 2 else if b ≤ a ∨ c ≤ b then 8 else 0
/-- may the number be none of free frames? -/
def badB (x : Int) : Bool := decide (x < 0 ∨ 256 < x)
/-- the error of a history -/
def hsE (l : List Int) : Int := if 400 < l.length then 4 else if l.any badB then 2 else 0
/-- the error of marks and a history -/
def asE (a b c : Int) (l : List Int) : Int := if mkE a b c ≠ 0 then mkE a b c else hsE l
/-- the level of a number -/
def lvV (a b c x : Int) : Int := if c ≤ x then 0 else if b ≤ x then 1 else if a < x then 2 else 3
/-- awake behind a number -/
def nxV (b c : Int) (aw : Bool) (x : Int) : Bool := decide (x < b) || (aw && decide (x < c))
theorem mkE_ok {a b c : Int} (h : mkE a b c = 0) : 0 ≤ a ∧ a < b ∧ b < c ∧ c ≤ 256 := by
  unfold mkE at h
  repeat' split at h
  all_goals first | (exfalso; omega) | omega
theorem hsE_ok {l : List Int} (h : hsE l = 0) : l.length ≤ 400 ∧ ∀ x ∈ l, 0 ≤ x ∧ x ≤ 256 := by
  unfold hsE at h
  by_cases h1 : 400 < l.length
  · rw [if_pos h1] at h; omega
  · rw [if_neg h1] at h
    by_cases h2 : l.any badB = true
    · rw [if_pos h2] at h; omega
    · refine ⟨by omega, fun x hx => ?_⟩
      have : badB x = false := by
        cases hb : badB x
        · rfl
        · exact absurd (List.any_eq_true.2 ⟨x, hx, hb⟩) h2
      unfold badB at this
      have := of_decide_eq_false this
      omega
theorem asE_ok {a b c : Int} {l : List Int} (h : asE a b c l = 0) : mkE a b c = 0 ∧ hsE l = 0 := by
  unfold asE at h
  by_cases h1 : mkE a b c = 0
  · rw [if_neg (by simp [h1])] at h; exact ⟨h1, h⟩
  · rw [if_pos h1] at h; exact absurd h h1
theorem lvV_bd (a b c x : Int) : 0 ≤ lvV a b c x ∧ lvV a b c x ≤ 3 := by unfold lvV; repeat' split <;> omega
theorem hsE_one (x : Int) : hsE [x] = if x < 0 ∨ 256 < x then 2 else 0 := by
  unfold hsE badB
  simp
/-- awake behind each number -/
def runV (b c : Int) : Bool → List Int → List Bool
  | _, [] => []
  | aw, x :: r => nxV b c aw x :: runV b c (nxV b c aw x) r
theorem runV_len (b c : Int) (aw : Bool) (l : List Int) : (runV b c aw l).length = l.length := by
  induction l generalizing aw with
  | nil => rfl
  | cons x r ih => simp [runV, ih]
end Go.Proofs.Ytnlbkaabhnkkfaa
