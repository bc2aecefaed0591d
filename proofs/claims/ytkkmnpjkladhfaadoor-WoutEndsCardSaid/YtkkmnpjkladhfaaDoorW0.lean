namespace Go.Proofs.YtkkmnpjkladhfaaDoor

/-- the error of a page on its way -/
def oChk (s r c : Int) : Int :=
  if s < 1 ∨ 6 < s then 9
  else if ((s = 1 ∨ s = 3 ∨ s = 4) ∧ r < 1) ∨ r < 0 ∨ 512 < r ∨ (s = 6 ∧ 0 < r) then 15
  else if s = 3 then (if c < 1 ∨ 8 < c then 2 else 0)
  else if c ≠ 0 then 2 else 0
/-- the error of an event -/
def evE (k p : Int) : Int := if k < 1 ∨ 6 < k then 16 else if k = 4 then (if p < 1 ∨ 8 < p then 2 else 0) else if p ≠ 0 then 3 else 0
/-- the states in which an event is possible -/
def posB (s k : Int) : Bool := (s != 6 && (k == 1 || k == 2)) || (k == 3 && s == 1) || (k == 4 && s == 2) || (k == 5 && s == 3) || (k == 6 && (s == 2 || s == 3))
/-- the numbers of entries with which an event is possible -/
def fitB (s r k : Int) : Bool := if k = 1 then decide (1 ≤ r ∧ r < 512) else if k = 2 then decide (1 < r ∨ (r = 1 ∧ s ≠ 3)) else if k = 4 then decide (1 ≤ r) else true
def nxE (s r c k p : Int) : Int := if oChk s r c ≠ 0 then oChk s r c else if evE k p ≠ 0 then evE k p else if posB s k = false then 9 else if fitB s r k = false then 15 else 0
def afS (s r k : Int) : Int := if k = 2 then (if (s = 1 ∨ s = 4) ∧ r = 1 then 6 else s) else if k = 3 then 2 else if k = 4 then 3 else if k = 5 then 2 else if k = 6 then (if r = 0 then 6 else if s = 3 then 5 else 4) else s
def afR (s r k : Int) : Int := if k = 1 then r + 1 else if k = 2 then r - 1 else if k = 6 ∧ r ≠ 0 ∧ s = 3 then r - 1 else r
def afC (s r c k p : Int) : Int := if k = 4 then p else if k = 5 then 0 else if k = 6 ∧ r ≠ 0 ∧ s = 3 then 0 else c
def nxS (s r c k p : Int) : Int := if nxE s r c k p = 0 then afS s r k else 0
def nxR (s r c k p : Int) : Int := if nxE s r c k p = 0 then afR s r k else 0
def nxC (s r c k p : Int) : Int := if nxE s r c k p = 0 then afC s r c k p else 0

theorem oChk_ok {s r c : Int} (h : oChk s r c = 0) : 1 ≤ s ∧ s ≤ 6 ∧ 0 ≤ r ∧ r ≤ 512 ∧ ((s = 1 ∨ s = 3 ∨ s = 4) → 1 ≤ r) ∧ (s = 6 → r = 0) ∧ (s = 3 → 1 ≤ c ∧ c ≤ 8) ∧ (s ≠ 3 → c = 0) := by
  unfold oChk at h
  repeat' split at h
  all_goals first | (exfalso; omega) | (refine ⟨by omega, by omega, by omega, by omega, by omega, by omega, by omega, by omega⟩)
theorem oChk_of {s r c : Int} (h : 1 ≤ s ∧ s ≤ 6 ∧ 0 ≤ r ∧ r ≤ 512 ∧ ((s = 1 ∨ s = 3 ∨ s = 4) → 1 ≤ r) ∧ (s = 6 → r = 0) ∧ (s = 3 → 1 ≤ c ∧ c ≤ 8) ∧ (s ≠ 3 → c = 0)) : oChk s r c = 0 := by
  unfold oChk
  repeat' split
  all_goals omega
theorem evE_ok {k p : Int} (h : evE k p = 0) : 1 ≤ k ∧ k ≤ 6 ∧ (k = 4 → 1 ≤ p ∧ p ≤ 8) ∧ (k ≠ 4 → p = 0) := by
  unfold evE at h
  repeat' split at h
  all_goals first | (exfalso; omega) | (refine ⟨by omega, by omega, by omega, by omega⟩)
theorem nxE_ok {s r c k p : Int} (h : nxE s r c k p = 0) : oChk s r c = 0 ∧ evE k p = 0 ∧ posB s k = true ∧ fitB s r k = true := by
  unfold nxE at h
  repeat' split at h
  all_goals first | (exfalso; omega) | skip
  all_goals simp_all
/-- an event leads from a valid page to a valid one -/
theorem nx_valid {s r c k p : Int} (h : nxE s r c k p = 0) : oChk (afS s r k) (afR s r k) (afC s r c k p) = 0 := by
  obtain ⟨h1, h2, h3, h4⟩ := nxE_ok h
  have a := oChk_ok h1
  have b := evE_ok h2
  apply oChk_of
  unfold posB at h3
  unfold fitB at h4
  simp at h3
  unfold afS afR afC
  rcases (show k = 1 ∨ k = 2 ∨ k = 3 ∨ k = 4 ∨ k = 5 ∨ k = 6 by omega) with rfl | rfl | rfl | rfl | rfl | rfl <;> simp at h3 h4 ⊢ <;> (repeat' split) <;> omega
end Go.Proofs.YtkkmnpjkladhfaaDoor
