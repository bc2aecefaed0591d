namespace Go.Proofs.Ytjlgaddnibelfaa

/-- the error of marks for a number of frames -/
def mkE (mn lo hi fr : Int) : Int := if fr < 1 ∨ 256 < fr ∨ mn < 0 ∨ fr < hi then 2 else if mn < lo ∧ lo < hi then 0 else 8
/-- what a class leaves -/
def flr (mn hi c : Int) : Int := if c = 1 then mn else if c = 3 then hi else 0
/-- the error of marks, a class and two numbers -/
def chkE (mn lo hi c free n : Int) : Int := if mkE mn lo hi 256 ≠ 0 then mkE mn lo hi 256 else if c < 1 ∨ 3 < c then 16 else if free < 0 ∨ 256 < free ∨ n < 0 ∨ 256 < n then 2 else 0
def gotV (mn hi c free n : Int) : Int := min n (max (free - flr mn hi c) 0)
def takeG (mn lo hi c free n : Int) : Int := if chkE mn lo hi c free n = 0 then gotV mn hi c free n else 0
def takeL (mn lo hi c free n : Int) : Int := if chkE mn lo hi c free n = 0 then free - gotV mn hi c free n else 0
def needV (mn lo hi c free n : Int) : Int := if chkE mn lo hi c free n ≠ 0 ∨ n = 0 then 0 else max (flr mn hi c + n - free) 0
def levV (mn lo hi free : Int) : Int := if chkE mn lo hi 1 free 0 ≠ 0 then 0 else if hi ≤ free then 0 else if lo ≤ free then 1 else if mn < free then 2 else 3
def awkV (mn lo hi free : Int) (was : Bool) : Bool := decide (chkE mn lo hi 1 free 0 = 0) && (decide (1 < levV mn lo hi free) || (decide (levV mn lo hi free = 1) && was))

theorem chkE_ok {mn lo hi c free n : Int} (h : chkE mn lo hi c free n = 0) : 0 ≤ mn ∧ mn < lo ∧ lo < hi ∧ hi ≤ 256 ∧ 1 ≤ c ∧ c ≤ 3 ∧ 0 ≤ free ∧ free ≤ 256 ∧ 0 ≤ n ∧ n ≤ 256 := by
  unfold chkE mkE at h
  repeat' split at h
  all_goals omega
theorem chkE_of {mn lo hi c free n : Int} (h : 0 ≤ mn ∧ mn < lo ∧ lo < hi ∧ hi ≤ 256 ∧ 1 ≤ c ∧ c ≤ 3 ∧ 0 ≤ free ∧ free ≤ 256 ∧ 0 ≤ n ∧ n ≤ 256) : chkE mn lo hi c free n = 0 := by
  have e : mkE mn lo hi 256 = 0 := by unfold mkE; rw [if_neg (by omega), if_pos (by omega)]
  unfold chkE
  rw [if_neg (by simp [e]), if_neg (by omega), if_neg (by omega)]
theorem chkE_01 (mn lo hi c free : Int) : chkE mn lo hi c free 0 = chkE mn lo hi c free 1 := by
  unfold chkE
  have e : (free < 0 ∨ 256 < free ∨ (0:Int) < 0 ∨ (256:Int) < 0) ↔ (free < 0 ∨ 256 < free ∨ (1:Int) < 0 ∨ (256:Int) < 1) := by omega
  simp only [e]
end Go.Proofs.Ytjlgaddnibelfaa
