import Derived.Test.YtfiglmbnjfgdlaaDoorG1
namespace Go.Proofs.YtfiglmbnjfgdlaaDoor
open Go.RowKit
def inF (n : Int) : Bool := decide (0 ≤ n ∧ n < 256)
def fitsV (s f w : Int) : Bool := if s = 1 ∨ s = 7 then decide (f = -1) else if s = 2 then decide (f ≠ -1 ∧ f ≠ w) else if s = 4 then decide (w ≠ -1 ∧ f ≠ w) else if s = 8 then decide (f = -1 ∧ w = -1) else decide (f ≠ -1 ∧ w = -1)
/-- is an access valid: its error -/
def ck (s f w : Int) : Int := if s < 1 ∨ 8 < s then 9 else if (f ≠ -1 ∧ inF f = false) ∨ (w ≠ -1 ∧ inF w = false) then 2 else if fitsV s f w then 0 else 3
/-- may an event come -/
def mayB (s : Int) (b : Bool) (e : Int) : Bool :=
  if e = 1 then (s == 1 && !b) else if e = 2 then ((s == 1 || s == 2) && b) else if e = 3 then (s == 2 && !b)
  else if e = 4 then (s == 4 || ((s == 1 || s == 2 || s == 7) && b)) else if e = 5 then (s == 3 || s == 6) else decide (1 ≤ s ∧ s ≤ 4)
def mayV (s w e : Int) : Bool := mayB s (w != -1) e
/-- an event's error -/
def cev (s w e n : Int) : Int := if e < 1 ∨ 6 < e then 16 else if (e = 1 ∧ inF n = false) ∨ (e ≠ 1 ∧ n ≠ -1) then 2 else if mayV s w e = false then 9 else if n ≠ -1 ∧ n = w then 7 else 0
def one (f : Int) : List Int := if f = -1 then [] else [f]
structure Res where
  s : Int
  f : Int
  w : Int
  l : List Int
  m : Int
/-- what an event makes of an access -/
def stp (s f w e n : Int) : Res :=
  if e = 1 then ⟨2, n, w, [], -1⟩ else if e = 2 then ⟨4, f, w, [], -1⟩ else if e = 3 then ⟨3, f, w, [], -1⟩
  else if e = 4 then (if s = 4 then ⟨5, w, -1, one f, w⟩ else ⟨s, f, -1, one w, -1⟩)
  else if e = 5 then (if s = 6 then ⟨8, -1, w, one f, -1⟩ else ⟨5, f, w, [], f⟩)
  else (if s = 3 then ⟨6, f, w, [], -1⟩ else ⟨7, -1, w, one f, -1⟩)
theorem ck_range (s f w : Int) (h : ck s f w = 0) : 1 ≤ s ∧ s ≤ 8 ∧ -1 ≤ f ∧ f < 256 ∧ -1 ≤ w ∧ w < 256 ∧ fitsV s f w = true := by
  unfold ck inF at h
  split at h
  · cases h
  · split at h
    · cases h
    · split at h
      · rename_i h1 h2 h3
        simp only [decide_eq_false_iff_not] at h2
        refine ⟨by omega, by omega, by omega, by omega, by omega, by omega, h3⟩
      · cases h
theorem ck_cases (s f w : Int) (h : ck s f w = 0) : -1 ≤ f ∧ f < 256 ∧ -1 ≤ w ∧ w < 256 ∧ ((s = 1 ∧ f = -1) ∨ (s = 2 ∧ f ≠ -1 ∧ f ≠ w) ∨ (s = 3 ∧ f ≠ -1 ∧ w = -1) ∨ (s = 4 ∧ w ≠ -1 ∧ f ≠ w) ∨ (s = 5 ∧ f ≠ -1 ∧ w = -1) ∨ (s = 6 ∧ f ≠ -1 ∧ w = -1) ∨ (s = 7 ∧ f = -1) ∨ (s = 8 ∧ f = -1 ∧ w = -1)) := by
  obtain ⟨h1, h2, h3, h4, h5, h6, h7⟩ := ck_range s f w h
  refine ⟨h3, h4, h5, h6, ?_⟩
  unfold fitsV at h7
  split at h7
  · have := of_decide_eq_true h7; omega
  · split at h7
    · have := of_decide_eq_true h7; omega
    · split at h7
      · have := of_decide_eq_true h7; omega
      · split at h7
        · have := of_decide_eq_true h7; omega
        · have := of_decide_eq_true h7; omega
theorem ck_of (s f w : Int) (h : -1 ≤ f ∧ f < 256 ∧ -1 ≤ w ∧ w < 256 ∧ ((s = 1 ∧ f = -1) ∨ (s = 2 ∧ f ≠ -1 ∧ f ≠ w) ∨ (s = 3 ∧ f ≠ -1 ∧ w = -1) ∨ (s = 4 ∧ w ≠ -1 ∧ f ≠ w) ∨ (s = 5 ∧ f ≠ -1 ∧ w = -1) ∨ (s = 6 ∧ f ≠ -1 ∧ w = -1) ∨ (s = 7 ∧ f = -1) ∨ (s = 8 ∧ f = -1 ∧ w = -1))) : ck s f w = 0 := by
  obtain ⟨a, b, c, d, h⟩ := h
  unfold ck
  rw [if_neg (by omega), if_neg (by unfold inF; simp only [decide_eq_false_iff_not]; omega)]
  have : fitsV s f w = true := by
    unfold fitsV
    repeat' split
    all_goals (apply decide_eq_true; omega)
  rw [if_pos this]
theorem ck_sw (s f w : Int) (h : ck s f w = 0) : (s = 1 ∧ (w != -1) = false) ∨ (s = 1 ∧ (w != -1) = true) ∨ (s = 2 ∧ (w != -1) = false) ∨ (s = 2 ∧ (w != -1) = true) ∨ (s = 3 ∧ (w != -1) = false) ∨ (s = 4 ∧ (w != -1) = true) ∨ (s = 5 ∧ (w != -1) = false) ∨ (s = 6 ∧ (w != -1) = false) ∨ (s = 7 ∧ (w != -1) = false) ∨ (s = 7 ∧ (w != -1) = true) ∨ (s = 8 ∧ (w != -1) = false) := by
  obtain ⟨_, _, _, _, h⟩ := ck_cases s f w h
  rcases hb : (w != -1) with _ | _
  · have : w = -1 := by simpa using hb
    simp only [Bool.false_eq_true, and_true, and_false, false_or]
    omega
  · have : w ≠ -1 := by simpa using hb
    simp only [Bool.true_eq_false, and_true, and_false, false_or, or_false]
    omega
theorem fits_form (s f w : Int) (b1 b2 b3 : Bool) (h1 : (f == -1) = b1) (h2 : (w == -1) = b2) (h3 : (f != w) = b3) : fitsV s f w = if s = 1 ∨ s = 7 then b1 else if s = 2 then (!b1 && b3) else if s = 4 then (!b2 && b3) else if s = 8 then (b1 && b2) else (!b1 && b2) := by
  subst h1 h2 h3
  unfold fitsV
  split
  · rw [Bool.eq_iff_iff]; simp
  · split
    · rw [Bool.eq_iff_iff]; simp
    · split
      · rw [Bool.eq_iff_iff]; simp
      · split
        · rw [Bool.eq_iff_iff]; simp
        · rw [Bool.eq_iff_iff]; simp
end Go.Proofs.YtfiglmbnjfgdlaaDoor
