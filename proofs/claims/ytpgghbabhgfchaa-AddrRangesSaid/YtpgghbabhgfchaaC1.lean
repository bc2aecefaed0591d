import Derived.Test.YtpgghbabhgfchaaB1
namespace Go.Proofs.Ytpgghbabhgfchaa
open Go.RowKit
/-- a range is valid -/
def okR (x : Int × Int) : Bool := decide (0 ≤ x.1) && (decide (x.1 ≤ x.2) && decide (x.2 < 64))
theorem okR_iff (x : Int × Int) : okR x = true ↔ 0 ≤ x.1 ∧ x.1 ≤ x.2 ∧ x.2 < 64 := by unfold okR; simp
theorem okR_no {x : Int × Int} (h : okR x = false) : ckE x.1 x.2 = 2 := by
  unfold ckE
  rw [if_pos]
  apply Classical.byContradiction
  intro hc
  have : okR x = true := (okR_iff x).2 (by omega)
  rw [h] at this
  cases this
theorem okR_yes {x : Int × Int} (h : okR x = true) : ckE x.1 x.2 = 0 := by
  have := (okR_iff x).1 h
  unfold ckE
  rw [if_neg (by omega)]
/-- the last page of the pieces so far -/
theorem pcF_last (f j : Nat) (hj : f + j < 64) : ∃ r a, pcF (upto (pgN f) (j + 1)) = r ++ [(a, ((f + j : Nat) : Int))] := by
  have hx := pgN_val (f := f) (j := j) hj
  rw [upto_succ, pcF_snoc]
  rcases List.eq_nil_or_concat (pcF (upto (pgN f) j)) with hs | ⟨r, ⟨a, b⟩, hs⟩
  · rw [hs, pst_nil, hx]
    exact ⟨[], (f : Int) + j, by simp⟩
  · rw [hs, List.concat_eq_append, pst_one, hx]
    split
    · exact ⟨r, a, by simp⟩
    · exact ⟨r ++ [(a, b)], (f : Int) + j, by simp⟩
/-- the pieces with one page more, as the reference has them -/
theorem pcF_ref (f j : Nat) (hj : f + j < 64) : pcF (upto (pgN f) (j + 1)) = if j = 0 ∨ (f + j) % 8 = 0 then pcF (upto (pgN f) j) ++ [(((f + j : Nat) : Int), ((f + j : Nat) : Int))] else setL (pcF (upto (pgN f) j)) ((f + j : Nat) : Int) := by
  have hx := pgN_val (f := f) (j := j) hj
  rw [upto_succ, pcF_snoc]
  rcases j with _ | j
  · rw [if_pos (.inl rfl)]
    show pst [] (pgN f 0) = _
    rw [pst_nil, hx]
    simp [pcF, upto]
  · obtain ⟨r, a, h⟩ := pcF_last f j (by omega)
    rw [h, pst_one, hx]
    by_cases hm : (f + (j + 1)) % 8 = 0
    · rw [if_neg (by omega), if_pos (.inr hm)]
      simp
    · rw [if_pos (by omega), if_neg (by omega), setL_snoc]
      simp
theorem mkS_pgs (f t k : Nat) (hft : f ≤ t) (ht : t < 64) : mkS (pgs f t) k = decide (f / 8 ≤ k ∧ k ≤ t / 8) := by
  unfold mkS pgs
  rw [Bool.eq_iff_iff, List.any_eq_true, decide_eq_true_iff]
  constructor
  · rintro ⟨x, hx, hk⟩
    have hk' : x.1 / 8 = k := by simpa using hk
    obtain ⟨i, hi, e⟩ := List.getElem_of_mem hx
    rw [upto_length] at hi
    have := pgN_val (f := f) (j := i) (by omega)
    have e2 : (upto (pgN f) (t - f + 1))[i] = pgN f i := by simp [upto]
    rw [e2] at e
    subst e
    omega
  · rintro ⟨h1, h2⟩
    refine ⟨pgN f (max f (8 * k) - f), ?_, ?_⟩
    · have hlt : max f (8 * k) - f < t - f + 1 := by omega
      have e2 : pgN f (max f (8 * k) - f) = (upto (pgN f) (t - f + 1))[max f (8 * k) - f]'(by rw [upto_length]; exact hlt) := by simp [upto]
      rw [e2]
      exact List.getElem_mem _
    · have := pgN_val (f := f) (j := max f (8 * k) - f) (by omega)
      simp
      omega
/-- the leaf k is in the cover of the ranges -/
def bL (l : List (Int × Int)) (k : Nat) : Bool := l.any fun x => mkS (pgs x.1.toNat x.2.toNat) k
theorem bL_snoc (l : List (Int × Int)) (x : Int × Int) : bL (l ++ [x]) = fun k => (bL l k || mkS (pgs x.1.toNat x.2.toNat) k) := by
  funext k
  simp [bL]
/-- the cover, and its error -/
def cvL (l : List (Int × Int)) : List Int := if l.length ≤ 64 ∧ l.all okR = true then cvK (bL l) 8 else []
def cvE (l : List (Int × Int)) : Int := if l.length ≤ 64 then (if l.all okR = true then 0 else 2) else 5
end Go.Proofs.Ytpgghbabhgfchaa
