import Derived.Test.YtpgghbabhgfchaaA5
namespace Go.Proofs.Ytpgghbabhgfchaa
open Go.RowKit
/-- the leaf k has a page of the list -/
def mkS (pre : List (Fin 64)) (k : Nat) : Bool := pre.any fun x => x.1 / 8 == k
theorem mkS_snoc (pre : List (Fin 64)) (x : Fin 64) (k : Nat) : mkS (pre ++ [x]) k = (mkS pre k || (x.1 / 8 == k)) := by simp [mkS]
def pgs (f t : Nat) : List (Fin 64) := upto (pgN f) (t - f + 1)
/-- the leaves up to k, ascending -/
def cvK (b : Nat → Bool) : Nat → List Int
  | 0 => []
  | k + 1 => if b k = true then cvK b k ++ [(k : Int)] else cvK b k
theorem cvK_len (b : Nat → Bool) (k : Nat) : (cvK b k).length ≤ k := by
  induction k with
  | zero => simp [cvK]
  | succ k ih =>
    unfold cvK
    split
    · simp; omega
    · omega
/-- what the law asks of the pieces p and of the leaves c -/
def apart (f t : Int) (p : List (Int × Int)) (c : List Int) : Bool :=
  p.length == c.length && decide (0 < p.length) && decide (p.length ≤ 8) && ((p.getD 0 (0, 0)).1 == f) && ((p.getD (p.length - 1) (0, 0)).2 == t) &&
  (List.range p.length).all fun i => decide (0 ≤ (p.getD i (0, 0)).1) && decide ((p.getD i (0, 0)).1 ≤ (p.getD i (0, 0)).2) && decide ((p.getD i (0, 0)).2 < 64) && ((p.getD i (0, 0)).1 / 8 == c.getD i 0) && ((p.getD i (0, 0)).2 / 8 == c.getD i 0) && (i == 0 || ((p.getD i (0, 0)).1 == (p.getD (i - 1) (0, 0)).2 + 1))
def allOk : Bool := (List.range 64).all fun t => (List.range (t + 1)).all fun f => apart (f : Int) (t : Int) (pcF (pgs f t)) (cvK (mkS (pgs f t)) 8) && mkS (pgs f t) (f / 8)
theorem all_ok : allOk = true := by decide +kernel
theorem apart_ok (f t : Nat) (hft : f ≤ t) (ht : t < 64) : apart f t (pcF (pgs f t)) (cvK (mkS (pgs f t)) 8) = true ∧ mkS (pgs f t) (f / 8) = true := by
  have h := all_ok
  unfold allOk at h
  rw [List.all_eq_true] at h
  have h1 := h t (by simpa using ht)
  rw [List.all_eq_true] at h1
  have h2 := h1 f (by simp; omega)
  simpa using h2
theorem apart_at {f t : Int} {p : List (Int × Int)} {c : List Int} (h : apart f t p c = true) : p.length = c.length ∧ 0 < p.length ∧ p.length ≤ 8 ∧ (p.getD 0 (0, 0)).1 = f ∧ (p.getD (p.length - 1) (0, 0)).2 = t ∧
    ∀ i, i < p.length → 0 ≤ (p.getD i (0, 0)).1 ∧ (p.getD i (0, 0)).1 ≤ (p.getD i (0, 0)).2 ∧ (p.getD i (0, 0)).2 < 64 ∧ (p.getD i (0, 0)).1 / 8 = c.getD i 0 ∧ (p.getD i (0, 0)).2 / 8 = c.getD i 0 ∧ (i = 0 ∨ (p.getD i (0, 0)).1 = (p.getD (i - 1) (0, 0)).2 + 1) := by
  unfold apart at h
  simp only [Bool.and_eq_true, beq_iff_eq, decide_eq_true_eq, List.all_eq_true, List.mem_range, Bool.or_eq_true] at h
  obtain ⟨⟨⟨⟨⟨h1, h2⟩, h3⟩, h4⟩, h5⟩, h6⟩ := h
  refine ⟨h1, h2, h3, h4, h5, fun i hi => ?_⟩
  obtain ⟨⟨⟨⟨⟨q1, q2⟩, q3⟩, q4⟩, q5⟩, q6⟩ := h6 i hi
  exact ⟨q1, q2, q3, q4, q5, q6⟩
end Go.Proofs.Ytpgghbabhgfchaa
