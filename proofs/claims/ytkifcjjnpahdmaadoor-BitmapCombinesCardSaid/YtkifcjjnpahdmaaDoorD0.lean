import Derived.Test.YtkifcjjnpahdmaaDoorA0
namespace Go.Proofs.YtkifcjjnpahdmaaDoor

/-- the number whose bits below m are f's -/
def bn (f : Nat → Bool) : Nat → Nat
  | 0 => 0
  | m + 1 => bn f m ||| (if f m then 2 ^ m else 0)
theorem bn_bit (f : Nat → Bool) (m t : Nat) : (bn f m).testBit t = (decide (t < m) && f t) := by
  induction m with
  | zero => simp [bn]
  | succ k ih =>
    rw [bn, Nat.testBit_or, ih]
    by_cases h : f k = true
    · rw [if_pos h, Nat.testBit_two_pow]
      rw [Bool.eq_iff_iff]
      simp only [Bool.or_eq_true, Bool.and_eq_true, decide_eq_true_eq]
      constructor
      · rintro (⟨h1, h2⟩ | h1)
        · exact ⟨by omega, h2⟩
        · subst h1; exact ⟨by omega, h⟩
      · rintro ⟨h1, h2⟩
        by_cases e : k = t
        · exact .inr e
        · exact .inl ⟨by omega, h2⟩
    · rw [if_neg h, Nat.zero_testBit, Bool.or_false]
      rw [Bool.eq_iff_iff]
      simp only [Bool.and_eq_true, decide_eq_true_eq]
      constructor
      · rintro ⟨h1, h2⟩; exact ⟨by omega, h2⟩
      · rintro ⟨h1, h2⟩
        refine ⟨?_, h2⟩
        by_cases e : t = k
        · subst e; exact absurd h2 h
        · omega
theorem bn_lt (f : Nat → Bool) (m : Nat) : bn f m < 2 ^ m := by
  apply Nat.lt_pow_two_of_testBit
  intro i hi
  rw [bn_bit, decide_eq_false (by omega)]
  rfl
/-- word j of the first k members of p -/
def pw (p : Nat → Bool) (k j : Nat) : Nat := bn (fun t => decide (64 * j + t < k) && p (64 * j + t)) 64
theorem pw_lt (p : Nat → Bool) (k j : Nat) : pw p k j < 18446744073709551616 := bn_lt _ 64
theorem pw_bit (p : Nat → Bool) (k j t : Nat) (ht : t < 64) : (pw p k j).testBit t = (decide (64 * j + t < k) && p (64 * j + t)) := by
  unfold pw
  rw [bn_bit, decide_eq_true ht, Bool.true_and]
theorem word_ext {a b : Nat} (ha : a < 18446744073709551616) (hb : b < 18446744073709551616) (h : ∀ t, t < 64 → a.testBit t = b.testBit t) : a = b := by
  apply Nat.eq_of_testBit_eq
  intro t
  rcases Nat.lt_or_ge t 64 with ht | ht
  · exact h t ht
  · rw [testBit_big _ _ ha ht, testBit_big _ _ hb ht]
theorem pw_zero (p : Nat → Bool) (j : Nat) : pw p 0 j = 0 :=
  word_ext (pw_lt _ _ _) (by decide) fun t ht => by rw [pw_bit _ _ _ _ ht, decide_eq_false (by omega), Nat.zero_testBit]; rfl
theorem pw_no (p : Nat → Bool) (k j : Nat) (h : p k = false ∨ k / 64 ≠ j) : pw p (k + 1) j = pw p k j :=
  word_ext (pw_lt _ _ _) (pw_lt _ _ _) fun t ht => by
    rw [pw_bit _ _ _ _ ht, pw_bit _ _ _ _ ht]
    by_cases e : 64 * j + t = k
    · rcases h with h | h
      · rw [e, h, Bool.and_false, Bool.and_false]
      · omega
    · congr 1
      rw [Bool.eq_iff_iff]
      simp only [decide_eq_true_eq]
      omega
theorem pw_yes (p : Nat → Bool) (k : Nat) (h : p k = true) : pw p (k + 1) (k / 64) = pw p k (k / 64) ||| 2 ^ (k % 64) := by
  have hp : 2 ^ (k % 64) < 18446744073709551616 := Nat.lt_of_le_of_lt (Nat.pow_le_pow_right (n := 2) (by decide) (show k % 64 ≤ 63 by omega)) (by decide)
  refine word_ext (pw_lt _ _ _) (Nat.or_lt_two_pow (n := 64) (pw_lt _ _ _) hp) fun t ht => ?_
  rw [Nat.testBit_or, pw_bit _ _ _ _ ht, pw_bit _ _ _ _ ht, Nat.testBit_two_pow]
  by_cases e : 64 * (k / 64) + t = k
  · rw [e, h, decide_eq_true (by omega), decide_eq_true (show k % 64 = t by omega)]
    simp
  · rw [decide_eq_false (show ¬ k % 64 = t by omega), Bool.or_false]
    congr 1
    rw [Bool.eq_iff_iff]
    simp only [decide_eq_true_eq]
    omega
/-- the words of the first n members of p -/
def pack (p : Nat → Bool) (n : Nat) : List Nat := (List.range (nw n)).map fun j => pw p n j
theorem pack_len (p : Nat → Bool) (n : Nat) : (pack p n).length = nw n := by simp [pack]
theorem pack_at (p : Nat → Bool) (n j : Nat) (h : j < nw n) : (pack p n).getD j 0 = pw p n j := by simp [pack, h]
theorem pack_lt (p : Nat → Bool) (n : Nat) : ∀ x ∈ pack p n, x < 18446744073709551616 := by
  intro x hx
  obtain ⟨j, _, rfl⟩ := List.mem_map.1 hx
  exact pw_lt _ _ _
theorem pack_bit (p : Nat → Bool) (n i : Nat) (h : i < n) : bit (pack p n) i = p i := by
  unfold bit
  rw [pack_at _ _ _ (by unfold nw; omega), pw_bit _ _ _ _ (by omega), show 64 * (i / 64) + i % 64 = i from by omega, decide_eq_true h, Bool.true_and]
/-- a list of words that has the members of p is p's -/
theorem pack_eq (p : Nat → Bool) (n : Nat) (ws : List Nat) (hl : ws.length = nw n) (hx : ∀ j, ws.getD j 0 < 18446744073709551616) (h : ∀ i, i < 64 * ws.length → bit ws i = (decide (i < n) && p i)) : ws = pack p n := by
  apply List.ext_getElem
  · rw [hl, pack_len]
  · intro j h1 h2
    have e1 : ws[j] = ws.getD j 0 := by simp [h1]
    have e2 : (pack p n)[j] = (pack p n).getD j 0 := by simp [h2]
    rw [e1, e2, pack_at _ _ _ (by rw [← hl]; exact h1)]
    refine word_ext (hx j) (pw_lt _ _ _) fun t ht => ?_
    rw [pw_bit _ _ _ _ ht, ← bit_at ws j t ht]
    exact h _ (by omega)
end Go.Proofs.YtkifcjjnpahdmaaDoor
