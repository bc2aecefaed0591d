import Derived.Test.YtfclbnaabdlmhaaPF
namespace Go.Proofs.Ytfclbnaabdlmhaa
open Go.RowKit
theorem num_one (b : Nat → Nat) (i : Nat) : num b i 1 = b i := by simp [num]
theorem pb_num {b : Nat → Nat} (a n v : Nat) : num (pb b a n v) a n = v % 256 ^ n := by
  rw [← num_dig]
  refine num_congr n fun i hi => ?_
  unfold pb
  rw [if_pos (by omega), show a + i - a = i from by omega, Nat.zero_add]
theorem pb_again {b : Nat → Nat} (a n v : Nat) : pb (pb b a n v) a n (v % 256 ^ n) = pb b a n v := by
  funext i
  show (if a ≤ i ∧ i < a + n then v % 256 ^ n / 256 ^ (i - a) % 256 else pb b a n v i) = pb b a n v i
  by_cases h : a ≤ i ∧ i < a + n
  · rw [if_pos h]
    unfold pb
    rw [if_pos h]
    have e : v % 256 ^ n = num (fun i => v / 256 ^ i % 256) 0 n := (num_dig v n).symm
    rw [e, byt_num (b := fun i => v / 256 ^ i % 256) (fun i => Nat.mod_lt _ (by omega)) 0 n (i - a) (by omega), Nat.zero_add]
  · rw [if_neg h]
/-- what is put -/
def pd (c : Nat → Nat) (a n v : Nat) : Nat → Nat := wrd (pb (byt c) a n v)
theorem pd_lt (c : Nat → Nat) (a n v : Nat) : Pg (pd c a n v) := fun i => wrd_lt (pb_lt (byt_lt c) a n v) i
theorem pd_byt (c : Nat → Nat) (a n v : Nat) : byt (pd c a n v) = pb (byt c) a n v := by funext i; exact byt_wrd (pb_lt (byt_lt c) a n v) i
theorem pd_num (c : Nat → Nat) (a n v : Nat) : num (byt (pd c a n v)) a n = v % 256 ^ n := by rw [pd_byt, pb_num]
theorem pd_again (c : Nat → Nat) (a n v : Nat) : pd (pd c a n v) a n (v % 256 ^ n) = pd c a n v := by
  have e : ∀ x, pd c a n x = wrd (pb (byt c) a n x) := fun _ => rfl
  show wrd (pb (byt (pd c a n v)) a n (v % 256 ^ n)) = pd c a n v
  rw [pd_byt, pb_again, ← e]
theorem byt_at (c : Nat → Nat) (i : Nat) (w : World) (hi : i < 64) : Calls Try.prog 16 #[pg c, .int .i64 (i : Int), .int .i64 1] w fun e w' => e = .returned (.tuple #[.int .u64 (byt c i : Int), .int .i64 0]) ∧ Ev w w' := by
  have h := bytes_ok c i 1 w (by omega) (by omega) (by omega)
  rwa [num_one] at h
theorem sg_or (n x : Nat) : sg n x = (x : Int) ∨ sg n x = (x : Int) - 2 ^ (8 * n) := by unfold sg; split <;> simp
theorem tdiv_bd (a : Int) (h1 : -9223372036854775808 ≤ a) (h2 : a ≤ 9223372036854775807) : -9223372036854775808 ≤ a.tdiv 64 ∧ a.tdiv 64 ≤ 9223372036854775807 := by
  rcases Int.le_total 0 a with h | h
  · rw [Int.tdiv_eq_ediv_of_nonneg h]; omega
  · have e : a.tdiv 64 = -((-a).tdiv 64) := by rw [Int.neg_tdiv, Int.neg_neg]
    rw [e, Int.tdiv_eq_ediv_of_nonneg (by omega)]; omega
end Go.Proofs.Ytfclbnaabdlmhaa
