import Derived.Test.YtfclbnaabdlmhaaG1
import Derived.Lib.EndianBits
namespace Go.Proofs.Ytfclbnaabdlmhaa
open Go.RowKit
/-- the number in n bytes from a on, the little end first -/
def num (b : Nat → Nat) (a : Nat) : Nat → Nat
  | 0 => 0
  | n + 1 => num b a n + b (a + n) * 256 ^ n
def B8 (b : Nat → Nat) : Prop := ∀ i, b i < 256
theorem num_lt {b : Nat → Nat} (hb : B8 b) (a n : Nat) : num b a n < 256 ^ n := by
  induction n with
  | zero => simp [num]
  | succ n ih =>
    have h1 := hb (a + n)
    have h2 : b (a + n) * 256 ^ n ≤ 255 * 256 ^ n := Nat.mul_le_mul_right _ (by omega)
    rw [num, Nat.pow_succ]
    omega
theorem num_congr {b d : Nat → Nat} {a e : Nat} (n : Nat) (h : ∀ i, i < n → b (a + i) = d (e + i)) : num b a n = num d e n := by
  induction n with
  | zero => rfl
  | succ n ih => rw [num, num, ih (fun i hi => h i (by omega)), h n (by omega)]
theorem num_cons (b : Nat → Nat) (a n : Nat) : num b a (n + 1) = b a + 256 * num b (a + 1) n := by
  induction n with
  | zero => simp [num]
  | succ n ih =>
    rw [num, ih, num, Nat.pow_succ, show a + 1 + n = a + (n + 1) from by omega, Nat.mul_add]
    have : b (a + (n + 1)) * (256 ^ n * 256) = 256 * (b (a + (n + 1)) * 256 ^ n) := by rw [← Nat.mul_assoc, Nat.mul_comm]
    omega
theorem num_dig (x n : Nat) : num (fun i => x / 256 ^ i % 256) 0 n = x % 256 ^ n := by
  induction n with
  | zero => simp [num, Nat.mod_one]
  | succ n ih =>
    rw [num, ih, Nat.pow_succ, Nat.mod_mul]
    simp [Nat.mul_comm]
/-- a byte of a page -/
def byt (c : Nat → Nat) (i : Nat) : Nat := c (i / 8) / 256 ^ (i % 8) % 256
theorem byt_lt (c : Nat → Nat) : B8 (byt c) := fun i => Nat.mod_lt _ (by omega)
theorem num_byt (c : Nat → Nat) (k : Nat) (h : c k < 18446744073709551616) : num (byt c) (k * 8) 8 = c k := by
  rw [num_congr (d := fun i => c k / 256 ^ i % 256) (e := 0) 8 (fun i hi => by
    unfold byt
    rw [show (k * 8 + i) / 8 = k from by omega, show (k * 8 + i) % 8 = i from by omega]
    simp), num_dig]
  exact Nat.mod_eq_of_lt h
/-- a byte of a number in bytes -/
theorem byt_num {b : Nat → Nat} (hb : B8 b) (a n i : Nat) (h : i < n) : num b a n / 256 ^ i % 256 = b (a + i) := by
  induction n generalizing a i with
  | zero => omega
  | succ n ih =>
    rw [num_cons]
    have h1 := hb a
    rcases i with _ | i
    · simp; omega
    · rw [Nat.pow_succ, Nat.mul_comm (256 ^ i) 256, ← Nat.div_div_eq_div_mul, show (b a + 256 * num b (a + 1) n) / 256 = num b (a + 1) n from by omega, ih (a + 1) i (by omega)]
      congr 1; omega
/-- the page of bytes -/
def wrd (b : Nat → Nat) (w : Nat) : Nat := num b (w * 8) 8
theorem wrd_lt {b : Nat → Nat} (hb : B8 b) (w : Nat) : wrd b w < 18446744073709551616 := num_lt hb _ 8
theorem byt_wrd {b : Nat → Nat} (hb : B8 b) (i : Nat) : byt (wrd b) i = b i := by
  unfold byt wrd
  rw [byt_num hb _ _ _ (by omega)]
  congr 1; omega
/-- bytes a to a + n - 1 are those of v -/
def pb (b : Nat → Nat) (a n v : Nat) (i : Nat) : Nat := if a ≤ i ∧ i < a + n then v / 256 ^ (i - a) % 256 else b i
theorem pb_lt {b : Nat → Nat} (hb : B8 b) (a n v : Nat) : B8 (pb b a n v) := fun i => by
  unfold pb; split
  · exact Nat.mod_lt _ (by omega)
  · exact hb i
theorem or_num {x y n : Nat} (hn : n < 8) (hx : x < 256 ^ n) (hy : y < 256) : bits BinOp.or IntKind.u64 (x : Int) ((y * 256 ^ n : Nat) : Int) = ((x + y * 256 ^ n : Nat) : Int) := by
  have h1 : (256 : Nat) ^ n * 256 ≤ 256 ^ 8 := by rw [← Nat.pow_succ]; exact Nat.pow_le_pow_right (by omega) (by omega)
  have h2 : y * 256 ^ n ≤ 255 * 256 ^ n := Nat.mul_le_mul_right _ (by omega)
  have h3 : (256 : Nat) ^ 8 = 18446744073709551616 := by decide
  have e : (256 : Nat) ^ n = 2 ^ (8 * n) := by rw [Nat.pow_mul]
  have a1 : (x : Int) < 2 ^ (8 * n) := by rw [e] at hx; exact_mod_cast hx
  have a2 : (x : Int) < 2 ^ 64 := by omega
  have a3 : ((y * 256 ^ n : Nat) : Int) % 2 ^ (8 * n) = 0 := by
    have : (y * 256 ^ n) % 2 ^ (8 * n) = 0 := by rw [e]; exact Nat.mul_mod_left _ _
    exact_mod_cast this
  have a4 : ((y * 256 ^ n : Nat) : Int) < 2 ^ 64 := by omega
  rw [bits_join_low .u64 64 (by decide) wraps_u64 (8 * n) (x : Int) ((y * 256 ^ n : Nat) : Int) (by omega) a1 a2 (by omega) a3 a4]
  exact (Int.natCast_add _ _).symm
theorem num_or {b : Nat → Nat} (hb : B8 b) (a k : Nat) (hk : k < 8) : bits BinOp.or IntKind.u64 (num b a k : Int) (IntKind.u64.wrap (IntKind.u64.wrap (b (a + k) : Int) * 2 ^ (k * 8))) = (num b a (k + 1) : Int) := by
  have h0 := hb (a + k)
  have h1 : (256 : Nat) ^ k * 256 ≤ 256 ^ 8 := by rw [← Nat.pow_succ]; exact Nat.pow_le_pow_right (by omega) (by omega)
  have h2 : b (a + k) * 256 ^ k ≤ 255 * 256 ^ k := Nat.mul_le_mul_right _ (by omega)
  have h3 : (256 : Nat) ^ 8 = 18446744073709551616 := by decide
  have e : (2 : Int) ^ (k * 8) = ((256 ^ k : Nat) : Int) := by rw [show (256 : Nat) ^ k = 2 ^ (k * 8) from by rw [Nat.mul_comm, Nat.pow_mul], Int.natCast_pow]; rfl
  have w1 : IntKind.u64.wrap (b (a + k) : Int) = (b (a + k) : Int) := wraps_u64 _ (by omega) (by omega)
  rw [w1, e, ← Int.natCast_mul, wraps_u64 _ (by omega) (by omega), or_num hk (num_lt hb a k) h0]
  rfl
/-- a number turned left by k bits -/
def rot (k x : Nat) : Nat := x * 2 ^ k % 18446744073709551616 + x / 2 ^ (64 - k)
theorem rot_step0 (A M x : Nat) (hM : 0 < M) (hx : x < 2 * M * A) :
    (x * A % (2 * M * A) + x / (2 * M)) * 2 % (2 * M * A) + (x * A % (2 * M * A) + x / (2 * M)) / (M * A) = x * (2 * A) % (2 * M * A) + x / M := by
  have e1 : x * A % (2 * M * A) = x % (2 * M) * A := Nat.mul_mod_mul_right _ _ _
  have e2 : x * (2 * A) % (2 * M * A) = x % M * (2 * A) := by rw [show 2 * M * A = M * (2 * A) from by rw [Nat.mul_comm 2 M, Nat.mul_assoc]]; exact Nat.mul_mod_mul_right _ _ _
  have q1 : x / (2 * M) < A := Nat.div_lt_of_lt_mul (by rw [Nat.mul_comm] at hx; rwa [Nat.mul_comm A] at hx)
  have e3 : x % (2 * M) = x % M + M * (x / M % 2) := by rw [Nat.mul_comm 2 M, Nat.mod_mul]
  have e4 : x / (2 * M) = x / M / 2 := by rw [Nat.mul_comm, Nat.div_div_eq_div_mul]
  have r1 : x % M < M := Nat.mod_lt _ hM
  rw [e1, e2, e3, e4]
  rw [e4] at q1
  generalize x % M = r at *
  generalize x / M = d at *
  have hd : d = d / 2 * 2 + d % 2 := by omega
  have ht : d % 2 < 2 := by omega
  generalize d % 2 = t at *
  generalize d / 2 = q at *
  subst hd
  have k1 : r * A + A ≤ M * A := by rw [← Nat.succ_mul]; exact Nat.mul_le_mul_right _ r1
  have e5 : (r + M * t) * A + q = t * (M * A) + (r * A + q) := by rw [Nat.add_mul, Nat.mul_comm M t, Nat.mul_assoc]; omega
  have e6 : 2 * M * A = 2 * (M * A) := Nat.mul_assoc _ _ _
  have e7 : r * (2 * A) = 2 * (r * A) := by rw [Nat.mul_left_comm]
  rw [e5, e6, e7]
  generalize M * A = N at *
  generalize r * A = s at *
  have hs : s + q < N := by omega
  rcases (show t = 0 ∨ t = 1 by omega) with rfl | rfl
  · rw [Nat.zero_mul, Nat.zero_add, Nat.mod_eq_of_lt (by omega), Nat.div_eq_of_lt (by omega)]; omega
  · rw [Nat.one_mul]
    have : (N + (s + q)) / N = 1 := by rw [Nat.add_comm, Nat.add_div_right _ (by omega), Nat.div_eq_of_lt (by omega)]
    rw [this, show (N + (s + q)) * 2 = 2 * (s + q) + 2 * N from by omega, Nat.add_mod_right, Nat.mod_eq_of_lt (by omega)]
    omega
theorem rot_zero (x : Nat) (hx : x < 18446744073709551616) : rot 0 x = x := by unfold rot; rw [Nat.pow_zero, Nat.mul_one, Nat.mod_eq_of_lt hx, Nat.div_eq_of_lt hx]; rfl
theorem rot_lt (k x : Nat) (hk : k < 64) (hx : x < 18446744073709551616) : rot k x < 18446744073709551616 := by
  unfold rot
  have h : (18446744073709551616 : Nat) = 2 ^ (64 - k) * 2 ^ k := by rw [← Nat.pow_add, show 64 - k + k = 64 from by omega]
  have e1 : x * 2 ^ k % 18446744073709551616 = x % 2 ^ (64 - k) * 2 ^ k := by rw [h]; exact Nat.mul_mod_mul_right _ _ _
  have e2 : x / 2 ^ (64 - k) < 2 ^ k := Nat.div_lt_of_lt_mul (by rw [← h]; exact hx)
  have e3 : x % 2 ^ (64 - k) < 2 ^ (64 - k) := Nat.mod_lt _ (Nat.pow_pos (by omega))
  have e4 : x % 2 ^ (64 - k) * 2 ^ k + 2 ^ k ≤ 2 ^ (64 - k) * 2 ^ k := by rw [← Nat.succ_mul]; exact Nat.mul_le_mul_right _ e3
  rw [e1]; omega
theorem rot_step (k x : Nat) (hk : k < 63) (hx : x < 18446744073709551616) : rot k x * 2 % 18446744073709551616 + rot k x / 9223372036854775808 = rot (k + 1) x := by
  have h : (18446744073709551616 : Nat) = 2 * 2 ^ (63 - k) * 2 ^ k := by rw [Nat.mul_assoc, ← Nat.pow_add, show 63 - k + k = 63 from by omega]
  have h' : (9223372036854775808 : Nat) = 2 ^ (63 - k) * 2 ^ k := by rw [← Nat.pow_add, show 63 - k + k = 63 from by omega]
  have := rot_step0 (2 ^ k) (2 ^ (63 - k)) x (Nat.pow_pos (by omega)) (by rw [← h]; exact hx)
  rw [← h, ← h'] at this
  unfold rot
  rw [show 64 - k = 63 - k + 1 from by omega, show 64 - (k + 1) = 63 - k from by omega, show (2 : Nat) ^ (63 - k + 1) = 2 ^ (63 - k) * 2 from rfl, show (2 : Nat) ^ (k + 1) = 2 ^ k * 2 from rfl, Nat.mul_comm (2 ^ (63 - k)) 2, Nat.mul_comm (2 ^ k) 2]
  exact this
theorem cast_shr (x m : Nat) : (x : Int) / 2 ^ m % 256 = ((x / 2 ^ m % 256 : Nat) : Int) := by
  simp only [Int.natCast_emod, Int.natCast_ediv, Int.natCast_pow]
  rfl
end Go.Proofs.Ytfclbnaabdlmhaa
