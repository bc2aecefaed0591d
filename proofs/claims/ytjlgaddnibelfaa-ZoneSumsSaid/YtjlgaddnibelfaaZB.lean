import Derived.Test.YtjlgaddnibelfaaZA
namespace Go.Proofs.Ytjlgaddnibelfaa
open Go.RowKit

theorem tmod_lt (n m : Int) (h : 1 ≤ m) : -m < n.tmod m ∧ n.tmod m < m := by
  have := Int.tmod_lt_of_pos n (show 0 < m by omega)
  have h2 := Int.lt_tmod_of_pos n (show 0 < m by omega)
  omega
theorem tmod_neg (n m : Int) (h : 1 ≤ m) (h2 : n.tmod m < 0) : n.tmod m + m = n % m := by
  rw [Int.emod_eq_tmod]
  have : ¬ (0 ≤ n ∨ m ∣ n) := by
    rintro (h3 | h3)
    · have := Int.tmod_nonneg m h3; omega
    · have := Int.tmod_eq_zero_of_dvd h3; omega
  rw [if_neg this]
  omega
theorem tmod_pos (n m : Int) (h2 : 0 ≤ n.tmod m) : n.tmod m = n % m := by
  rw [Int.emod_eq_tmod]
  by_cases h3 : 0 ≤ n ∨ m ∣ n
  · rw [if_pos h3]; omega
  · exfalso
    have h4 : ¬ 0 ≤ n := fun x => h3 (.inl x)
    have h5 : n.tmod m ≠ 0 := fun x => h3 (.inr (Int.dvd_of_tmod_eq_zero x))
    have h6 : n.tmod m ≤ 0 := by
      have := Int.tmod_nonneg m (show 0 ≤ -n by omega)
      rw [Int.neg_tmod] at this
      omega
    omega
set_option maxHeartbeats 400000 in
theorem mod_any (n m : Int) (w : World) (h1 : 1 ≤ m) (h2 : m ≤ 1099511627776) : Calls Try.prog 31 #[.int .i64 n, .int .i64 m] w fun e w' => e = .returned (.int .i64 (n % m)) ∧ w = w' := by
  obtain ⟨t1, t2⟩ := tmod_lt n m h1
  have t3 := Lib.hid (tmod_neg n m h1)
  have t4 := Lib.hid (tmod_pos n m)
  have t5 : IntKind.i64.wrap (n.tmod m) = n.tmod m := IntWalk.i64_in _ (by omega)
  have hm : (m == 0) = false := by simp; omega
  go_enter Try.func31, Try.ntmps31
  go_wp2
  · go_ret
    exact ⟨ret_i64 (t3.out (by omega)), rfl⟩
  · go_ret
    exact ⟨ret_i64 (t4.out (by omega)), rfl⟩
/-- what is made of a number: valid marks, a class and FREE -/
def MadeIs (w : World) (e : Ending) (w' : World) : Prop :=
  ∃ mn lo hi c free : Int, e = .returned (.tuple #[mk mn lo hi, .int .i64 c, .int .i64 free]) ∧ 0 ≤ mn ∧ mn ≤ 19 ∧ mn < lo ∧ lo ≤ mn + 20 ∧ lo < hi ∧ hi ≤ lo + 20 ∧ 1 ≤ c ∧ c ≤ 3 ∧ 0 ≤ free ∧ free ≤ 99 ∧ Below w.heap.size w w'
set_option maxHeartbeats 400000 in
theorem made_any (n : Int) (w : World) : Calls Try.prog 30 #[.int .i64 n] w (MadeIs w) := by
  have HM := Lib.hid fun W => mod_any n 1073741824 W (by omega) (by omega)
  have h0 : 0 ≤ n % 1073741824 ∧ n % 1073741824 < 1073741824 := by omega
  obtain ⟨h1, h2⟩ := h0
  generalize n % 1073741824 = k at *
  go_enter Try.func30, Try.ntmps30
  go_wp2_with (go_at_call 31; refine (HM.out _).mono ?_; rintro e w' ⟨rfl, rfl⟩)
  refine bodyPost_ret (v := .tuple #[mk (k % 20) (k % 20 + 1 + k / 20 % 20) (k % 20 + 1 + k / 20 % 20 + 1 + k / 400 % 20), .int .i64 (1 + k / 8000 % 3), .int .i64 (k / 24000 % 100)]) (by simp [results, Try.results30, go_sem]) rfl ⟨_, _, _, _, _, rfl, by omega, by omega, by omega, by omega, by omega, by omega, by omega, by omega, by omega, by omega, ?_⟩
  repeat (first | exact al1 _ _ | exact Below.refl _ _ | (refine Below.setCell ?_ (by simp) _) | (refine Below.alloc ?_ (by simp) _))
/-- the value of Take, where all is well -/
theorem take_at {mn lo hi c free n : Int} (h : 0 ≤ mn ∧ mn < lo ∧ lo < hi ∧ hi ≤ 256 ∧ 1 ≤ c ∧ c ≤ 3 ∧ 0 ≤ free ∧ free ≤ 256 ∧ 0 ≤ n ∧ n ≤ 256) (W : World) :
    Calls Try.prog 13 #[mk mn lo hi, .int .i64 c, .int .i64 free, .int .i64 n] W fun e w' => e = .returned (.tuple #[.int .i64 (gotV mn hi c free n), .int .i64 (free - gotV mn hi c free n), .int .i64 0]) ∧ Below W.heap.size W w' := by
  have t := take_any mn lo hi c free n W
  have e := chkE_of h
  rw [show takeG mn lo hi c free n = gotV mn hi c free n by unfold takeG; rw [if_pos e], show takeL mn lo hi c free n = free - gotV mn hi c free n by unfold takeL; rw [if_pos e], e] at t
  exact t
theorem need_at {mn lo hi c free n : Int} (h : 0 ≤ mn ∧ mn < lo ∧ lo < hi ∧ hi ≤ 256 ∧ 1 ≤ c ∧ c ≤ 3 ∧ 0 ≤ free ∧ free ≤ 256 ∧ 0 ≤ n ∧ n ≤ 256) (W : World) :
    Calls Try.prog 15 #[mk mn lo hi, .int .i64 c, .int .i64 free, .int .i64 n] W fun e w' => e = .returned (.tuple #[.int .i64 (if n = 0 then 0 else max (flr mn hi c + n - free) 0), .int .i64 0]) ∧ Below W.heap.size W w' := by
  have t := needs_any mn lo hi c free n W
  have e := chkE_of h
  rw [show needV mn lo hi c free n = if n = 0 then 0 else max (flr mn hi c + n - free) 0 by unfold needV; simp [e], e] at t
  exact t
theorem may_at2 {mn lo hi c free : Int} (h : 0 ≤ mn ∧ mn < lo ∧ lo < hi ∧ hi ≤ 256 ∧ 1 ≤ c ∧ c ≤ 3 ∧ 0 ≤ free ∧ free ≤ 256) (W : World) :
    Calls Try.prog 9 #[mk mn lo hi, .int .i64 c, .int .i64 free] W fun e w' => e = .returned (.tuple #[.bool (decide (flr mn hi c < free)), .int .i64 0]) ∧ Below W.heap.size W w' := by
  have t := may_any mn lo hi c free W
  have e := chkE_of (mn := mn) (lo := lo) (hi := hi) (c := c) (free := free) (n := 1) (by omega)
  rw [may_is e, e] at t
  exact t
end Go.Proofs.Ytjlgaddnibelfaa
