import Derived.Test.YtjlgaddnibelfaaZ1
import Derived.LoopN
namespace Go.Proofs.Ytjlgaddnibelfaa
open Go.RowKit

/-- A contract that leaves the world alone, inside a region that has drawn. -/
theorem q1 {P : Program} {f : FuncId} {args : Array Value} {w : World} {n : Nat} {v : Value} (c : ∀ W : World, Calls P f args W fun e w' => e = .returned v ∧ W = w') :
    Calls P f args (w.drewN n) fun e w'' => e = .returned v ∧ ∃ m, w'' = w.drewN m := (c _).mono fun _ _ h => ⟨h.1, n, h.2.symm⟩
theorem q2 {P : Program} {f : FuncId} {args : Array Value} {w : World} {a n : Nat} {v : Value} (c : ∀ W : World, Calls P f args W fun e w' => e = .returned v ∧ W = w') :
    Calls P f args (w.drewN (a + n)) fun e w'' => e = .returned v ∧ ∃ m, w'' = w.drewN (a + m) := (c _).mono fun _ _ h => ⟨h.1, n, h.2.symm⟩
theorem below_drew {B : Nat} {w w' : World} (h : Below B w w') : Below B w w'.drew := Below.drew h
theorem below_drewN {B : Nat} {w w' : World} (h : Below B w w') (n : Nat) : Below B w (w'.drewN n) := by
  induction n with
  | zero => exact h
  | succ n ih => exact Below.drew ih

theorem cmp_ge (x y : Int) (h : y ≤ x) : decide (0 ≤ cmpV x y) = true := by unfold cmpV; simp; split <;> (try split) <;> omega
theorem cmp_lt (x y : Int) (h : x < y) : decide (0 ≤ cmpV x y) = false := by unfold cmpV; simp; split <;> (try split) <;> omega

set_option maxHeartbeats 400000 in
theorem ascend_any (a b c : Int) (w : World) : Calls Try.prog 34 #[.agg #[.int .i64 a, .int .i64 b, .int .i64 c]] w fun e w' => e = .returned (.bool (decide (a < b ∧ b < c))) ∧ Below w.heap.size w w' := by
  have H := Lib.hid (cmp_any)
  have K : Hid (∀ n, Below w.heap.size w ((w.alloc (.cells #[.int .i64 a, .int .i64 b, .int .i64 c] 53)).drewN n)) := Lib.hid fun n => below_drewN ((Below.refl _ _).alloc (Nat.le_refl _) _) n
  by_cases h1 : a < b
  · have c1 := cmp_lt a b h1
    by_cases h2 : b < c
    · have c2 := cmp_lt b c h2
      go_enter Try.func34, Try.ntmps34
      go_wp2
      refine wp_loop_rounds 3 ?_
      rw [rounds_succ]
      go_wp2
      go_quiet ((go_at_call 41; first | exact q1 fun W => H.out _ _ W | exact q2 fun W => H.out _ _ W))
      go_wp2
      rw [rounds_succ]
      go_wp2
      go_quiet ((go_at_call 41; first | exact q1 fun W => H.out _ _ W | exact q2 fun W => H.out _ _ W))
      go_wp2
      rw [rounds_succ]
      go_wp2
      go_ret
      exact ⟨ret_b (decide_eq_true (by omega)).symm, by repeat (first | exact K.out _ | apply below_drewN)⟩
    · have c2 := cmp_ge b c (by omega)
      go_enter Try.func34, Try.ntmps34
      go_wp2
      refine wp_loop_rounds 3 ?_
      rw [rounds_succ]
      go_wp2
      go_quiet ((go_at_call 41; first | exact q1 fun W => H.out _ _ W | exact q2 fun W => H.out _ _ W))
      go_wp2
      rw [rounds_succ]
      go_wp2
      go_quiet ((go_at_call 41; first | exact q1 fun W => H.out _ _ W | exact q2 fun W => H.out _ _ W))
      go_wp2
      go_ret
      exact ⟨ret_b (decide_eq_false (by omega)).symm, by repeat (first | exact K.out _ | apply below_drewN)⟩
  · have c1 := cmp_ge a b (by omega)
    go_enter Try.func34, Try.ntmps34
    go_wp2
    refine wp_loop_rounds 3 ?_
    rw [rounds_succ]
    go_wp2
    go_quiet ((go_at_call 41; first | exact q1 fun W => H.out _ _ W | exact q2 fun W => H.out _ _ W))
    go_wp2
    go_ret
    exact ⟨ret_b (decide_eq_false (by omega)).symm, by repeat (first | exact K.out _ | apply below_drewN)⟩
end Go.Proofs.Ytjlgaddnibelfaa
