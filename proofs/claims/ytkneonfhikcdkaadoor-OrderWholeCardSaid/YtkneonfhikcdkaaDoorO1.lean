import Derived.Test.YtkneonfhikcdkaaDoorG1
import Derived.Test.YtkneonfhikcdkaaDoorO0
namespace Go.Proofs.YtkneonfhikcdkaaDoor
open Go.RowKit

/-- a block, as the model holds it -/
abbrev bk (x o : Int) : Value := .agg #[.int .i64 x, .int .i64 o]

/-! sizes -/
theorem sz_cases {o : Int} (h : 0 ≤ o) (h2 : o ≤ 6) : o = 0 ∨ o = 1 ∨ o = 2 ∨ o = 3 ∨ o = 4 ∨ o = 5 ∨ o = 6 := by omega
set_option maxHeartbeats 400000 in
theorem size_any (o : Int) (w : World) (h : 0 ≤ o) (h2 : o ≤ 6) : Calls Tryd.prog 39 #[.int .i64 o] w fun e w' => e = .returned (.int .i64 (sz o)) ∧ w = w' := by
  rcases sz_cases h h2 with rfl | rfl | rfl | rfl | rfl | rfl | rfl
  all_goals
    go_enter Tryd.func39, Tryd.ntmps39
    go_wp2
    go_ret
    exact ⟨rfl, rfl⟩
set_option maxHeartbeats 400000 in
theorem rsize_any (o : Int) (w : World) (h : 0 ≤ o) (h2 : o ≤ 6) : Calls Tryd.prog 40 #[.int .i64 o] w fun e w' => e = .returned (.int .i64 (sz o)) ∧ w = w' := by
  rcases sz_cases h h2 with rfl | rfl | rfl | rfl | rfl | rfl | rfl
  all_goals
    go_enter Tryd.func40, Tryd.ntmps40
    go_wp2
    refine wp_loop_rounds 7 ?_
    repeat (rw [rounds_succ]; go_wp2)
    go_ret
    exact ⟨rfl, rfl⟩
def sizE (o : Int) : Int := if o < 0 ∨ 6 < o then 2 else 0
def sizV (o : Int) : Int := if o < 0 ∨ 6 < o then 0 else sz o
set_option maxHeartbeats 400000 in
theorem Size_any (o : Int) (w : World) : Calls Tryd.prog 15 #[.int .i64 o] w fun e w' => e = .returned (.tuple #[.int .i64 (sizV o), .int .i64 (sizE o)]) ∧ w = w' := by
  by_cases h : o < 0 ∨ 6 < o
  · have e1 : sizV o = 0 := by unfold sizV; rw [if_pos h]
    have e2 : sizE o = 2 := by unfold sizE; rw [if_pos h]
    rw [e1, e2]
    clear e1 e2
    go_enter Tryd.func15, Tryd.ntmps15
    go_wp2_with fail
    all_goals first | (exfalso; omega) | (go_ret2; exact ⟨rfl, rfl⟩)
  · have e1 : sizV o = sz o := by unfold sizV; rw [if_neg h]
    have e2 : sizE o = 0 := by unfold sizE; rw [if_neg h]
    rw [e1, e2]
    have H := Lib.hid fun W => size_any o W (by omega) (by omega)
    clear e1 e2
    go_enter Tryd.func15, Tryd.ntmps15
    go_wp2_with (go_at_call 39; refine (H.out _).mono ?_; rintro e w' ⟨rfl, rfl⟩)
    all_goals first | (exfalso; omega) | (go_ret2; exact ⟨rfl, rfl⟩)
set_option maxHeartbeats 400000 in
theorem rSize_any (o : Int) (w : World) : Calls Tryd.prog 16 #[.int .i64 o] w fun e w' => e = .returned (.tuple #[.int .i64 (sizV o), .int .i64 (sizE o)]) ∧ w = w' := by
  by_cases h : o < 0 ∨ 6 < o
  · have e1 : sizV o = 0 := by unfold sizV; rw [if_pos h]
    have e2 : sizE o = 2 := by unfold sizE; rw [if_pos h]
    rw [e1, e2]
    clear e1 e2
    go_enter Tryd.func16, Tryd.ntmps16
    go_wp2_with fail
    all_goals first | (exfalso; omega) | (go_ret2; exact ⟨rfl, rfl⟩)
  · have e1 : sizV o = sz o := by unfold sizV; rw [if_neg h]
    have e2 : sizE o = 0 := by unfold sizE; rw [if_neg h]
    rw [e1, e2]
    have H := Lib.hid fun W => rsize_any o W (by omega) (by omega)
    clear e1 e2
    go_enter Tryd.func16, Tryd.ntmps16
    go_wp2_with (go_at_call 40; refine (H.out _).mono ?_; rintro e w' ⟨rfl, rfl⟩)
    all_goals first | (exfalso; omega) | (go_ret2; exact ⟨rfl, rfl⟩)
/-! blocks -/
set_option maxHeartbeats 1000000 in
theorem check_any (x o : Int) (w : World) : Calls Tryd.prog 22 #[bk x o] w fun e w' => e = .returned (.int .i64 (blkE x o)) ∧ Below w.heap.size w w' := by
  by_cases h : o < 0 ∨ 6 < o ∨ x < 0
  · have e : blkE x o = 2 := by unfold blkE; rw [if_pos h]
    rw [e]
    clear e
    go_enter Tryd.func22, Tryd.ntmps22
    go_wp2_with fail
    all_goals first | (exfalso; omega) | (go_ret; exact ⟨rfl, al1 _ _⟩)
  · have e : blkE x o = if x % sz o ≠ 0 then 13 else if 256 - sz o < x then 2 else 0 := by unfold blkE; rw [if_neg h]
    rw [e]
    have HZ := Lib.hid fun W => size_any o W (by omega) (by omega)
    obtain ⟨z1, z2⟩ := sz_bd o
    generalize sz o = z at *
    have x0 : 0 ≤ x := by omega
    have o0 : 0 ≤ o := by omega
    have o6 : o ≤ 6 := by omega
    clear e h
    have HB : Hid (∀ n, Below w.heap.size w ((w.alloc (.cells #[.int .i64 x, .int .i64 o] 28)).drewN n)) := Lib.hid fun n => below_drewN (al1 _ _) n
    by_cases hm : x % z = 0
    · rw [if_neg (by simp [hm])]
      have hm' : (x % z != 0) = false := by simp [hm]
      clear hm
      by_cases hg : 256 - z < x
      · rw [if_pos hg]
        go_enter Tryd.func22, Tryd.ntmps22
        go_wp2_with fail
        go_quiet ((go_at_call 39; first | exact q1 fun W => HZ.out W | exact q2 fun W => HZ.out W))
        go_wp2_with fail
        go_quiet ((go_at_call 39; first | exact q1 fun W => HZ.out W | exact q2 fun W => HZ.out W))
        go_wp2_with fail
        go_ret
        exact ⟨rfl, by repeat (first | exact HB.out _ | apply below_drewN)⟩
      · rw [if_neg hg]
        have hg' : decide (256 - z < x) = false := decide_eq_false hg
        clear hg
        go_enter Tryd.func22, Tryd.ntmps22
        go_wp2_with fail
        go_quiet ((go_at_call 39; first | exact q1 fun W => HZ.out W | exact q2 fun W => HZ.out W))
        go_wp2_with fail
        go_quiet ((go_at_call 39; first | exact q1 fun W => HZ.out W | exact q2 fun W => HZ.out W))
        go_wp2_with fail
        go_ret
        exact ⟨rfl, by repeat (first | exact HB.out _ | apply below_drewN)⟩
    · rw [if_pos hm]
      have hm' : (x % z != 0) = true := by simpa using hm
      clear hm
      go_enter Tryd.func22, Tryd.ntmps22
      go_wp2_with fail
      go_quiet ((go_at_call 39; first | exact q1 fun W => HZ.out W | exact q2 fun W => HZ.out W))
      go_wp2_with fail
      go_ret
      exact ⟨rfl, by repeat (first | exact HB.out _ | apply below_drewN)⟩
set_option maxHeartbeats 1000000 in
theorem rcheck_any (x o : Int) (w : World) : Calls Tryd.prog 23 #[bk x o] w fun e w' => e = .returned (.int .i64 (blkE x o)) ∧ Below w.heap.size w w' := by
  by_cases h : o < 0 ∨ 6 < o ∨ x < 0
  · have e : blkE x o = 2 := by unfold blkE; rw [if_pos h]
    rw [e]
    clear e
    go_enter Tryd.func23, Tryd.ntmps23
    go_wp2_with fail
    all_goals first | (exfalso; omega) | (go_ret; exact ⟨rfl, al1 _ _⟩)
  · have e : blkE x o = if x % sz o ≠ 0 then 13 else if 256 - sz o < x then 2 else 0 := by unfold blkE; rw [if_neg h]
    rw [e]
    have HZ := Lib.hid fun W => rsize_any o W (by omega) (by omega)
    obtain ⟨z1, z2⟩ := sz_bd o
    generalize sz o = z at *
    have x0 : 0 ≤ x := by omega
    have o0 : 0 ≤ o := by omega
    have o6 : o ≤ 6 := by omega
    clear e h
    have HB : Hid (∀ n, Below w.heap.size w ((w.alloc (.cells #[.int .i64 x, .int .i64 o] 28)).drewN n)) := Lib.hid fun n => below_drewN (al1 _ _) n
    by_cases hm : x % z = 0
    · rw [if_neg (by simp [hm])]
      have hm' : (x % z != 0) = false := by simp [hm]
      clear hm
      by_cases hg : 256 - z < x
      · rw [if_pos hg]
        go_enter Tryd.func23, Tryd.ntmps23
        go_wp2_with fail
        go_quiet ((go_at_call 40; first | exact q1 fun W => HZ.out W | exact q2 fun W => HZ.out W))
        go_wp2_with fail
        go_quiet ((go_at_call 40; first | exact q1 fun W => HZ.out W | exact q2 fun W => HZ.out W))
        go_wp2_with fail
        go_ret
        exact ⟨rfl, by repeat (first | exact HB.out _ | apply below_drewN)⟩
      · rw [if_neg hg]
        have hg' : decide (256 - z < x) = false := decide_eq_false hg
        clear hg
        go_enter Tryd.func23, Tryd.ntmps23
        go_wp2_with fail
        go_quiet ((go_at_call 40; first | exact q1 fun W => HZ.out W | exact q2 fun W => HZ.out W))
        go_wp2_with fail
        go_quiet ((go_at_call 40; first | exact q1 fun W => HZ.out W | exact q2 fun W => HZ.out W))
        go_wp2_with fail
        go_ret
        exact ⟨rfl, by repeat (first | exact HB.out _ | apply below_drewN)⟩
    · rw [if_pos hm]
      have hm' : (x % z != 0) = true := by simpa using hm
      clear hm
      go_enter Tryd.func23, Tryd.ntmps23
      go_wp2_with fail
      go_quiet ((go_at_call 40; first | exact q1 fun W => HZ.out W | exact q2 fun W => HZ.out W))
      go_wp2_with fail
      go_ret
      exact ⟨rfl, by repeat (first | exact HB.out _ | apply below_drewN)⟩
end Go.Proofs.YtkneonfhikcdkaaDoor
