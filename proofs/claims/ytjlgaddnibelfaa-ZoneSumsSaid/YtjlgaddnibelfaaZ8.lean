import Derived.Test.YtjlgaddnibelfaaZ7
namespace Go.Proofs.Ytjlgaddnibelfaa
open Go.RowKit

theorem marks_any (w : World) : Calls Try.prog 24 #[] w fun e w' => e = .returned (mk 3 6 10) ∧ Below w.heap.size w w' := by
  go_enter Try.func24, Try.ntmps24
  go_wp2
  exact bodyPost_ret (v := mk 3 6 10) (by simp [results, Try.results24, go_sem]) rfl ⟨rfl, al1 _ _⟩
def mayB (c free : Int) : Bool := (takeG 3 6 10 c free 1 == 1) && chkE 3 6 10 c free 1 == 0
def takeB (c free n g l : Int) : Bool := (chkE 3 6 10 c free n == 0 && takeG 3 6 10 c free n == g) && takeL 3 6 10 c free n == l
def needB (c free n x : Int) : Bool := chkE 3 6 10 c free n == 0 && needV 3 6 10 c free n == x
def levB (free x : Int) : Bool := chkE 3 6 10 1 free 0 == 0 && levV 3 6 10 free == x
def wakeB (free : Int) (was x : Bool) : Bool := chkE 3 6 10 1 free 0 == 0 && awkV 3 6 10 free was == x
set_option maxHeartbeats 400000 in
theorem may2_any (c free : Int) (w : World) : Calls Try.prog 25 #[.int .i64 c, .int .i64 free] w fun e w' => e = .returned (.bool (mayB c free)) ∧ Below w.heap.size w w' := by
  unfold mayB
  have H := Lib.hid fun W => may_any 3 6 10 c free W
  have HM := Lib.hid marks_any
  generalize (takeG 3 6 10 c free 1 == 1) = x at *
  generalize chkE 3 6 10 c free 1 = y at *
  go_enter Try.func25, Try.ntmps25
  go_wp2_with fail
  refine (HM.out _).mono ?_
  rintro e w1 ⟨rfl, hb1⟩
  go_wp2_with fail
  refine (H.out _).mono ?_
  rintro e w2 ⟨rfl, hb2⟩
  go_wp2
  all_goals
    go_ret
    exact ⟨ret_b (by simp [*]), hb1.trans (hb2.mono hb1.size)⟩
set_option maxHeartbeats 400000 in
theorem takes_any (c free n g l : Int) (w : World) : Calls Try.prog 26 #[.int .i64 c, .int .i64 free, .int .i64 n, .int .i64 g, .int .i64 l] w fun e w' => e = .returned (.bool (takeB c free n g l)) ∧ Below w.heap.size w w' := by
  unfold takeB
  have H := Lib.hid fun W => take_any 3 6 10 c free n W
  have HM := Lib.hid marks_any
  generalize takeG 3 6 10 c free n = x at *
  generalize takeL 3 6 10 c free n = z at *
  generalize chkE 3 6 10 c free n = y at *
  go_enter Try.func26, Try.ntmps26
  go_wp2_with fail
  refine (HM.out _).mono ?_
  rintro e w1 ⟨rfl, hb1⟩
  go_wp2_with fail
  refine (H.out _).mono ?_
  rintro e w2 ⟨rfl, hb2⟩
  go_wp2
  all_goals
    go_ret
    exact ⟨ret_b (by simp [*]), hb1.trans (hb2.mono hb1.size)⟩
set_option maxHeartbeats 400000 in
theorem needs2_any (c free n x : Int) (w : World) : Calls Try.prog 27 #[.int .i64 c, .int .i64 free, .int .i64 n, .int .i64 x] w fun e w' => e = .returned (.bool (needB c free n x)) ∧ Below w.heap.size w w' := by
  unfold needB
  have H := Lib.hid fun W => needs_any 3 6 10 c free n W
  have HM := Lib.hid marks_any
  generalize needV 3 6 10 c free n = z at *
  generalize chkE 3 6 10 c free n = y at *
  go_enter Try.func27, Try.ntmps27
  go_wp2_with fail
  refine (HM.out _).mono ?_
  rintro e w1 ⟨rfl, hb1⟩
  go_wp2_with fail
  refine (H.out _).mono ?_
  rintro e w2 ⟨rfl, hb2⟩
  go_wp2
  all_goals
    go_ret
    exact ⟨ret_b (by simp [*]), hb1.trans (hb2.mono hb1.size)⟩
set_option maxHeartbeats 400000 in
theorem level2_any (free x : Int) (w : World) : Calls Try.prog 28 #[.int .i64 free, .int .i64 x] w fun e w' => e = .returned (.bool (levB free x)) ∧ Below w.heap.size w w' := by
  unfold levB
  have H := Lib.hid fun W => level_any 3 6 10 free W
  have HM := Lib.hid marks_any
  generalize levV 3 6 10 free = z at *
  generalize chkE 3 6 10 1 free 0 = y at *
  go_enter Try.func28, Try.ntmps28
  go_wp2_with fail
  refine (HM.out _).mono ?_
  rintro e w1 ⟨rfl, hb1⟩
  go_wp2_with fail
  refine (H.out _).mono ?_
  rintro e w2 ⟨rfl, hb2⟩
  go_wp2
  all_goals
    go_ret
    exact ⟨ret_b (by simp [*]), hb1.trans (hb2.mono hb1.size)⟩
set_option maxHeartbeats 400000 in
theorem wakes_any (free : Int) (was x : Bool) (w : World) : Calls Try.prog 29 #[.int .i64 free, .bool was, .bool x] w fun e w' => e = .returned (.bool (wakeB free was x)) ∧ Below w.heap.size w w' := by
  unfold wakeB
  have H := Lib.hid fun W => awk_any 3 6 10 free was W
  have HM := Lib.hid marks_any
  generalize awkV 3 6 10 free was = z at *
  generalize chkE 3 6 10 1 free 0 = y at *
  go_enter Try.func29, Try.ntmps29
  go_wp2_with fail
  refine (HM.out _).mono ?_
  rintro e w1 ⟨rfl, hb1⟩
  go_wp2_with fail
  refine (H.out _).mono ?_
  rintro e w2 ⟨rfl, hb2⟩
  go_wp2
  all_goals
    go_ret
    exact ⟨ret_b (by simp [*]), hb1.trans (hb2.mono hb1.size)⟩
set_option maxHeartbeats 400000 in
theorem awake_any (w : World) : Calls Try.prog 17 #[] w fun e w' => e = .returned (.bool true) ∧ Below w.heap.size w w' := by
  have H5 : Hid (∀ c f W w0, Ev w0 W → Calls Try.prog 25 #[.int .i64 c, .int .i64 f] W fun e w' => e = .returned (.bool (mayB c f)) ∧ Ev w0 w') := Lib.hid fun c f W w0 h => ev_call h (may2_any c f W)
  have H6 : Hid (∀ c f n g l W w0, Ev w0 W → Calls Try.prog 26 #[.int .i64 c, .int .i64 f, .int .i64 n, .int .i64 g, .int .i64 l] W fun e w' => e = .returned (.bool (takeB c f n g l)) ∧ Ev w0 w') := Lib.hid fun c f n g l W w0 h => ev_call h (takes_any c f n g l W)
  have H7 : Hid (∀ c f n g W w0, Ev w0 W → Calls Try.prog 27 #[.int .i64 c, .int .i64 f, .int .i64 n, .int .i64 g] W fun e w' => e = .returned (.bool (needB c f n g)) ∧ Ev w0 w') := Lib.hid fun c f n g W w0 h => ev_call h (needs2_any c f n g W)
  have H8 : Hid (∀ f g W w0, Ev w0 W → Calls Try.prog 28 #[.int .i64 f, .int .i64 g] W fun e w' => e = .returned (.bool (levB f g)) ∧ Ev w0 w') := Lib.hid fun f g W w0 h => ev_call h (level2_any f g W)
  have H9 : Hid (∀ f g l W w0, Ev w0 W → Calls Try.prog 29 #[.int .i64 f, .bool g, .bool l] W fun e w' => e = .returned (.bool (wakeB f g l)) ∧ Ev w0 w') := Lib.hid fun f g l W w0 h => ev_call h (wakes_any f g l W)
  have H4 : Hid (∀ W w0, Ev w0 W → Calls Try.prog 24 #[] W fun e w' => e = .returned (mk 3 6 10) ∧ Ev w0 w') := Lib.hid fun W w0 h => ev_call h (marks_any W)
  have H1 : Hid (∀ W w0, Ev w0 W → Calls Try.prog 11 #[mk 3 6 10, .int .i64 20] W fun e w' => e = .returned (.int .i64 0) ∧ Ev w0 w') := Lib.hid fun W w0 h => ev_call h (zcheck_any 3 6 10 20 W)
  have t1 : mayB 1 4 = true := by decide
  have t2 : mayB 1 3 = false := by decide
  have t3 : takeB 1 6 5 3 3 = true := by decide
  have t4 : needB 1 6 5 2 = true := by decide
  have t5 : levB 9 1 = true := by decide
  have t6 : wakeB 5 false true = true := by decide
  have hev := Ev.refl w
  go_enter Try.func17, Try.ntmps17
  go_wp2_with (first
    | (go_at_call 25; refine (H5.out _ _ _ _ hev).mono ?_; clear hev; rintro e w' ⟨rfl, hev⟩)
    | (go_at_call 26; refine (H6.out _ _ _ _ _ _ _ hev).mono ?_; clear hev; rintro e w' ⟨rfl, hev⟩)
    | (go_at_call 27; refine (H7.out _ _ _ _ _ _ hev).mono ?_; clear hev; rintro e w' ⟨rfl, hev⟩)
    | (go_at_call 28; refine (H8.out _ _ _ _ hev).mono ?_; clear hev; rintro e w' ⟨rfl, hev⟩)
    | (go_at_call 29; refine (H9.out _ _ _ _ _ hev).mono ?_; clear hev; rintro e w' ⟨rfl, hev⟩)
    | (go_at_call 24; refine (H4.out _ _ hev).mono ?_; clear hev; rintro e w' ⟨rfl, hev⟩)
    | (go_at_call 11; refine (H1.out _ _ hev).mono ?_; clear hev; rintro e w' ⟨rfl, hev⟩))
  go_ret
  exact ⟨rfl, hev⟩
end Go.Proofs.Ytjlgaddnibelfaa
