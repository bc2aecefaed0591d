import Derived.Test.YtjlgaddnibelfaaZ9
namespace Go.Proofs.Ytjlgaddnibelfaa
open Go.RowKit

theorem may_at (c free : Int) (b : Bool) (n : Int) (h : (takeG 3 6 10 c free 1 == 1) = b ∧ chkE 3 6 10 c free 1 = n) (W : World) : Calls Try.prog 9 #[mk 3 6 10, .int .i64 c, .int .i64 free] W fun e w' => e = .returned (.tuple #[.bool b, .int .i64 n]) ∧ Below W.heap.size W w' := by
  have := may_any 3 6 10 c free W
  rw [h.1, h.2] at this
  exact this
set_option maxRecDepth 100000 in
set_option maxHeartbeats 1000000 in
theorem known_any (w : World) : Calls Try.prog 6 #[] w fun e w' => e = .returned (.bool true) ∧ Below w.heap.size w w' := by
  have H5 : Hid (∀ c f W w0, Ev w0 W → Calls Try.prog 25 #[.int .i64 c, .int .i64 f] W fun e w' => e = .returned (.bool (mayB c f)) ∧ Ev w0 w') := Lib.hid fun c f W w0 h => ev_call h (may2_any c f W)
  have H6 : Hid (∀ c f n g l W w0, Ev w0 W → Calls Try.prog 26 #[.int .i64 c, .int .i64 f, .int .i64 n, .int .i64 g, .int .i64 l] W fun e w' => e = .returned (.bool (takeB c f n g l)) ∧ Ev w0 w') := Lib.hid fun c f n g l W w0 h => ev_call h (takes_any c f n g l W)
  have H7 : Hid (∀ c f n g W w0, Ev w0 W → Calls Try.prog 27 #[.int .i64 c, .int .i64 f, .int .i64 n, .int .i64 g] W fun e w' => e = .returned (.bool (needB c f n g)) ∧ Ev w0 w') := Lib.hid fun c f n g W w0 h => ev_call h (needs2_any c f n g W)
  have H8 : Hid (∀ f g W w0, Ev w0 W → Calls Try.prog 28 #[.int .i64 f, .int .i64 g] W fun e w' => e = .returned (.bool (levB f g)) ∧ Ev w0 w') := Lib.hid fun f g W w0 h => ev_call h (level2_any f g W)
  have H9 : Hid (∀ f g l W w0, Ev w0 W → Calls Try.prog 29 #[.int .i64 f, .bool g, .bool l] W fun e w' => e = .returned (.bool (wakeB f g l)) ∧ Ev w0 w') := Lib.hid fun f g l W w0 h => ev_call h (wakes_any f g l W)
  have H4 : Hid (∀ W w0, Ev w0 W → Calls Try.prog 24 #[] W fun e w' => e = .returned (mk 3 6 10) ∧ Ev w0 w') := Lib.hid fun W w0 h => ev_call h (marks_any W)
  have HA : Hid (∀ W w0, Ev w0 W → Calls Try.prog 17 #[] W fun e w' => e = .returned (.bool true) ∧ Ev w0 w') := Lib.hid fun W w0 h => ev_call h (awake_any W)
  have M1 : Hid (∀ W w0, Ev w0 W → Calls Try.prog 9 #[mk 3 6 10, .int .i64 4, .int .i64 5] W fun e w' => e = .returned (.tuple #[.bool false, .int .i64 16]) ∧ Ev w0 w') := Lib.hid fun W w0 h => ev_call h (may_at 4 5 false 16 (by decide) W)
  have M2 : Hid (∀ W w0, Ev w0 W → Calls Try.prog 9 #[mk 3 6 10, .int .i64 1, .int .i64 257] W fun e w' => e = .returned (.tuple #[.bool false, .int .i64 2]) ∧ Ev w0 w') := Lib.hid fun W w0 h => ev_call h (may_at 1 257 false 2 (by decide) W)
  have M3 : Hid (∀ W w0, Ev w0 W → Calls Try.prog 9 #[mk 3 6 10, .int .i64 2, .int .i64 0] W fun e w' => e = .returned (.tuple #[.bool false, .int .i64 0]) ∧ Ev w0 w') := Lib.hid fun W w0 h => ev_call h (may_at 2 0 false 0 (by decide) W)
  have M4 : Hid (∀ W w0, Ev w0 W → Calls Try.prog 9 #[mk 3 6 10, .int .i64 3, .int .i64 10] W fun e w' => e = .returned (.tuple #[.bool false, .int .i64 0]) ∧ Ev w0 w') := Lib.hid fun W w0 h => ev_call h (may_at 3 10 false 0 (by decide) W)
  have C1 : Hid (∀ W w0, Ev w0 W → Calls Try.prog 11 #[mk 3 3 10, .int .i64 20] W fun e w' => e = .returned (.int .i64 8) ∧ Ev w0 w') := Lib.hid fun W w0 h => ev_call h (zcheck_any 3 3 10 20 W)
  have C2 : Hid (∀ W w0, Ev w0 W → Calls Try.prog 11 #[mk 3 6 10, .int .i64 9] W fun e w' => e = .returned (.int .i64 2) ∧ Ev w0 w') := Lib.hid fun W w0 h => ev_call h (zcheck_any 3 6 10 9 W)
  have a1 : mayB 2 1 = true := by decide
  have a2 : mayB 3 11 = true := by decide
  have b1 : takeB 2 2 5 2 0 = true := by decide
  have b2 : takeB 3 12 1 1 11 = true := by decide
  have c1 : needB 1 20 5 0 = true := by decide
  have c2 : needB 2 2 5 3 = true := by decide
  have c3 : needB 3 0 1 11 = true := by decide
  have c4 : needB 1 0 0 0 = true := by decide
  have d1 : levB 10 0 = true := by decide
  have d2 : levB 6 1 = true := by decide
  have d3 : levB 5 2 = true := by decide
  have d4 : levB 4 2 = true := by decide
  have d5 : levB 3 3 = true := by decide
  have d6 : levB 0 3 = true := by decide
  have e1 : wakeB 6 true true = true := by decide
  have e2 : wakeB 6 false false = true := by decide
  have e3 : wakeB 10 true false = true := by decide
  have hev := Ev.refl w
  go_enter Try.func6, Try.ntmps6
  go_wp2_with fail
  refine (H4.out _ _ hev).mono ?_; clear hev; rintro e w' ⟨rfl, hev⟩
  go_wp2_with fail
  refine (M1.out _ _ hev).mono ?_; clear hev; rintro e w' ⟨rfl, hev⟩
  go_wp2_with fail
  refine (H4.out _ _ hev).mono ?_; clear hev; rintro e w' ⟨rfl, hev⟩
  go_wp2_with fail
  refine (M2.out _ _ hev).mono ?_; clear hev; rintro e w' ⟨rfl, hev⟩
  go_wp2_with fail
  refine (H4.out _ _ hev).mono ?_; clear hev; rintro e w' ⟨rfl, hev⟩
  go_wp2_with fail
  refine (M3.out _ _ hev).mono ?_; clear hev; rintro e w' ⟨rfl, hev⟩
  go_wp2_with fail
  refine (H4.out _ _ hev).mono ?_; clear hev; rintro e w' ⟨rfl, hev⟩
  go_wp2_with fail
  refine (M4.out _ _ hev).mono ?_; clear hev; rintro e w' ⟨rfl, hev⟩
  clear M1 M2 M3 M4
  go_wp2_with (first
    | (go_at_call 25; refine (H5.out _ _ _ _ hev).mono ?_; clear hev; rintro e w' ⟨rfl, hev⟩)
    | (go_at_call 26; refine (H6.out _ _ _ _ _ _ _ hev).mono ?_; clear hev; rintro e w' ⟨rfl, hev⟩)
    | (go_at_call 27; refine (H7.out _ _ _ _ _ _ hev).mono ?_; clear hev; rintro e w' ⟨rfl, hev⟩)
    | (go_at_call 28; refine (H8.out _ _ _ _ hev).mono ?_; clear hev; rintro e w' ⟨rfl, hev⟩)
    | (go_at_call 29; refine (H9.out _ _ _ _ _ hev).mono ?_; clear hev; rintro e w' ⟨rfl, hev⟩)
    | (go_at_call 17; refine (HA.out _ _ hev).mono ?_; clear hev; rintro e w' ⟨rfl, hev⟩))
  refine (C1.out _ _ hev).mono ?_; clear hev; rintro e w' ⟨rfl, hev⟩
  go_wp2_with fail
  refine (C2.out _ _ hev).mono ?_; clear hev; rintro e w' ⟨rfl, hev⟩
  go_wp2_with fail
  go_ret
  exact ⟨rfl, hev⟩
end Go.Proofs.Ytjlgaddnibelfaa
