import Derived.Test.YtnlbkaabhnkkfaaPI
namespace Go.Proofs.Ytnlbkaabhnkkfaa
open Go.RowKit
theorem spans7 (w0 X W : World) (e : Ev w0 X) (hW : W = X.alloc (.cells #[.int .i64 9, .int .i64 4, .int .i64 6, .int .i64 8, .int .i64 9, .int .i64 8, .int .i64 4] 3)) :
    Calls Try.prog 21 #[mk 2 5 9, .slice (some ⟨X.heap.size, 0, none⟩) 7 7] W fun e w' => ∃ A c, e = .returned (.tuple #[.slice A 2 c, .int .i64 0]) ∧ RdP w' A [(1, 3), (6, 6)] ∧ Ev w0 w' := by
  subst hW
  have h := Spans_any 2 5 9 (some ⟨X.heap.size, 0, none⟩) 7 [9, 4, 6, 8, 9, 8, 4] _ (RdI.lit X #[.int .i64 9, .int .i64 4, .int .i64 6, .int .i64 8, .int .i64 9, .int .i64 8, .int .i64 4] 3 [9, 4, 6, 8, 9, 8, 4] rfl (by simp))
  refine h.mono ?_
  rintro e' w' ⟨v, rfl, ho, hev⟩
  have e1 : asE 2 5 9 [9, 4, 6, 8, 9, 8, 4] = 0 := by decide
  have e2 : spV 2 5 9 [9, 4, 6, 8, 9, 8, 4] = [(1, 3), (6, 6)] := by decide
  rw [e2] at ho
  obtain ⟨A, c, rfl, hr⟩ := RdP.of_own ho (by simp)
  exact ⟨A, c, by rw [e1]; rfl, hr, (e.alloc _).step hev⟩
theorem worst4 (w0 X W : World) (e : Ev w0 X) (hW : W = X.alloc (.cells #[.int .i64 9, .int .i64 4, .int .i64 2, .int .i64 0] 3)) :
    Calls Try.prog 25 #[mk 2 5 9, .slice (some ⟨X.heap.size, 0, none⟩) 4 4] W fun e w' => e = .returned (.tuple #[.int .i64 3, .int .i64 2, .int .i64 0]) ∧ Ev w0 w' := by
  subst hW
  have h := Worst_any 2 5 9 (some ⟨X.heap.size, 0, none⟩) 4 [9, 4, 2, 0] _ (RdI.lit X #[.int .i64 9, .int .i64 4, .int .i64 2, .int .i64 0] 3 [9, 4, 2, 0] rfl (by simp))
  have e1 : asE 2 5 9 [9, 4, 2, 0] = 0 := by decide
  have e2 : woV 2 5 9 [9, 4, 2, 0] = (3, 2) := by decide
  rw [e1, e2] at h
  exact h.mono fun _ _ hh => ⟨hh.1, (e.alloc _).step hh.2⟩
theorem worst0 (W : World) : Calls Try.prog 25 #[mk 2 5 9, .slice none 0 0] W fun e w' => e = .returned (.tuple #[.int .i64 0, .int .i64 (-1), .int .i64 0]) ∧ Ev W w' := by
  have h := Worst_any 2 5 9 none 0 [] W ⟨by simp, fun j hj => by simp at hj⟩
  have e1 : asE 2 5 9 [] = 0 := by decide
  have e2 : woV 2 5 9 [] = (0, -1) := by decide
  rw [e1, e2] at h
  exact h
theorem sameP2 (w0 w4 X W : World) (A : Option Addr) (c : Nat) (hr : RdP w4 A [(1, 3), (6, 6)]) (e0 : Ev w0 w4) (e : Ev w4 X) (hW : W = X.alloc (.cells #[.int .i64 1, .int .i64 3, .int .i64 6, .int .i64 6] 51)) :
    Calls Try.prog 24 #[.slice A 2 c, .slice (some ⟨X.heap.size, 0, none⟩) 2 2] W fun e w' => e = .returned (.bool true) ∧ Ev w0 w' := by
  subst hW
  have h := sameP A (some ⟨X.heap.size, 0, none⟩) c 2 [(1, 3), (6, 6)] _ (hr.ev (e.alloc _)) (RdP.lit X #[.int .i64 1, .int .i64 3, .int .i64 6, .int .i64 6] 51 _ rfl (by simp))
  exact h.mono fun _ _ hh => ⟨hh.1, (e0.step (e.alloc _)).step hh.2⟩
set_option maxRecDepth 100000 in
set_option maxHeartbeats 4000000 in
theorem known_any (w : World) : Calls Try.prog 5 #[] w fun e w' => e = .returned (.bool true) ∧ Ev w w' := by
  have HM := Lib.hid marks_any
  have H0 : Hid (∀ W, Calls Try.prog 9 #[mk 2 5 9, .int .i64 257] W fun e w' => e = .returned (.tuple #[.int .i64 0, .int .i64 2]) ∧ Ev W w') := Lib.hid fun W => Level_any 2 5 9 257 W
  have L1 := Lib.hid fun W => lv_any 5 1 W (by decide) (by decide)
  have L2 := Lib.hid fun W => lv_any 2 3 W (by decide) (by decide)
  have L3 := Lib.hid fun W => lv_any 0 3 W (by decide) (by decide)
  have N1 := Lib.hid fun W => nx_any false 5 false W (by decide) (by decide)
  have N2 := Lib.hid fun W => nx_any false 4 true W (by decide) (by decide)
  have N3 := Lib.hid fun W => nx_any true 9 false W (by decide) (by decide)
  have S1 := Lib.hid (spans7 w)
  have W1 := Lib.hid (worst4 w)
  have W2 := Lib.hid worst0
  have M1 := Lib.hid fun W => misses_any true 6 3 W (by decide) (by decide)
  have M2 := Lib.hid fun W => misses_any false 6 0 W (by decide) (by decide)
  have M3 := Lib.hid fun W => misses_any false 4 5 W (by decide) (by decide)
  have C1 : Hid (∀ W, Calls Try.prog 11 #[mk 2 2 9] W fun e w' => e = .returned (.int .i64 8) ∧ Ev W w') := Lib.hid fun W => check_any 2 2 9 W
  have C2 : Hid (∀ W, Calls Try.prog 11 #[mk (-1) 2 9] W fun e w' => e = .returned (.int .i64 2) ∧ Ev W w') := Lib.hid fun W => check_any (-1) 2 9 W
  have C3 : Hid (∀ W, Calls Try.prog 11 #[mk 2 5 257] W fun e w' => e = .returned (.int .i64 2) ∧ Ev W w') := Lib.hid fun W => check_any 2 5 257 W
  have AW := Lib.hid awake_any
  have HE := Lib.hid (Ev.refl w)
  go_enter Try.func5, Try.ntmps5
  go_wp2_with fail
  refine (HM.out _).mono ?_
  rintro e w1 ⟨rfl, hev⟩
  have HE := Lib.hid (HE.out.step hev)
  clear hev
  go_wp2_with fail
  refine (H0.out _).mono ?_
  rintro e w1 ⟨rfl, hev⟩
  have HE := Lib.hid (HE.out.step hev)
  clear hev
  go_wp2_with fail
  refine (L1.out _).mono ?_
  rintro e w1 ⟨rfl, hev⟩
  have HE := Lib.hid (HE.out.step hev)
  clear hev
  go_wp2_with fail
  refine (L2.out _).mono ?_
  rintro e w1 ⟨rfl, hev⟩
  have HE := Lib.hid (HE.out.step hev)
  clear hev
  go_wp2_with fail
  refine (L3.out _).mono ?_
  rintro e w1 ⟨rfl, hev⟩
  have HE := Lib.hid (HE.out.step hev)
  clear hev
  go_wp2_with fail
  refine (N1.out _).mono ?_
  rintro e w1 ⟨rfl, hev⟩
  have HE := Lib.hid (HE.out.step hev)
  clear hev
  go_wp2_with fail
  refine (N2.out _).mono ?_
  rintro e w1 ⟨rfl, hev⟩
  have HE := Lib.hid (HE.out.step hev)
  clear hev
  go_wp2_with fail
  refine (N3.out _).mono ?_
  rintro e w1 ⟨rfl, hev⟩
  have HE := Lib.hid (HE.out.step hev)
  clear hev
  go_wp2_with fail
  refine (HM.out _).mono ?_
  rintro e w1 ⟨rfl, hev⟩
  have HE := Lib.hid (HE.out.step hev)
  clear hev
  go_wp2_with fail
  refine (S1.out _ _ HE.out rfl).mono ?_
  rintro e w2 ⟨A, c, rfl, hr, hev⟩
  have HS := Lib.hid fun X W e => sameP2 w w2 X W A c hr hev e
  have HE0 := Lib.hid hev
  have HE := Lib.hid (Ev.refl w2)
  clear hr hev
  go_wp2_with fail
  refine (HM.out _).mono ?_
  rintro e w1 ⟨rfl, hev⟩
  have HE := Lib.hid (HE.out.step hev)
  clear hev
  go_wp2_with fail
  have HW := Lib.hid (worst4 w2)
  refine (HW.out _ _ HE.out rfl).mono ?_
  rintro e w1 ⟨rfl, hev⟩
  have HE := Lib.hid hev
  clear hev
  go_wp2_with fail
  refine (HM.out _).mono ?_
  rintro e w1 ⟨rfl, hev⟩
  have HE := Lib.hid (HE.out.step hev)
  clear hev
  go_wp2_with fail
  refine (W2.out _).mono ?_
  rintro e w1 ⟨rfl, hev⟩
  have HE := Lib.hid (HE.out.step hev)
  clear hev
  go_wp2_with fail
  refine (HS.out _ _ HE.out rfl).mono ?_
  rintro e w1 ⟨rfl, hev⟩
  have HE := Lib.hid hev
  clear hev
  go_wp2_with fail
  refine (M1.out _).mono ?_
  rintro e w1 ⟨rfl, hev⟩
  have HE := Lib.hid (HE.out.step hev)
  clear hev
  go_wp2_with fail
  refine (M2.out _).mono ?_
  rintro e w1 ⟨rfl, hev⟩
  have HE := Lib.hid (HE.out.step hev)
  clear hev
  go_wp2_with fail
  refine (M3.out _).mono ?_
  rintro e w1 ⟨rfl, hev⟩
  have HE := Lib.hid (HE.out.step hev)
  clear hev
  go_wp2_with fail
  refine (C1.out _).mono ?_
  rintro e w1 ⟨rfl, hev⟩
  have HE := Lib.hid (HE.out.step hev)
  clear hev
  go_wp2_with fail
  refine (C2.out _).mono ?_
  rintro e w1 ⟨rfl, hev⟩
  have HE := Lib.hid (HE.out.step hev)
  clear hev
  go_wp2_with fail
  refine (C3.out _).mono ?_
  rintro e w1 ⟨rfl, hev⟩
  have HE := Lib.hid (HE.out.step hev)
  clear hev
  go_wp2_with fail
  refine (AW.out _).mono ?_
  rintro e w1 ⟨rfl, hev⟩
  have HE := Lib.hid (HE.out.step hev)
  clear hev
  go_wp2_with fail
  go_ret
  exact ⟨rfl, HE.out⟩
end Go.Proofs.Ytnlbkaabhnkkfaa
