import Derived.Test.YtkneonfhikcdkaaDoorOG
namespace Go.Proofs.YtkneonfhikcdkaaDoor
open Go.RowKit

theorem cutC_len (f : Nat) (a t : Int) : (cutC f a t).length ≤ 2 * f := by
  induction f generalizing a with
  | zero => simp [cutC]
  | succ f ih =>
    unfold cutC
    by_cases h : a < t
    · rw [if_pos h]
      have := ih (a + sz (ordV a t))
      simp
      omega
    · rw [if_neg h]
      simp
set_option maxHeartbeats 1000000 in
theorem cuts_any (f t : Int) (w : World) (hT : Tab w) (h2 : 2 ≤ w.heap.size) : Calls Tryd.prog 5 #[.int .i64 f, .int .i64 t] w fun e w' => e = .returned (.bool true) ∧ Ev w w' := by
  obtain ⟨L, hL⟩ : ∃ L, L = (if cutE f t = 0 then cutC 256 f t else []) := ⟨_, rfl⟩
  have hi : IntL L := by
    rw [hL]
    by_cases h : cutE f t = 0
    · rw [if_pos h]; exact cutC_int _ _ _
    · rw [if_neg h]; intro v hv; cases hv
  have hl : L.length ≤ 512 := by
    rw [hL]
    by_cases h : cutE f t = 0
    · rw [if_pos h]; exact cutC_len _ _ _
    · rw [if_neg h]; simp
  obtain ⟨n, hn⟩ : ∃ n, n = L.length / 2 := ⟨_, rfl⟩
  have hown : ∀ W base v, OwnB W base v L → ∃ A c, v = .slice A n c ∧ RdK W A n L := fun W base v ⟨m, hm⟩ => by
    obtain ⟨h1, A, c, h2, h3⟩ := RdK.of_own hm hi
    obtain rfl : m = n := by omega
    exact ⟨A, c, h2, h3⟩
  have H1 : Hid (∀ W, Ev w W → Calls Tryd.prog 24 #[.int .i64 f, .int .i64 t] W fun e w' => ∃ A c, e = .returned (.tuple #[.slice A n c, .int .i64 (cutE f t)]) ∧ RdK w' A n L ∧ Ev W w') := Lib.hid fun W e =>
    (cut_any f t W (hT.ev h2 e) (by have := e.sz; omega)).mono fun e w' hh => by
      obtain ⟨v, rfl, ho, hev⟩ := hh
      rw [← hL] at ho
      obtain ⟨A, c, rfl, hr⟩ := hown _ _ _ ho
      exact ⟨A, c, rfl, hr, hev⟩
  have H2 : Hid (∀ W, Ev w W → Calls Tryd.prog 25 #[.int .i64 f, .int .i64 t] W fun e w' => ∃ A c, e = .returned (.tuple #[.slice A n c, .int .i64 (cutE f t)]) ∧ RdK w' A n L ∧ Ev W w') := Lib.hid fun W _ =>
    (rcut_any f t W).mono fun e w' hh => by
      obtain ⟨v, rfl, ho, hev⟩ := hh
      rw [← hL] at ho
      obtain ⟨A, c, rfl, hr⟩ := hown _ _ _ ho
      exact ⟨A, c, rfl, hr, hev⟩
  have H7 : Hid (∀ W, Ev w W → Calls Tryd.prog 17 #[] W fun e w' => e = .returned (.bool true) ∧ Ev w w') := Lib.hid fun W e => evN e (awake_any W (hT.ev h2 e) (by have := e.sz; omega))
  have hn' : n ≤ 1000 := by omega
  clear hT hown hi hl hn hL
  generalize cutE f t = ee at *
  go_enter Tryd.func5, Tryd.ntmps5
  go_wp2_with fail
  refine (H1.out _ (Ev.refl _)).mono ?_
  rintro e w1 ⟨A, c, rfl, hr1, hev1⟩
  have HR1 := Lib.hid hr1
  clear hr1
  go_wp2_with fail
  refine (H2.out _ hev1).mono ?_
  rintro e w2 ⟨B, d, rfl, hr2, hev2⟩
  have HR2 := Lib.hid hr2
  clear hr2
  have hev := hev1.step hev2
  go_wp2_with fail
  refine (same_eq A B c d n L w2 (HR1.out.ev hev2) HR2.out hn').mono ?_
  rintro e w3 ⟨rfl, hev3⟩
  have hevv := hev.step hev3
  clear hev1 hev2 hev3 hev
  go_wp2_with fail
  refine (H7.out _ hevv).mono ?_
  clear hevv
  rintro e w4 ⟨rfl, hev⟩
  go_wp2_with fail
  go_ret
  exact ⟨rfl, hev⟩
end Go.Proofs.YtkneonfhikcdkaaDoor
