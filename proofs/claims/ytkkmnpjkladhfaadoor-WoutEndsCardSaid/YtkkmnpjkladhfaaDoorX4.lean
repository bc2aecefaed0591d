import Derived.Test.YtkkmnpjkladhfaaDoorX3
namespace Go.Proofs.YtkkmnpjkladhfaaDoor
open Go.RowKit
set_option maxHeartbeats 1000000 in
theorem run_bad (s r c : Int) (A : Option Addr) (len cap : Nat) (w : World) (h : oChk s r c ≠ 0) : Calls Tryd.prog 22 #[wt s r c, .slice A len cap] w fun e w' => e = .returned (.tuple #[wt 0 0 0, .int .i64 0, .int .i64 (oChk s r c)]) ∧ Ev w w' := by
  obtain ⟨h1, h2, h3, h4⟩ := w2_in w s r c
  have h' : (oChk s r c != 0) = true := by simpa using h
  have H : Hid (∀ W, W = w2 w s r c → Calls Tryd.prog 14 #[wt s r c] W fun e w' => e = .returned (.int .i64 (oChk s r c)) ∧ Bx3 w' (w.heap.size + 1) 0 0 0 ∧ Ev w w' ∧ w.heap.size + 2 ≤ w'.heap.size) := Lib.hid fun W hW => by
    subst hW
    refine (check_any s r c _).mono fun e w' hh => ⟨hh.1, h2.ev (by omega) hh.2, h3.step hh.2, ?_⟩
    have := Below.size hh.2
    omega
  clear h h1 h2 h3 h4
  generalize oChk s r c = er at *
  go_enter Tryd.func22, Tryd.ntmps22
  go_wp2_with fail
  refine (H.out _ rfl).mono ?_
  rintro e w1 ⟨rfl, ⟨⟨b0, b1, b2⟩, g0, g1, g2⟩, hev, hz⟩
  go_wp2_with fail
  refine bodyPost_ret (v := .tuple #[wt 0 0 0, .int .i64 0, .int .i64 er]) (by simp [results, Tryd.results22, go_sem, b0, b1, b2]) rfl ⟨rfl, ?_⟩
  exact ((hev.setC (by simp only []; omega) _).setC (by simp only []; omega) _).setC (by simp only []; omega) _
set_option maxHeartbeats 1000000 in
theorem rrun_bad (s r c : Int) (A : Option Addr) (len cap : Nat) (w : World) (h : oChk s r c ≠ 0) : Calls Tryd.prog 23 #[wt s r c, .slice A len cap] w fun e w' => e = .returned (.tuple #[wt 0 0 0, .int .i64 0, .int .i64 (oChk s r c)]) ∧ Ev w w' := by
  obtain ⟨h1, h2, h3, h4⟩ := w2_in w s r c
  have h' : (oChk s r c != 0) = true := by simpa using h
  have H : Hid (∀ W, W = w2 w s r c → Calls Tryd.prog 15 #[wt s r c] W fun e w' => e = .returned (.int .i64 (oChk s r c)) ∧ Bx3 w' (w.heap.size + 1) 0 0 0 ∧ Ev w w' ∧ w.heap.size + 2 ≤ w'.heap.size) := Lib.hid fun W hW => by
    subst hW
    refine (rcheck_any s r c _).mono fun e w' hh => ⟨hh.1, h2.ev (by omega) hh.2, h3.step hh.2, ?_⟩
    have := Below.size hh.2
    omega
  clear h h1 h2 h3 h4
  generalize oChk s r c = er at *
  go_enter Tryd.func23, Tryd.ntmps23
  go_wp2_with fail
  refine (H.out _ rfl).mono ?_
  rintro e w1 ⟨rfl, ⟨⟨b0, b1, b2⟩, g0, g1, g2⟩, hev, hz⟩
  go_wp2_with fail
  refine bodyPost_ret (v := .tuple #[wt 0 0 0, .int .i64 0, .int .i64 er]) (by simp [results, Tryd.results23, go_sem, b0, b1, b2]) rfl ⟨rfl, ?_⟩
  exact ((hev.setC (by simp only []; omega) _).setC (by simp only []; omega) _).setC (by simp only []; omega) _
end Go.Proofs.YtkkmnpjkladhfaaDoor
