import Derived.Test.YtkkmnpjkladhfaaDoorW4
namespace Go.Proofs.YtkkmnpjkladhfaaDoor
open Go.RowKit

set_option maxHeartbeats 400000 in
theorem after_2a (s r c p : Int) (w : World) (r0 : 1 ≤ r) (r1 : r ≤ 512) (h1 : s ≠ 1) (h4 : s ≠ 4) : Calls Tryd.prog 36 #[wt s r c, ev 2 p] w fun e w' => e = .returned (wt s (r - 1) c) ∧ Ev w w' := by
  have h1' : (s != 1) = true := by simpa using h1
  have h4' : (s != 4) = true := by simpa using h4
  clear h1 h4
  go_enter Tryd.func36, Tryd.ntmps36
  go_wp2_with fail
  refine bodyPost_ret (v := wt s (r - 1) c) (by simp [results, Tryd.results36, go_sem]) rfl ⟨rfl, ?_⟩
  exact ((Ev.refl _).alloc _).alloc _ |>.alloc _
set_option maxHeartbeats 400000 in
theorem after_2b (s r c p : Int) (w : World) (r0 : 1 ≤ r) (r1 : r ≤ 512) (h14 : s = 1 ∨ s = 4) : Calls Tryd.prog 36 #[wt s r c, ev 2 p] w fun e w' => e = .returned (wt (if r = 1 then 6 else s) (r - 1) c) ∧ Ev w w' := by
  obtain ⟨h1, h2, h3, h4⟩ := w3_in w s (r - 1) c 2 p
  have e1 : stS s (r - 1) false = if r = 1 then 6 else s := by unfold stS; simp; (repeat' split) <;> first | rfl | omega
  have e2 : stR s (r - 1) false = r - 1 := by unfold stR; simp
  have e3 : stC s (r - 1) c false = c := by unfold stC; simp
  have H : Hid (∀ W, W = w3 w s (r - 1) c 2 p → Calls Tryd.prog 46 #[wt s (r - 1) c, .bool false] W fun e w' => e = .returned (wt (if r = 1 then 6 else s) (r - 1) c) ∧ Bx3 w' w.heap.size s (r - 1) c ∧ Bx3 w' (w.heap.size + 1 + 1) 0 0 0 ∧ Ev w w' ∧ w.heap.size + 3 ≤ w'.heap.size) := Lib.hid fun W hW => by
    subst hW
    refine (settled_any s (r - 1) c false _ (by omega) (by omega)).mono fun e w' hh => ⟨?_, h1.ev (by omega) hh.2, h2.ev (by omega) hh.2, h3.step hh.2, ?_⟩
    · rw [hh.1, e1, e2, e3]
    · have := Below.size hh.2
      omega
  generalize (if r = 1 then 6 else s) = s' at *
  clear h1 h2 h3 h4 e1 e2 e3
  have n1 : ¬ w.heap.size = w.heap.size + 1 + 1 := by omega
  have n2 : ¬ w.heap.size + 1 + 1 = w.heap.size := by omega
  rcases h14 with rfl | rfl
  all_goals
    go_enter Tryd.func36, Tryd.ntmps36
    go_wp2_with fail
    refine (H.out _ rfl).mono ?_
    rintro e w1 ⟨rfl, ⟨⟨a0, a1, a2⟩, f0, f1, f2⟩, ⟨⟨b0, b1, b2⟩, g0, g1, g2⟩, hev, hz⟩
    go_wp2
    refine bodyPost_ret (v := wt s' (r - 1) c) (by simp [results, Tryd.results36, go_sem, b0, b1, b2]) rfl ⟨rfl, ?_⟩
    exact (((((hev.setC (Nat.le_refl _) _).setC (Nat.le_refl _) _).setC (Nat.le_refl _) _).setC (by simp only []; omega) _).setC (by simp only []; omega) _).setC (by simp only []; omega) _
end Go.Proofs.YtkkmnpjkladhfaaDoor
