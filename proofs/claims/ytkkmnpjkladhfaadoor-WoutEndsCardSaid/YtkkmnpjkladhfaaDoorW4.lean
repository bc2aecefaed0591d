import Derived.Test.YtkkmnpjkladhfaaDoorW3
import Derived.Deep.Light
namespace Go.Proofs.YtkkmnpjkladhfaaDoor
open Go.RowKit
theorem Ev.setC {w W : World} (h : Ev w W) {p : Addr} (hp : w.heap.size ≤ p.block) (v : Value) : Ev w (W.setCell p v) := Below.setCell h hp v
set_option maxHeartbeats 400000 in
theorem after_1 (s r c p : Int) (w : World) (r0 : 0 ≤ r) (r1 : r ≤ 512) : Calls Tryd.prog 36 #[wt s r c, ev 1 p] w fun e w' => e = .returned (wt s (r + 1) c) ∧ Ev w w' := by
  go_enter Tryd.func36, Tryd.ntmps36
  go_wp2
  refine bodyPost_ret (v := wt s (r + 1) c) (by simp [results, Tryd.results36, go_sem]) rfl ⟨rfl, ?_⟩
  repeat (first | exact Ev.refl _ | apply Ev.alloc | (refine Ev.setC ?_ (by first | (simp; done) | (simp; omega)) _))
set_option maxHeartbeats 400000 in
theorem after_3 (s r c p : Int) (w : World) : Calls Tryd.prog 36 #[wt s r c, ev 3 p] w fun e w' => e = .returned (wt 2 r c) ∧ Ev w w' := by
  go_enter Tryd.func36, Tryd.ntmps36
  go_wp2
  refine bodyPost_ret (v := wt 2 r c) (by simp [results, Tryd.results36, go_sem]) rfl ⟨rfl, ?_⟩
  repeat (first | exact Ev.refl _ | apply Ev.alloc | (refine Ev.setC ?_ (by first | (simp; done) | (simp; omega)) _))
set_option maxHeartbeats 400000 in
theorem after_5 (s r c p : Int) (w : World) : Calls Tryd.prog 36 #[wt s r c, ev 5 p] w fun e w' => e = .returned (wt 2 r 0) ∧ Ev w w' := by
  go_enter Tryd.func36, Tryd.ntmps36
  go_wp2
  refine bodyPost_ret (v := wt 2 r 0) (by simp [results, Tryd.results36, go_sem]) rfl ⟨rfl, ?_⟩
  repeat (first | exact Ev.refl _ | apply Ev.alloc | (refine Ev.setC ?_ (by first | (simp; done) | (simp; omega)) _))
/-- the three boxes that a call of after lays -/
abbrev w3 (w : World) (s r c k p : Int) : World := ((w.alloc (.cells #[.int .i64 s, .int .i64 r, .int .i64 c] 23)).alloc (.cells #[.int .i64 k, .int .i64 p] 25)).alloc (.cells #[.int .i64 0, .int .i64 0, .int .i64 0] 23)
def Bx3 (W : World) (b : Nat) (x y z : Int) : Prop :=
  (W.cell? ⟨b, 0, none⟩ = some (.int .i64 x) ∧ W.cell? ⟨b, 1, none⟩ = some (.int .i64 y) ∧ W.cell? ⟨b, 2, none⟩ = some (.int .i64 z)) ∧ W.frozen? ⟨b, 0, none⟩ = false ∧ W.frozen? ⟨b, 1, none⟩ = false ∧ W.frozen? ⟨b, 2, none⟩ = false
theorem Bx3.ev {a W : World} {b : Nat} {x y z : Int} (h : Bx3 a b x y z) (hb : b < a.heap.size) (e : Ev a W) : Bx3 W b x y z := by
  obtain ⟨c, f⟩ := bc e
  obtain ⟨⟨h1, h2, h3⟩, h4, h5, h6⟩ := h
  exact ⟨⟨(c _ _ hb).trans h1, (c _ _ hb).trans h2, (c _ _ hb).trans h3⟩, (f _ _ hb).trans h4, (f _ _ hb).trans h5, (f _ _ hb).trans h6⟩
theorem Bx3.new (w : World) (x y z : Int) (t : TypeId) : Bx3 (w.alloc (.cells #[.int .i64 x, .int .i64 y, .int .i64 z] t)) w.heap.size x y z := by unfold Bx3; simp
theorem w3_in (w : World) (s r c k p : Int) : Bx3 (w3 w s r c k p) w.heap.size s r c ∧ Bx3 (w3 w s r c k p) (w.heap.size + 1 + 1) 0 0 0 ∧ Ev w (w3 w s r c k p) ∧ (w3 w s r c k p).heap.size = w.heap.size + 3 :=
  ⟨(Bx3.new w _ _ _ 23).ev (by simp) (((Ev.refl _).alloc _).alloc _), by
    have := Bx3.new ((w.alloc (.cells #[.int .i64 s, .int .i64 r, .int .i64 c] 23)).alloc (.cells #[.int .i64 k, .int .i64 p] 25)) 0 0 0 23
    simpa using this, (((Ev.refl w).alloc _).alloc _).alloc _, by simp⟩
set_option maxHeartbeats 400000 in
theorem after_6 (s r c p : Int) (w : World) (r0 : 0 ≤ r) (r1 : r ≤ 512) : Calls Tryd.prog 36 #[wt s r c, ev 6 p] w fun e w' => e = .returned (wt (stS s r true) (stR s r true) (stC s r c true)) ∧ Ev w w' := by
  obtain ⟨h1, h2, h3, h4⟩ := w3_in w s r c 6 p
  have H : Hid (∀ W, W = w3 w s r c 6 p → Calls Tryd.prog 46 #[wt s r c, .bool true] W fun e w' => e = .returned (wt (stS s r true) (stR s r true) (stC s r c true)) ∧ Bx3 w' w.heap.size s r c ∧ Bx3 w' (w.heap.size + 1 + 1) 0 0 0 ∧ Ev w w' ∧ w.heap.size + 3 ≤ w'.heap.size) := Lib.hid fun W hW => by
    subst hW
    refine (settled_any s r c true _ r0 r1).mono fun e w' hh => ⟨hh.1, h1.ev (by omega) hh.2, h2.ev (by omega) hh.2, h3.step hh.2, ?_⟩
    have := Below.size hh.2
    omega
  generalize stS s r true = s' at *
  generalize stR s r true = r' at *
  generalize stC s r c true = c' at *
  clear h1 h2 h3 h4
  go_enter Tryd.func36, Tryd.ntmps36
  go_wp2_with fail
  refine (H.out _ rfl).mono ?_
  rintro e w1 ⟨rfl, ⟨⟨a0, a1, a2⟩, f0, f1, f2⟩, ⟨⟨b0, b1, b2⟩, g0, g1, g2⟩, hev, hz⟩
  have n1 : ¬ w.heap.size = w.heap.size + 1 + 1 := by omega
  have n2 : ¬ w.heap.size + 1 + 1 = w.heap.size := by omega
  go_wp2
  refine bodyPost_ret (v := wt s' r' c') (by simp [results, Tryd.results36, go_sem, b0, b1, b2]) rfl ⟨rfl, ?_⟩
  exact (((((hev.setC (Nat.le_refl _) _).setC (Nat.le_refl _) _).setC (Nat.le_refl _) _).setC (by simp only []; omega) _).setC (by simp only []; omega) _).setC (by simp only []; omega) _
end Go.Proofs.YtkkmnpjkladhfaaDoor
