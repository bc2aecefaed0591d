import Derived.Test.YtkkmnpjkladhfaaDoorWC
namespace Go.Proofs.YtkkmnpjkladhfaaDoor
open Go.RowKit

theorem ev_any (k : Int) (w : World) : Calls Tryd.prog 29 #[.int .i64 k] w fun e w' => e = .returned (ev k 0) ∧ Ev w w' := by
  go_enter Tryd.func29, Tryd.ntmps29
  go_wp2
  exact bodyPost_ret (v := ev k 0) (by simp [results, Tryd.results29, go_sem]) rfl ⟨rfl, al1 _ _⟩
theorem begin_ok (n : Int) (w : World) (h1 : 1 ≤ n) (h2 : n ≤ 512) : Calls Tryd.prog 24 #[.int .i64 n] w fun e w' => e = .returned (.tuple #[wt 1 n 0, .int .i64 0]) ∧ Ev w w' := by
  have := begin_any n w
  rw [if_neg (by omega), if_neg (by omega), if_neg (by omega)] at this
  exact this
set_option maxHeartbeats 1000000 in
theorem lrun_any (n : Int) (A : Option Addr) (cap : Nat) (es : List (Int × Int)) (w : World) (hr : RdE w A es) (h1 : 1 ≤ n) (h2 : n ≤ 512) : Calls Tryd.prog 28 #[.int .i64 n, .slice A es.length cap] w fun e w' => e = .returned (.tuple #[wt (runL 1 n 0 0 es).1.1 (runL 1 n 0 0 es).1.2.1 (runL 1 n 0 0 es).1.2.2, .int .i64 (runL 1 n 0 0 es).2.1, .int .i64 (runL 1 n 0 0 es).2.2]) ∧ Ev w w' := by
  have hv : oChk 1 n 0 = 0 := oChk_of (by omega)
  -- the result's box lies at w.heap.size
  have B0 : Hid (∀ W, Ev (w.alloc (.cells #[.int .i64 0, .int .i64 0, .int .i64 0] 23)) W → Bx3 W w.heap.size 0 0 0 ∧ Ev w W ∧ w.heap.size < W.heap.size) := Lib.hid fun W e => ⟨(Bx3.new w 0 0 0 23).ev (by simp) e, ((Ev.refl w).alloc _).step e, by have := Below.size e; simp at this; omega⟩
  have H1 : Hid (∀ W, Ev (w.alloc (.cells #[.int .i64 0, .int .i64 0, .int .i64 0] 23)) W → Calls Tryd.prog 24 #[.int .i64 n] W fun e w' => e = .returned (.tuple #[wt 1 n 0, .int .i64 0]) ∧ Ev (w.alloc (.cells #[.int .i64 0, .int .i64 0, .int .i64 0] 23)) w') := Lib.hid fun W e => evN e (begin_ok n W h1 h2)
  have H2 : Hid (∀ W, Ev (w.alloc (.cells #[.int .i64 0, .int .i64 0, .int .i64 0] 23)) W → Calls Tryd.prog 22 #[wt 1 n 0, .slice A es.length cap] W fun e w' => e = .returned (.tuple #[wt (runL 1 n 0 0 es).1.1 (runL 1 n 0 0 es).1.2.1 (runL 1 n 0 0 es).1.2.2, .int .i64 (runL 1 n 0 0 es).2.1, .int .i64 (runL 1 n 0 0 es).2.2]) ∧ Ev (w.alloc (.cells #[.int .i64 0, .int .i64 0, .int .i64 0] 23)) w') := Lib.hid fun W e => evN e (run_any 1 n 0 A cap es W (hr.ev (((Ev.refl w).alloc _).step e)) hv)
  generalize (runL 1 n 0 0 es).1.1 = s' at *
  generalize (runL 1 n 0 0 es).1.2.1 = r' at *
  generalize (runL 1 n 0 0 es).1.2.2 = c' at *
  generalize (runL 1 n 0 0 es).2.1 = m at *
  generalize (runL 1 n 0 0 es).2.2 = ee at *
  clear hr hv
  go_enter Tryd.func28, Tryd.ntmps28
  go_wp2_with fail
  refine (H1.out _ (Ev.refl _)).mono ?_
  rintro e w1 ⟨rfl, hev⟩
  have hev2 := hev.alloc (.cells #[.int .i64 1, .int .i64 n, .int .i64 0] 23)
  go_wp2_with fail
  refine (H2.out _ hev2).mono ?_
  rintro e w2' ⟨rfl, hev3⟩
  obtain ⟨⟨⟨b0, b1, b2⟩, g0, g1, g2⟩, hE, hz⟩ := B0.out _ hev3
  go_wp2_with fail
  refine bodyPost_ret (v := .tuple #[wt s' r' c', .int .i64 m, .int .i64 ee]) (by simp [results, Tryd.results28, go_sem, b0, b1, b2]) rfl ⟨rfl, ?_⟩
  exact ((hE.setC (Nat.le_refl _) _).setC (Nat.le_refl _) _).setC (Nat.le_refl _) _
end Go.Proofs.YtkkmnpjkladhfaaDoor
