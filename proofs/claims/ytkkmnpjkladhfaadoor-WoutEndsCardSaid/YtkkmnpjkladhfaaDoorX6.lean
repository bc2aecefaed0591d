import Derived.Test.YtkkmnpjkladhfaaDoorX5
namespace Go.Proofs.YtkkmnpjkladhfaaDoor
open Go.RowKit
def runR (s r c : Int) (es : List (Int × Int)) : (Int × Int × Int) × Int × Int := if oChk s r c = 0 then runL s r c 0 es else ((0, 0, 0), 0, oChk s r c)
theorem run_all (s r c : Int) (A : Option Addr) (cap : Nat) (es : List (Int × Int)) (w : World) (hr : RdE w A es) : Calls Tryd.prog 22 #[wt s r c, .slice A es.length cap] w fun e w' => e = .returned (.tuple #[wt (runR s r c es).1.1 (runR s r c es).1.2.1 (runR s r c es).1.2.2, .int .i64 (runR s r c es).2.1, .int .i64 (runR s r c es).2.2]) ∧ Ev w w' := by
  by_cases h : oChk s r c = 0
  · have e : runR s r c es = runL s r c 0 es := by unfold runR; rw [if_pos h]
    rw [e]
    exact run_any s r c A cap es w hr h
  · have e : runR s r c es = ((0, 0, 0), 0, oChk s r c) := by unfold runR; rw [if_neg h]
    rw [e]
    exact run_bad s r c A es.length cap w h
theorem rrun_all (s r c : Int) (A : Option Addr) (cap : Nat) (es : List (Int × Int)) (w : World) (hr : RdE w A es) : Calls Tryd.prog 23 #[wt s r c, .slice A es.length cap] w fun e w' => e = .returned (.tuple #[wt (runR s r c es).1.1 (runR s r c es).1.2.1 (runR s r c es).1.2.2, .int .i64 (runR s r c es).2.1, .int .i64 (runR s r c es).2.2]) ∧ Ev w w' := by
  by_cases h : oChk s r c = 0
  · have e : runR s r c es = runL s r c 0 es := by unfold runR; rw [if_pos h]
    rw [e]
    exact rrun_any s r c A cap es w hr h
  · have e : runR s r c es = ((0, 0, 0), 0, oChk s r c) := by unfold runR; rw [if_neg h]
    rw [e]
    exact rrun_bad s r c A es.length cap w h
set_option maxHeartbeats 1000000 in
theorem runs_long (s r c : Int) (A : Option Addr) (len cap : Nat) (n : Int) (w : World) (hT : Tab w) (h0 : 0 < w.heap.size) (h : 40 < len) : Calls Tryd.prog 5 #[wt s r c, .slice A len cap, .int .i64 n] w fun e w' => e = .returned (.bool true) ∧ Ev w w' := by
  have H7 : Hid (∀ W, Ev w W → Calls Tryd.prog 17 #[] W fun e w' => e = .returned (.bool true) ∧ Ev w w') := Lib.hid fun W e => evN e (awake_any W (hT.ev h0 e) (by have := Below.size e; omega))
  have HE := Lib.hid ((Ev.refl w).alloc (.cells #[.int .i64 s, .int .i64 r, .int .i64 c] 23))
  have h' : 40 < (len : Int) := by omega
  clear hT h
  go_enter Tryd.func5, Tryd.ntmps5
  go_wp2_with fail
  refine (H7.out _ HE.out).mono ?_
  rintro e w1 ⟨rfl, hev⟩
  go_wp2_with fail
  go_ret
  exact ⟨rfl, hev⟩
set_option maxHeartbeats 4000000 in
theorem runs_any (s r c : Int) (A : Option Addr) (cap : Nat) (es : List (Int × Int)) (n : Int) (w : World) (hr : RdE w A es) (hT : Tab w) (h0 : 0 < w.heap.size) (h : es.length ≤ 40) : Calls Tryd.prog 5 #[wt s r c, .slice A es.length cap, .int .i64 n] w fun e w' => e = .returned (.bool true) ∧ Ev w w' := by
  have H7 : Hid (∀ W, Ev w W → Calls Tryd.prog 17 #[] W fun e w' => e = .returned (.bool true) ∧ Ev W w') := Lib.hid fun W e => awake_any W (hT.ev h0 e) (by have := Below.size e; omega)
  have H1 : Hid (∀ W, Ev w W → Calls Tryd.prog 22 #[wt s r c, .slice A es.length cap] W fun e w' => e = .returned (.tuple #[wt (runR s r c es).1.1 (runR s r c es).1.2.1 (runR s r c es).1.2.2, .int .i64 (runR s r c es).2.1, .int .i64 (runR s r c es).2.2]) ∧ Ev W w') := Lib.hid fun W e => run_all s r c A cap es W (hr.ev e)
  have H2 : Hid (∀ W, Ev w W → Calls Tryd.prog 23 #[wt s r c, .slice A es.length cap] W fun e w' => e = .returned (.tuple #[wt (runR s r c es).1.1 (runR s r c es).1.2.1 (runR s r c es).1.2.2, .int .i64 (runR s r c es).2.1, .int .i64 (runR s r c es).2.2]) ∧ Ev W w') := Lib.hid fun W e => rrun_all s r c A cap es W (hr.ev e)
  have H3 : Hid (∀ W, Calls Tryd.prog 24 #[.int .i64 n] W fun e w' => e = .returned (.tuple #[wt (if n < 1 ∨ 512 < n then 0 else 1) (if n < 1 ∨ 512 < n then 0 else n) 0, .int .i64 (if n < 1 ∨ 512 < n then 15 else 0)]) ∧ Ev W w') := Lib.hid fun W => begin_any n W
  have H4 : Hid (∀ W, Calls Tryd.prog 25 #[.int .i64 n] W fun e w' => e = .returned (.tuple #[wt (if n < 1 ∨ 512 < n then 0 else 1) (if n < 1 ∨ 512 < n then 0 else n) 0, .int .i64 (if n < 1 ∨ 512 < n then 15 else 0)]) ∧ Ev W w') := Lib.hid fun W => rbegin_any n W
  have h' : (es.length : Int) ≤ 40 := by omega
  clear hT hr h
  generalize (runR s r c es).1.1 = a1 at *
  generalize (runR s r c es).1.2.1 = a2 at *
  generalize (runR s r c es).1.2.2 = a3 at *
  generalize (runR s r c es).2.1 = a4 at *
  generalize (runR s r c es).2.2 = a5 at *
  generalize (if n < 1 ∨ 512 < n then (0 : Int) else 1) = b1 at *
  generalize (if n < 1 ∨ 512 < n then (0 : Int) else n) = b2 at *
  generalize (if n < 1 ∨ 512 < n then (15 : Int) else 0) = b4 at *
  have HE := Lib.hid ((Ev.refl w).alloc (.cells #[.int .i64 s, .int .i64 r, .int .i64 c] 23))
  have HB := Lib.hid (Bq3.new w s r c 23)
  go_enter Tryd.func5, Tryd.ntmps5
  go_wp2_with fail
  refine (H1.out _ HE.out).mono ?_
  rintro e w2 ⟨rfl, hev⟩
  have hn := (Ev.refl w2).alloc (.cells #[.int .i64 a1, .int .i64 a2, .int .i64 a3] 23)
  have HA := Lib.hid (Bq3.new w2 a1 a2 a3 23)
  have HE := Lib.hid ((HE.out.step hev).step hn)
  have HB := Lib.hid ((HB.out.ev hev).ev hn)
  clear hev hn
  obtain ⟨-, x0, x1, x2⟩ := HB.out
  go_wp2_with fail
  refine (H2.out _ HE.out).mono ?_
  clear x0 x1 x2 HB
  rintro e w4 ⟨rfl, hev⟩
  have hn := (Ev.refl w4).alloc (.cells #[.int .i64 a1, .int .i64 a2, .int .i64 a3] 23)
  have HC := Lib.hid (Bq3.new w4 a1 a2 a3 23)
  have HE := Lib.hid ((HE.out.step hev).step hn)
  have HA := Lib.hid ((HA.out.ev hev).ev hn)
  clear hev hn
  go_wp2_with fail
  refine (H3.out _).mono ?_
  rintro e w6 ⟨rfl, hev⟩
  have hn := (Ev.refl w6).alloc (.cells #[.int .i64 b1, .int .i64 b2, .int .i64 0] 23)
  have HX := Lib.hid (Bq3.new w6 b1 b2 0 23)
  have HE := Lib.hid ((HE.out.step hev).step hn)
  have HA := Lib.hid ((HA.out.ev hev).ev hn)
  have HC := Lib.hid ((HC.out.ev hev).ev hn)
  clear hev hn
  go_wp2_with fail
  refine (H4.out _).mono ?_
  rintro e w8 ⟨rfl, hev⟩
  have hn := (Ev.refl w8).alloc (.cells #[.int .i64 b1, .int .i64 b2, .int .i64 0] 23)
  have HY := Lib.hid (Bq3.new w8 b1 b2 0 23)
  have HE := Lib.hid ((HE.out.step hev).step hn)
  have HA := Lib.hid ((HA.out.ev hev).ev hn)
  have HC := Lib.hid ((HC.out.ev hev).ev hn)
  have HX := Lib.hid ((HX.out.ev hev).ev hn)
  clear hev hn
  obtain ⟨-, x0, x1, x2⟩ := HA.out
  obtain ⟨-, y0, y1, y2⟩ := HC.out
  obtain ⟨-, z0, z1, z2⟩ := HX.out
  obtain ⟨-, u0, u1, u2⟩ := HY.out
  go_wp2_with fail
  refine (H7.out _ HE.out).mono ?_
  rintro e w9 ⟨rfl, hev⟩
  have HE := Lib.hid (HE.out.step hev)
  clear hev
  go_wp2_with fail
  go_ret
  exact ⟨rfl, HE.out⟩
end Go.Proofs.YtkkmnpjkladhfaaDoor
