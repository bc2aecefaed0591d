import Derived.Test.YtkkmnpjkladhfaaDoorX2
namespace Go.Proofs.YtkkmnpjkladhfaaDoor
open Go.RowKit
/-- a box that is only read -/
def Bq3 (W : World) (b : Nat) (x y z : Int) : Prop := b < W.heap.size ∧ W.cell? ⟨b, 0, none⟩ = some (.int .i64 x) ∧ W.cell? ⟨b, 1, none⟩ = some (.int .i64 y) ∧ W.cell? ⟨b, 2, none⟩ = some (.int .i64 z)
theorem Bq3.new (w : World) (x y z : Int) (t : TypeId) : Bq3 (w.alloc (.cells #[.int .i64 x, .int .i64 y, .int .i64 z] t)) w.heap.size x y z := by unfold Bq3; simp
theorem Bq3.ev {a W : World} {b : Nat} {x y z : Int} (h : Bq3 a b x y z) (e : Ev a W) : Bq3 W b x y z :=
  ⟨Nat.lt_of_lt_of_le h.1 e.sz, by rw [e.cell (p := ⟨b, 0, none⟩) h.1]; exact h.2.1, by rw [e.cell (p := ⟨b, 1, none⟩) h.1]; exact h.2.2.1, by rw [e.cell (p := ⟨b, 2, none⟩) h.1]; exact h.2.2.2⟩
def Bq2 (W : World) (b : Nat) (x y : Int) : Prop := b < W.heap.size ∧ W.cell? ⟨b, 0, none⟩ = some (.int .i64 x) ∧ W.cell? ⟨b, 1, none⟩ = some (.int .i64 y)
theorem Bq2.new (w : World) (x y : Int) (t : TypeId) : Bq2 (w.alloc (.cells #[.int .i64 x, .int .i64 y] t)) w.heap.size x y := by unfold Bq2; simp
theorem Bq2.ev {a W : World} {b : Nat} {x y : Int} (h : Bq2 a b x y) (e : Ev a W) : Bq2 W b x y :=
  ⟨Nat.lt_of_lt_of_le h.1 e.sz, by rw [e.cell (p := ⟨b, 0, none⟩) h.1]; exact h.2.1, by rw [e.cell (p := ⟨b, 1, none⟩) h.1]; exact h.2.2⟩
theorem alV_len (s r c : Int) : (alV s r c).length ≤ 6 := by
  unfold alV
  split
  · exact alS_len s r 6
  · simp
set_option maxHeartbeats 4000000 in
theorem events_any (s r c k p : Int) (w : World) (hT : Tab w) (h0 : 0 < w.heap.size) : Calls Tryd.prog 3 #[wt s r c, ev k p] w fun e w' => e = .returned (.bool true) ∧ Ev w w' := by
  have H7 : Hid (∀ W, Ev w W → Calls Tryd.prog 17 #[] W fun e w' => e = .returned (.bool true) ∧ Ev W w') := Lib.hid fun W e => awake_any W (hT.ev h0 e) (by have := Below.size e; omega)
  have H1 : Hid (∀ W, Calls Tryd.prog 10 #[wt s r c, ev k p] W fun e w' => e = .returned (.tuple #[wt (nxS s r c k p) (nxR s r c k p) (nxC s r c k p), .int .i64 (nxE s r c k p)]) ∧ Ev W w') := Lib.hid fun W => next_any s r c k p W
  have H2 : Hid (∀ W, Calls Tryd.prog 11 #[wt s r c, ev k p] W fun e w' => e = .returned (.tuple #[wt (nxS s r c k p) (nxR s r c k p) (nxC s r c k p), .int .i64 (nxE s r c k p)]) ∧ Ev W w') := Lib.hid fun W => rnext_any s r c k p W
  have H3 : Hid (∀ W, Calls Tryd.prog 12 #[wt s r c] W fun e w' => ∃ A cap, e = .returned (.tuple #[.slice A (alV s r c).length cap, .int .i64 (oChk s r c)]) ∧ RdI w' A (alV s r c) ∧ Ev W w') := Lib.hid fun W => (Allowed_any s r c W).mono fun _ _ ⟨v, h1, h2, h3⟩ => by
    obtain ⟨A, cap, rfl, hr⟩ := RdI.of_own h2 (by have := alV_len s r c; omega)
    exact ⟨A, cap, h1, hr, h3⟩
  have H4 : Hid (∀ W, Calls Tryd.prog 13 #[wt s r c] W fun e w' => ∃ A cap, e = .returned (.tuple #[.slice A (alV s r c).length cap, .int .i64 (oChk s r c)]) ∧ RdI w' A (alV s r c) ∧ Ev W w') := Lib.hid fun W => (rAllowed_any s r c W).mono fun _ _ ⟨v, h1, h2, h3⟩ => by
    obtain ⟨A, cap, rfl, hr⟩ := RdI.of_own h2 (by have := alV_len s r c; omega)
    exact ⟨A, cap, h1, hr, h3⟩
  have H5 : Hid (∀ W, Calls Tryd.prog 14 #[wt s r c] W fun e w' => e = .returned (.int .i64 (oChk s r c)) ∧ Ev W w') := Lib.hid fun W => check_any s r c W
  have H6 : Hid (∀ W, Calls Tryd.prog 15 #[wt s r c] W fun e w' => e = .returned (.int .i64 (oChk s r c)) ∧ Ev W w') := Lib.hid fun W => rcheck_any s r c W
  clear hT
  generalize nxS s r c k p = a1 at *
  generalize nxR s r c k p = a2 at *
  generalize nxC s r c k p = a3 at *
  generalize nxE s r c k p = a4 at *
  generalize oChk s r c = a5 at *
  generalize alV s r c = L at *
  have e0 : Ev w ((w.alloc (.cells #[.int .i64 s, .int .i64 r, .int .i64 c] 23)).alloc (.cells #[.int .i64 k, .int .i64 p] 25)) := ((Ev.refl w).alloc _).alloc _
  have b0 : Bq3 ((w.alloc (.cells #[.int .i64 s, .int .i64 r, .int .i64 c] 23)).alloc (.cells #[.int .i64 k, .int .i64 p] 25)) w.heap.size s r c := (Bq3.new w s r c 23).ev ((Ev.refl _).alloc _)
  have d0 : Bq2 ((w.alloc (.cells #[.int .i64 s, .int .i64 r, .int .i64 c] 23)).alloc (.cells #[.int .i64 k, .int .i64 p] 25)) (w.heap.size + 1) k p := by
    have := Bq2.new (w.alloc (.cells #[.int .i64 s, .int .i64 r, .int .i64 c] 23)) k p 25
    rwa [World.size_alloc] at this
  have HE := Lib.hid e0
  have HB := Lib.hid b0
  have HD := Lib.hid d0
  clear e0 b0 d0
  go_enter Tryd.func3, Tryd.ntmps3
  go_wp2_with fail
  refine (H1.out _).mono ?_
  rintro e w2 ⟨rfl, hev⟩
  have HE := Lib.hid (HE.out.step hev)
  have HB := Lib.hid (HB.out.ev hev)
  have HD := Lib.hid (HD.out.ev hev)
  clear hev
  have hA := Bq3.new w2 a1 a2 a3 23
  have hn := (Ev.refl w2).alloc (.cells #[.int .i64 a1, .int .i64 a2, .int .i64 a3] 23)
  obtain ⟨-, x0, x1, x2⟩ := HB.out.ev hn
  obtain ⟨-, y0, y1⟩ := HD.out.ev hn
  have HA := Lib.hid hA
  have HE := Lib.hid (HE.out.step hn)
  have HB := Lib.hid (HB.out.ev hn)
  have HD := Lib.hid (HD.out.ev hn)
  clear hn hA
  go_wp2_with fail
  refine (H2.out _).mono ?_
  clear x0 x1 x2 y0 y1
  rintro e w4 ⟨rfl, hev⟩
  have HE := Lib.hid (HE.out.step hev)
  have HB := Lib.hid (HB.out.ev hev)
  have HA := Lib.hid (HA.out.ev hev)
  clear hev HD
  have hA := Bq3.new w4 a1 a2 a3 23
  have hn := (Ev.refl w4).alloc (.cells #[.int .i64 a1, .int .i64 a2, .int .i64 a3] 23)
  obtain ⟨-, x0, x1, x2⟩ := HB.out.ev hn
  have HC := Lib.hid hA
  have HE := Lib.hid (HE.out.step hn)
  have HB := Lib.hid (HB.out.ev hn)
  have HA := Lib.hid (HA.out.ev hn)
  clear hn hA
  go_wp2_with fail
  refine (H3.out _).mono ?_
  clear x0 x1 x2
  rintro e w6 ⟨A1, c1, rfl, hr, hev⟩
  have HR1 := Lib.hid hr
  have HE := Lib.hid (HE.out.step hev)
  have HB := Lib.hid (HB.out.ev hev)
  have HA := Lib.hid (HA.out.ev hev)
  have HC := Lib.hid (HC.out.ev hev)
  clear hev hr
  obtain ⟨-, x0, x1, x2⟩ := HB.out
  go_wp2_with fail
  refine (H4.out _).mono ?_
  clear x0 x1 x2
  rintro e w7 ⟨A2, c2, rfl, hr, hev⟩
  have HR2 := Lib.hid hr
  have HR1 := Lib.hid (HR1.out.ev hev)
  have HE := Lib.hid (HE.out.step hev)
  have HB := Lib.hid (HB.out.ev hev)
  have HA := Lib.hid (HA.out.ev hev)
  have HC := Lib.hid (HC.out.ev hev)
  clear hev hr
  obtain ⟨-, x0, x1, x2⟩ := HB.out
  obtain ⟨-, y0, y1, y2⟩ := HA.out
  obtain ⟨-, z0, z1, z2⟩ := HC.out
  have K5 : Hid (∀ W, Ev w7 W → Calls Tryd.prog 14 #[wt s r c] W fun e w' => e = .returned (.int .i64 a5) ∧ Ev w7 w') := Lib.hid fun W e => evN e (H5.out W)
  have K6 : Hid (∀ W, Ev w7 W → Calls Tryd.prog 15 #[wt s r c] W fun e w' => e = .returned (.int .i64 a5) ∧ Ev w7 w') := Lib.hid fun W e => evN e (H6.out W)
  have K7 : Hid (∀ W, Ev w7 W → Calls Tryd.prog 17 #[] W fun e w' => e = .returned (.bool true) ∧ Ev w7 w') := Lib.hid fun W e => evN e (H7.out W (HE.out.step e))
  have K8 : Hid (∀ W, Ev w7 W → Calls Tryd.prog 16 #[.slice A1 L.length c1, .slice A2 L.length c2] W fun e w' => e = .returned (.bool true) ∧ Ev w7 w') := Lib.hid fun W e => evN e (sameI A1 A2 c1 c2 L W (HR1.out.ev e) (HR2.out.ev e))
  have HS : Hid (∀ W, Ev w7 W → ((W.cell? ⟨w.heap.size, 0, none⟩ = some (.int .i64 s) ∧ W.cell? ⟨w.heap.size, 1, none⟩ = some (.int .i64 r) ∧ W.cell? ⟨w.heap.size, 2, none⟩ = some (.int .i64 c)) ∧ (W.cell? ⟨w2.heap.size, 0, none⟩ = some (.int .i64 a1) ∧ W.cell? ⟨w2.heap.size, 1, none⟩ = some (.int .i64 a2) ∧ W.cell? ⟨w2.heap.size, 2, none⟩ = some (.int .i64 a3)) ∧ (W.cell? ⟨w4.heap.size, 0, none⟩ = some (.int .i64 a1) ∧ W.cell? ⟨w4.heap.size, 1, none⟩ = some (.int .i64 a2) ∧ W.cell? ⟨w4.heap.size, 2, none⟩ = some (.int .i64 a3))) ∧ Ev w7 W) := Lib.hid fun W e => ⟨⟨(HB.out.ev e).2, (HA.out.ev e).2, (HC.out.ev e).2⟩, e⟩
  go_wp2_with fail
  have hev := Ev.refl w7
  go_region_held3 (fun W => ((W.cell? ⟨w.heap.size, 0, none⟩ = some (.int .i64 s) ∧ W.cell? ⟨w.heap.size, 1, none⟩ = some (.int .i64 r) ∧ W.cell? ⟨w.heap.size, 2, none⟩ = some (.int .i64 c)) ∧ (W.cell? ⟨w2.heap.size, 0, none⟩ = some (.int .i64 a1) ∧ W.cell? ⟨w2.heap.size, 1, none⟩ = some (.int .i64 a2) ∧ W.cell? ⟨w2.heap.size, 2, none⟩ = some (.int .i64 a3)) ∧ (W.cell? ⟨w4.heap.size, 0, none⟩ = some (.int .i64 a1) ∧ W.cell? ⟨w4.heap.size, 1, none⟩ = some (.int .i64 a2) ∧ W.cell? ⟨w4.heap.size, 2, none⟩ = some (.int .i64 a3))) ∧ Ev w7 W)
    (first | with_reducible exact HS.out _ (by with_reducible assumption) | with_reducible exact HS.out _ (Ev.drew (by with_reducible assumption)))
    (first | (go_at_call 14; refine (K5.out _ (by first | assumption | exact Ev.drew (by with_reducible assumption))).mono ?_; clear hev; rintro e w' ⟨rfl, hev⟩) | (go_at_call 15; refine (K6.out _ (by first | assumption | exact Ev.drew (by with_reducible assumption))).mono ?_; clear hev; rintro e w' ⟨rfl, hev⟩) | (go_at_call 16; refine (K8.out _ (by first | assumption | exact Ev.drew (by with_reducible assumption))).mono ?_; clear hev; rintro e w' ⟨rfl, hev⟩) | (go_at_call 17; refine (K7.out _ (by first | assumption | exact Ev.drew (by with_reducible assumption))).mono ?_; clear hev; rintro e w' ⟨rfl, hev⟩))
  go_wp2_with fail
  go_ret
  exact ⟨rfl, HE.out.step hev⟩
end Go.Proofs.YtkkmnpjkladhfaaDoor
