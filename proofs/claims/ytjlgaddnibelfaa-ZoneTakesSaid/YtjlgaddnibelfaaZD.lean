import Derived.Test.YtjlgaddnibelfaaZC
namespace Go.Proofs.Ytjlgaddnibelfaa
open Go.RowKit

set_option maxRecDepth 100000 in
set_option maxHeartbeats 1000000 in
theorem takes2_any (mn lo hi c free n fr : Int) (w : World) : Calls Try.prog 3 #[mk mn lo hi, .int .i64 c, .int .i64 free, .int .i64 n, .int .i64 fr] w fun e w' => e = .returned (.bool true) ∧ Below w.heap.size w w' := by
  obtain ⟨w0, hw0⟩ : ∃ w0, w0 = w.alloc (.cells #[.int .i64 mn, .int .i64 lo, .int .i64 hi] 23) := ⟨_, rfl⟩
  have H1 : Hid (∀ W, Ev w0 W → Calls Try.prog 9 #[mk mn lo hi, .int .i64 c, .int .i64 free] W fun e w' => e = .returned (.tuple #[.bool (takeG mn lo hi c free 1 == 1), .int .i64 (chkE mn lo hi c free 1)]) ∧ Ev w0 w') := Lib.hid fun W h => ev_call h (may_any mn lo hi c free W)
  have H2 : Hid (∀ W, Ev w0 W → Calls Try.prog 10 #[mk mn lo hi, .int .i64 c, .int .i64 free] W fun e w' => e = .returned (.tuple #[.bool (takeG mn lo hi c free 1 == 1), .int .i64 (chkE mn lo hi c free 1)]) ∧ Ev w0 w') := Lib.hid fun W h => ev_call h (rmay_any mn lo hi c free W)
  have H3 : Hid (∀ W, Ev w0 W → Calls Try.prog 11 #[mk mn lo hi, .int .i64 fr] W fun e w' => e = .returned (.int .i64 (mkE mn lo hi fr)) ∧ Ev w0 w') := Lib.hid fun W h => ev_call h (zcheck_any mn lo hi fr W)
  have H4 : Hid (∀ W, Ev w0 W → Calls Try.prog 12 #[mk mn lo hi, .int .i64 fr] W fun e w' => e = .returned (.int .i64 (mkE mn lo hi fr)) ∧ Ev w0 w') := Lib.hid fun W h => ev_call h (rcheck_any mn lo hi fr W)
  have H5 : Hid (∀ W, Ev w0 W → Calls Try.prog 13 #[mk mn lo hi, .int .i64 c, .int .i64 free, .int .i64 n] W fun e w' => e = .returned (.tuple #[.int .i64 (takeG mn lo hi c free n), .int .i64 (takeL mn lo hi c free n), .int .i64 (chkE mn lo hi c free n)]) ∧ Ev w0 w') := Lib.hid fun W h => ev_call h (take_any mn lo hi c free n W)
  have H6 : Hid (∀ W, Ev w0 W → Calls Try.prog 14 #[mk mn lo hi, .int .i64 c, .int .i64 free, .int .i64 n] W fun e w' => e = .returned (.tuple #[.int .i64 (takeG mn lo hi c free n), .int .i64 (takeL mn lo hi c free n), .int .i64 (chkE mn lo hi c free n)]) ∧ Ev w0 w') := Lib.hid fun W h => ev_call h (rtake_any mn lo hi c free n W)
  have H7 : Hid (∀ W, Ev w0 W → Calls Try.prog 15 #[mk mn lo hi, .int .i64 c, .int .i64 free, .int .i64 n] W fun e w' => e = .returned (.tuple #[.int .i64 (needV mn lo hi c free n), .int .i64 (chkE mn lo hi c free n)]) ∧ Ev w0 w') := Lib.hid fun W h => ev_call h (needs_any mn lo hi c free n W)
  have H8 : Hid (∀ W, Ev w0 W → Calls Try.prog 16 #[mk mn lo hi, .int .i64 c, .int .i64 free, .int .i64 n] W fun e w' => e = .returned (.tuple #[.int .i64 (needV mn lo hi c free n), .int .i64 (chkE mn lo hi c free n)]) ∧ Ev w0 w') := Lib.hid fun W h => ev_call h (rneeds_any mn lo hi c free n W)
  have H9 : Hid (∀ W, Ev w0 W → Calls Try.prog 17 #[] W fun e w' => e = .returned (.bool true) ∧ Ev w0 w') := Lib.hid fun W h => ev_call h (awake_any W)
  have HS : Hid (∀ X, Ev w0 X → (X.cell? ⟨w.heap.size, 0, none⟩ = some (.int .i64 mn) ∧ X.cell? ⟨w.heap.size, 1, none⟩ = some (.int .i64 lo) ∧ X.cell? ⟨w.heap.size, 2, none⟩ = some (.int .i64 hi)) ∧ Ev w0 X) := Lib.hid fun X h => ⟨(show Box3 w0 w.heap.size mn lo hi by rw [hw0]; unfold Box3; simp).ev (by rw [hw0]; simp) h, h⟩
  have HB : Hid (∀ X, Ev w0 X → Below w.heap.size w X) := Lib.hid fun X h => by rw [hw0] at h; exact nxt0 h
  generalize (takeG mn lo hi c free 1 == 1) = v1 at *
  generalize chkE mn lo hi c free 1 = v2 at *
  generalize mkE mn lo hi fr = v3 at *
  generalize takeG mn lo hi c free n = v4 at *
  generalize takeL mn lo hi c free n = v5 at *
  generalize chkE mn lo hi c free n = v6 at *
  generalize needV mn lo hi c free n = v7 at *
  go_enter Try.func3, Try.ntmps3
  go_wp2_with fail
  rw [← hw0]
  clear hw0
  have hev := Ev.refl w0
  refine (H1.out _ hev).mono ?_
  clear hev
  rintro e w1 ⟨rfl, hev⟩
  obtain ⟨⟨x0, x1, x2⟩, _⟩ := HS.out _ hev
  go_wp2_with fail
  refine (H2.out _ hev).mono ?_
  clear hev x0 x1 x2
  rintro e w2 ⟨rfl, hev⟩
  obtain ⟨⟨x0, x1, x2⟩, _⟩ := HS.out _ hev
  go_wp2_with fail
  clear x0 x1 x2
  go_region_held3 (fun w' => (w'.cell? ⟨w.heap.size, 0, none⟩ = some (.int .i64 mn) ∧ w'.cell? ⟨w.heap.size, 1, none⟩ = some (.int .i64 lo) ∧ w'.cell? ⟨w.heap.size, 2, none⟩ = some (.int .i64 hi)) ∧ Ev w0 w')
    (first | exact HS.out _ (by assumption) | exact HS.out _ (Ev.drew (by assumption)))
    (first | (go_at_call 11; refine (H3.out _ (by first | assumption | exact Ev.drew (by assumption))).mono ?_; rintro e w' ⟨rfl, hev'⟩) | (go_at_call 12; refine (H4.out _ (by first | assumption | exact Ev.drew (by assumption))).mono ?_; rintro e w' ⟨rfl, hev'⟩))
  clear hev
  obtain ⟨⟨x0, x1, x2⟩, _⟩ := HS.out _ hev'
  go_wp2_with fail
  refine (H5.out _ hev').mono ?_
  clear hev' x0 x1 x2
  rintro e u0 ⟨rfl, hev⟩
  obtain ⟨⟨x0, x1, x2⟩, _⟩ := HS.out _ hev
  go_wp2_with fail
  refine (H6.out _ hev).mono ?_
  clear hev x0 x1 x2
  rintro e u1 ⟨rfl, hev⟩
  obtain ⟨⟨x0, x1, x2⟩, _⟩ := HS.out _ hev
  go_wp2_with fail
  refine (H7.out _ hev).mono ?_
  clear hev x0 x1 x2
  rintro e u2 ⟨rfl, hev⟩
  obtain ⟨⟨x0, x1, x2⟩, _⟩ := HS.out _ hev
  go_wp2_with fail
  refine (H8.out _ hev).mono ?_
  clear hev x0 x1 x2
  rintro e u3 ⟨rfl, hev⟩
  obtain ⟨⟨x0, x1, x2⟩, _⟩ := HS.out _ hev
  go_wp2_with fail
  refine (H9.out _ hev).mono ?_
  clear hev x0 x1 x2
  rintro e u4 ⟨rfl, hev⟩
  obtain ⟨⟨x0, x1, x2⟩, _⟩ := HS.out _ hev
  go_wp2_with fail
  go_ret
  exact ⟨rfl, HB.out _ hev⟩
/-- what the law of ranks wants of marks -/
theorem lev_at {mn lo hi free : Int} (h : 0 ≤ mn ∧ mn < lo ∧ lo < hi ∧ hi ≤ 256 ∧ 0 ≤ free ∧ free ≤ 256) (W : World) :
    Calls Try.prog 18 #[mk mn lo hi, .int .i64 free] W fun e w' => e = .returned (.tuple #[.int .i64 (lv mn lo hi free), .int .i64 0]) ∧ Below W.heap.size W w' := by
  have t := level_any mn lo hi free W
  have e := chkE_of (mn := mn) (lo := lo) (hi := hi) (c := 1) (free := free) (n := 0) (by omega)
  rw [levV_ok e, e] at t
  exact t
theorem awk_at {mn lo hi free : Int} {was : Bool} (h : 0 ≤ mn ∧ mn < lo ∧ lo < hi ∧ hi ≤ 256 ∧ 0 ≤ free ∧ free ≤ 256) (W : World) :
    Calls Try.prog 20 #[mk mn lo hi, .int .i64 free, .bool was] W fun e w' => e = .returned (.tuple #[.bool (decide (free < lo) || (decide (free < hi) && was)), .int .i64 0]) ∧ Below W.heap.size W w' := by
  have t := awk_any mn lo hi free was W
  have e := chkE_of (mn := mn) (lo := lo) (hi := hi) (c := 1) (free := free) (n := 0) (by omega)
  rw [awk_is e, e] at t
  exact t
end Go.Proofs.Ytjlgaddnibelfaa
