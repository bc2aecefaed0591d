import Derived.Test.YtnlbkaabhnkkfaaPG
namespace Go.Proofs.Ytnlbkaabhnkkfaa
open Go.RowKit
theorem evN {P : Program} {f : FuncId} {args : Array Value} {w0 W : World} {v : Value} (h : Ev w0 W) (c : Calls P f args W fun e w' => e = .returned v ∧ Ev W w') :
    Calls P f args W fun e w' => e = .returned v ∧ Ev w0 w' := c.mono fun _ _ hh => ⟨hh.1, h.step hh.2⟩
set_option maxHeartbeats 2000000 in
theorem levels_any (a b c x : Int) (aw : Bool) (w : World) : Calls Try.prog 3 #[mk a b c, .bool aw, .int .i64 x] w fun e w' => e = .returned (.bool true) ∧ Ev w w' := by
  have HB : Hid (∀ W, Ev (w.alloc (mb a b c)) W → (W.cell? ⟨w.heap.size, 0, none⟩ = some (.int .i64 a) ∧ W.cell? ⟨w.heap.size, 1, none⟩ = some (.int .i64 b) ∧ W.cell? ⟨w.heap.size, 2, none⟩ = some (.int .i64 c)) ∧ Ev w W) := Lib.hid fun W e => ⟨by refine ⟨?_, ?_, ?_⟩ <;> (rw [e.cell (by simp)]; simp), ((Ev.refl w).alloc _).step e⟩
  have HS : Hid (∀ W, Ev (w.alloc (mb a b c)) W → (W.cell? ⟨w.heap.size, 0, none⟩ = some (.int .i64 a) ∧ W.cell? ⟨w.heap.size, 1, none⟩ = some (.int .i64 b) ∧ W.cell? ⟨w.heap.size, 2, none⟩ = some (.int .i64 c)) ∧ Ev (w.alloc (mb a b c)) W) := Lib.hid fun W e => ⟨(HB.out W e).1, e⟩
  have H1 : Hid (∀ W, Ev (w.alloc (mb a b c)) W → Calls Try.prog 9 #[mk a b c, .int .i64 x] W fun e w' => e = .returned (.tuple #[.int .i64 (lqV a b c x), .int .i64 (asE a b c [x])]) ∧ Ev (w.alloc (mb a b c)) w') := Lib.hid fun W e => evN e (Level_any a b c x W)
  have H2 : Hid (∀ W, Ev (w.alloc (mb a b c)) W → Calls Try.prog 10 #[mk a b c, .int .i64 x] W fun e w' => e = .returned (.tuple #[.int .i64 (lqV a b c x), .int .i64 (asE a b c [x])]) ∧ Ev (w.alloc (mb a b c)) w') := Lib.hid fun W e => evN e (rLevel_any a b c x W)
  have H3 : Hid (∀ W, Ev (w.alloc (mb a b c)) W → Calls Try.prog 11 #[mk a b c] W fun e w' => e = .returned (.int .i64 (mkE a b c)) ∧ Ev (w.alloc (mb a b c)) w') := Lib.hid fun W e => evN e (check_any a b c W)
  have H4 : Hid (∀ W, Ev (w.alloc (mb a b c)) W → Calls Try.prog 12 #[mk a b c] W fun e w' => e = .returned (.int .i64 (mkE a b c)) ∧ Ev (w.alloc (mb a b c)) w') := Lib.hid fun W e => evN e (rcheck_any a b c W)
  have H5 : Hid (∀ W, Ev (w.alloc (mb a b c)) W → Calls Try.prog 13 #[mk a b c, .bool aw, .int .i64 x] W fun e w' => e = .returned (.tuple #[.bool (nqV a b c aw x), .int .i64 (asE a b c [x])]) ∧ Ev (w.alloc (mb a b c)) w') := Lib.hid fun W e => evN e (Next_any a b c x aw W)
  have H6 : Hid (∀ W, Ev (w.alloc (mb a b c)) W → Calls Try.prog 14 #[mk a b c, .bool aw, .int .i64 x] W fun e w' => e = .returned (.tuple #[.bool (nqV a b c aw x), .int .i64 (asE a b c [x])]) ∧ Ev (w.alloc (mb a b c)) w') := Lib.hid fun W e => evN e (rNext_any a b c x aw W)
  have H7 : Hid (∀ W, Ev (w.alloc (mb a b c)) W → Calls Try.prog 15 #[mk a b c, .bool aw, .int .i64 x] W fun e w' => e = .returned (.tuple #[.int .i64 (msV a b c aw x), .int .i64 (asE a b c [x])]) ∧ Ev (w.alloc (mb a b c)) w') := Lib.hid fun W e => evN e (Missing_any a b c x aw W)
  have H8 : Hid (∀ W, Ev (w.alloc (mb a b c)) W → Calls Try.prog 16 #[mk a b c, .bool aw, .int .i64 x] W fun e w' => e = .returned (.tuple #[.int .i64 (msV a b c aw x), .int .i64 (asE a b c [x])]) ∧ Ev (w.alloc (mb a b c)) w') := Lib.hid fun W e => evN e (rMissing_any a b c x aw W)
  have H9 : Hid (∀ W, Ev (w.alloc (mb a b c)) W → Calls Try.prog 17 #[] W fun e w' => e = .returned (.bool true) ∧ Ev (w.alloc (mb a b c)) w') := Lib.hid fun W e => evN e (awake_any W)
  generalize lqV a b c x = lv at *
  generalize nqV a b c aw x = nv at *
  generalize msV a b c aw x = mv at *
  generalize asE a b c [x] = er at *
  generalize mkE a b c = me at *
  go_enter Try.func3, Try.ntmps3
  go_wp2_with fail
  refine (H1.out _ (Ev.refl _)).mono ?_
  (try clear hev)
  (try clear x0 x1 x2)
  rintro e w1 ⟨rfl, hev⟩
  obtain ⟨⟨x0, x1, x2⟩, -⟩ := HB.out _ hev
  go_wp2_with fail
  refine (H2.out _ hev).mono ?_
  (try clear hev)
  (try clear x0 x1 x2)
  rintro e w1 ⟨rfl, hev⟩
  obtain ⟨⟨x0, x1, x2⟩, -⟩ := HB.out _ hev
  go_wp2_with fail
  go_region_held3 (fun W => (W.cell? ⟨w.heap.size, 0, none⟩ = some (.int .i64 a) ∧ W.cell? ⟨w.heap.size, 1, none⟩ = some (.int .i64 b) ∧ W.cell? ⟨w.heap.size, 2, none⟩ = some (.int .i64 c)) ∧ Ev (w.alloc (mb a b c)) W)
    (first | with_reducible exact HS.out _ (by with_reducible assumption) | with_reducible exact HS.out _ (Ev.drew (by with_reducible assumption)))
    (first | (go_at_call 11; refine (H3.out _ (by first | assumption | exact Ev.drew (by with_reducible assumption))).mono ?_; clear hev; rintro e w' ⟨rfl, hev⟩) | (go_at_call 12; refine (H4.out _ (by first | assumption | exact Ev.drew (by with_reducible assumption))).mono ?_; clear hev; rintro e w' ⟨rfl, hev⟩))
  clear x0 x1 x2
  obtain ⟨⟨x0, x1, x2⟩, -⟩ := HB.out _ hev
  go_wp2_with fail
  refine (H5.out _ hev).mono ?_
  (try clear hev)
  (try clear x0 x1 x2)
  rintro e w1 ⟨rfl, hev⟩
  obtain ⟨⟨x0, x1, x2⟩, -⟩ := HB.out _ hev
  go_wp2_with fail
  refine (H6.out _ hev).mono ?_
  (try clear hev)
  (try clear x0 x1 x2)
  rintro e w1 ⟨rfl, hev⟩
  obtain ⟨⟨x0, x1, x2⟩, -⟩ := HB.out _ hev
  go_wp2_with fail
  refine (H7.out _ hev).mono ?_
  (try clear hev)
  (try clear x0 x1 x2)
  rintro e w1 ⟨rfl, hev⟩
  obtain ⟨⟨x0, x1, x2⟩, -⟩ := HB.out _ hev
  go_wp2_with fail
  refine (H8.out _ hev).mono ?_
  (try clear hev)
  (try clear x0 x1 x2)
  rintro e w1 ⟨rfl, hev⟩
  obtain ⟨⟨x0, x1, x2⟩, -⟩ := HB.out _ hev
  go_wp2_with fail
  refine (H9.out _ hev).mono ?_
  (try clear hev)
  (try clear x0 x1 x2)
  rintro e w1 ⟨rfl, hev⟩
  obtain ⟨⟨x0, x1, x2⟩, -⟩ := HB.out _ hev
  go_wp2_with fail
  go_ret
  exact ⟨ret_b (by simp), (HB.out _ hev).2⟩
end Go.Proofs.Ytnlbkaabhnkkfaa
