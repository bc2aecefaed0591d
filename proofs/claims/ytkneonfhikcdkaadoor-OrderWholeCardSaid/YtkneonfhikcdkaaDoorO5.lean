import Derived.Test.YtkneonfhikcdkaaDoorO4
namespace Go.Proofs.YtkneonfhikcdkaaDoor
open Go.RowKit

set_option maxHeartbeats 400000 in
theorem rbuddy_any (x o : Int) (w : World) : Calls Tryd.prog 19 #[bk x o] w fun e w' => e = .returned (.tuple #[bk (if childE x o = 0 then bud x o else 0) (if childE x o = 0 then o else 0), .int .i64 (childE x o)]) ∧ Ev w w' := by
  obtain ⟨p1, p2, p3, p4⟩ := b2_in w x o
  have HS : Hid (∀ W, Ev (b2 w x o) W → (W.cell? ⟨w.heap.size, 0, none⟩ = some (.int .i64 x) ∧ W.cell? ⟨w.heap.size, 1, none⟩ = some (.int .i64 o)) ∧ Bw2 W (w.heap.size + 1) 0 0 ∧ Ev w W) := Lib.hid fun W e => ⟨(p1.ev (by omega) e).1, p2.ev (by omega) e, p3.step e⟩
  have H1 : Hid (∀ W, Ev (b2 w x o) W → Calls Tryd.prog 23 #[bk x o] W fun e w' => e = .returned (.int .i64 (blkE x o)) ∧ Ev (b2 w x o) w') := Lib.hid fun W e => ev_call e (rcheck_any x o W)
  by_cases h : blkE x o = 0
  · rcases (show o = 6 ∨ o ≠ 6 by omega) with rfl | h6
    · have e1 : childE x 6 = 2 := by unfold childE; rw [if_neg (by simp [h]), if_pos rfl]
      rw [if_neg (by rw [e1]; decide), if_neg (by rw [e1]; decide), e1]
      rw [h] at H1
      clear h e1 p1 p2 p3 p4
      go_enter Tryd.func19, Tryd.ntmps19
      go_wp2_with fail
      refine (H1.out _ (Ev.refl _)).mono ?_
      rintro e w1 ⟨rfl, hev⟩
      obtain ⟨⟨x0, x1⟩, ⟨⟨y0, y1⟩, f0, f1⟩, hE⟩ := HS.out _ hev
      go_wp2_with fail
      refine bodyPost_ret (v := .tuple #[bk 0 0, .int .i64 2]) (by simp [results, Tryd.results19, go_sem, y0, y1]) rfl ⟨rfl, ?_⟩
      exact (hE.setC (by simp only []; omega) _).setC (by simp only []; omega) _
    · have e1 : childE x o = 0 := by unfold childE; rw [if_neg (by simp [h]), if_neg h6]
      rw [if_pos e1, if_pos e1, e1]
      rw [h] at H1
      have H2 : Hid (∀ W, Ev (b2 w x o) W → Calls Tryd.prog 43 #[bk x o] W fun e w' => e = .returned (bk (bud x o) o) ∧ Ev (b2 w x o) w') := Lib.hid fun W e => evN e (rbuddy1_any x o W h)
      have h6' : (o == 6) = false := by simpa using h6
      clear h e1 h6 p1 p2 p3 p4
      generalize bud x o = b' at *
      go_enter Tryd.func19, Tryd.ntmps19
      go_wp2_with fail
      refine (H1.out _ (Ev.refl _)).mono ?_
      rintro e w1 ⟨rfl, hev⟩
      obtain ⟨⟨x0, x1⟩, ⟨⟨y0, y1⟩, f0, f1⟩, hE⟩ := HS.out _ hev
      go_wp2_with fail
      refine (H2.out _ hev).mono ?_
      clear hev x0 x1 y0 y1 f0 f1 hE
      rintro e w2 ⟨rfl, hev⟩
      obtain ⟨⟨x0, x1⟩, ⟨⟨y0, y1⟩, f0, f1⟩, hE⟩ := HS.out _ hev
      go_wp2_with fail
      refine bodyPost_ret (v := .tuple #[bk b' o, .int .i64 0]) (by simp [results, Tryd.results19, go_sem, y0, y1]) rfl ⟨rfl, ?_⟩
      exact (hE.setC (by simp only []; omega) _).setC (by simp only []; omega) _
  · have e1 : childE x o = blkE x o := by unfold childE; rw [if_pos h]
    rw [if_neg (by rw [e1]; exact h), if_neg (by rw [e1]; exact h), e1]
    have h0 : (blkE x o != 0) = true := by simpa using h
    have h1 : (blkE x o == 0) = false := by simpa using h
    clear h e1 p1 p2 p3 p4
    generalize blkE x o = ee at *
    go_enter Tryd.func19, Tryd.ntmps19
    go_wp2_with fail
    refine (H1.out _ (Ev.refl _)).mono ?_
    rintro e w1 ⟨rfl, hev⟩
    obtain ⟨⟨x0, x1⟩, ⟨⟨y0, y1⟩, f0, f1⟩, hE⟩ := HS.out _ hev
    go_wp2_with fail
    refine bodyPost_ret (v := .tuple #[bk 0 0, .int .i64 ee]) (by simp [results, Tryd.results19, go_sem, y0, y1]) rfl ⟨rfl, ?_⟩
    exact (hE.setC (by simp only []; omega) _).setC (by simp only []; omega) _
theorem Bw2.setA {W : World} {b : Nat} {x y : Int} (h : Bw2 W b x y) (hb : b < W.heap.size) (x' y' u v : Int) (T : TypeId) :
    (((W.setCell ⟨b, 0, none⟩ (.int .i64 x')).setCell ⟨b, 1, none⟩ (.int .i64 y')).alloc (.cells #[.int .i64 u, .int .i64 v] T)).cell? ⟨b, 0, none⟩ = some (.int .i64 x') ∧
    (((W.setCell ⟨b, 0, none⟩ (.int .i64 x')).setCell ⟨b, 1, none⟩ (.int .i64 y')).alloc (.cells #[.int .i64 u, .int .i64 v] T)).cell? ⟨b, 1, none⟩ = some (.int .i64 y') := by
  obtain ⟨⟨h1, h2⟩, h4, h5⟩ := h
  have hs : Bw2 ((W.setCell ⟨b, 0, none⟩ (.int .i64 x')).setCell ⟨b, 1, none⟩ (.int .i64 y')) b x' y' := by unfold Bw2; simp [h1, h2, h4, h5, go_sem]
  exact (hs.ev (by simp; omega) ((Ev.refl _).alloc _)).1
set_option maxHeartbeats 400000 in
theorem rparent_any (x o : Int) (w : World) : Calls Tryd.prog 21 #[bk x o] w fun e w' => e = .returned (.tuple #[bk (if childE x o = 0 then par x o else 0) (if childE x o = 0 then o + 1 else 0), .int .i64 (childE x o)]) ∧ Ev w w' := by
  obtain ⟨p1, p2, p3, p4⟩ := b2_in w x o
  have HS : Hid (∀ W, Ev (b2 w x o) W → (W.cell? ⟨w.heap.size, 0, none⟩ = some (.int .i64 x) ∧ W.cell? ⟨w.heap.size, 1, none⟩ = some (.int .i64 o)) ∧ Bw2 W (w.heap.size + 1) 0 0 ∧ Ev w W ∧ w.heap.size < W.heap.size ∧ w.heap.size + 1 < W.heap.size) := Lib.hid fun W e => ⟨(p1.ev (by omega) e).1, p2.ev (by omega) e, p3.step e, by have := Below.size e; omega, by have := Below.size e; omega⟩
  have H1 : Hid (∀ W, Ev (b2 w x o) W → Calls Tryd.prog 19 #[bk x o] W fun e w' => e = .returned (.tuple #[bk (if childE x o = 0 then bud x o else 0) (if childE x o = 0 then o else 0), .int .i64 (childE x o)]) ∧ Ev (b2 w x o) w') := Lib.hid fun W e => evN e (rbuddy_any x o W)
  by_cases h : childE x o = 0
  · rw [if_pos h, if_pos h, h]
    rw [if_pos h, if_pos h, h] at H1
    obtain ⟨h1, h2⟩ := childE_ok h
    obtain ⟨q1, q2, q3, q4, q5⟩ := bud_bd h1 h2
    obtain ⟨r1, r2, r3, _, _⟩ := blkE_ok h1
    have Q5 := Lib.hid q5
    clear h h1 h2 p1 p2 p3 p4 q5
    generalize bud x o = b' at *
    generalize par x o = pp at *
    go_enter Tryd.func21, Tryd.ntmps21
    go_wp2_with fail
    refine (H1.out _ (Ev.refl _)).mono ?_
    rintro e w1 ⟨rfl, hev⟩
    obtain ⟨⟨x0, x1⟩, ⟨⟨y0, y1⟩, f0, f1⟩, hE, hz, hz1⟩ := HS.out _ hev
    have hbw : Bw2 w1 (w.heap.size + 1) 0 0 := ⟨⟨y0, y1⟩, f0, f1⟩
    have HBW := Lib.hid hbw
    clear hbw
    go_wp2_with fail
    obtain ⟨t0, t1⟩ := HBW.out.setA hz1 (min x b') (o + 1) b' o 28
    refine bodyPost_ret (v := .tuple #[bk (min x b') (o + 1), .int .i64 0]) (by simp [results, Tryd.results21, go_sem, t0, t1]) rfl ⟨by rw [Q5.out], ?_⟩
    exact ((hE.setC (by simp only []; omega) _).setC (by simp only []; omega) _).alloc _
  · rw [if_neg h, if_neg h]
    rw [if_neg h, if_neg h] at H1
    have h0 : (childE x o != 0) = true := by simpa using h
    clear h p1 p2 p3 p4
    generalize childE x o = ee at *
    go_enter Tryd.func21, Tryd.ntmps21
    go_wp2_with fail
    refine (H1.out _ (Ev.refl _)).mono ?_
    rintro e w1 ⟨rfl, hev⟩
    obtain ⟨⟨x0, x1⟩, ⟨⟨y0, y1⟩, f0, f1⟩, hE, hz, hz1⟩ := HS.out _ hev
    have hbw : Bw2 w1 (w.heap.size + 1) 0 0 := ⟨⟨y0, y1⟩, f0, f1⟩
    have HBW := Lib.hid hbw
    clear hbw
    go_wp2_with fail
    obtain ⟨t0, t1⟩ := HBW.out.setA hz1 0 0 0 0 28
    refine bodyPost_ret (v := .tuple #[bk 0 0, .int .i64 ee]) (by simp [results, Tryd.results21, go_sem, t0, t1]) rfl ⟨rfl, ?_⟩
    exact ((hE.setC (by simp only []; omega) _).setC (by simp only []; omega) _).alloc _
end Go.Proofs.YtkneonfhikcdkaaDoor
