import Derived.Test.YtkneonfhikcdkaaDoorO3
namespace Go.Proofs.YtkneonfhikcdkaaDoor
open Go.RowKit

set_option maxHeartbeats 400000 in
theorem buddy_any (x o : Int) (w : World) : Calls Tryd.prog 18 #[bk x o] w fun e w' => e = .returned (.tuple #[bk (if childE x o = 0 then bud x o else 0) (if childE x o = 0 then o else 0), .int .i64 (childE x o)]) ∧ Ev w w' := by
  obtain ⟨p1, p2, p3, p4⟩ := b2_in w x o
  have HS : Hid (∀ W, Ev (b2 w x o) W → (W.cell? ⟨w.heap.size, 0, none⟩ = some (.int .i64 x) ∧ W.cell? ⟨w.heap.size, 1, none⟩ = some (.int .i64 o)) ∧ Bw2 W (w.heap.size + 1) 0 0 ∧ Ev w W) := Lib.hid fun W e => ⟨(p1.ev (by omega) e).1, p2.ev (by omega) e, p3.step e⟩
  have H1 : Hid (∀ W, Ev (b2 w x o) W → Calls Tryd.prog 41 #[bk x o] W fun e w' => e = .returned (.int .i64 (childE x o)) ∧ Ev (b2 w x o) w') := Lib.hid fun W e => evN e (child_any x o W)
  by_cases h : childE x o = 0
  · rw [if_pos h, if_pos h, h]
    rw [h] at H1
    obtain ⟨h1, h2⟩ := childE_ok h
    have H2 : Hid (∀ W, Ev (b2 w x o) W → Calls Tryd.prog 42 #[bk x o] W fun e w' => e = .returned (bk (bud x o) (o)) ∧ Ev (b2 w x o) w') := Lib.hid fun W e => evN e (buddy1_any x o W h1 h2)
    clear h h1 h2 p1 p2 p3 p4
    generalize bud x o = b' at *
    generalize o = o' at *
    go_enter Tryd.func18, Tryd.ntmps18
    go_wp2_with fail
    refine (H1.out _ (Ev.refl _)).mono ?_
    rintro e w1 ⟨rfl, hev⟩
    obtain ⟨⟨x0, x1⟩, ⟨⟨y0, y1⟩, f0, f1⟩, hE⟩ := HS.out _ hev
    go_wp2_with fail
    refine (H2.out _ hev).mono ?_
    clear hev x0 x1 y0 y1 f0 f1 hE
    rintro e w2 ⟨rfl, hev⟩
    obtain ⟨⟨x0, x1⟩, ⟨⟨y0, y1⟩, f0, f1⟩, hE⟩ := HS.out _ hev
    go_wp2_with fail
    refine bodyPost_ret (v := .tuple #[bk b' o', .int .i64 0]) (by simp [results, Tryd.results18, go_sem, y0, y1]) rfl ⟨rfl, ?_⟩
    exact (hE.setC (by simp only []; omega) _).setC (by simp only []; omega) _
  · rw [if_neg h, if_neg h]
    have h0 : (childE x o != 0) = true := by simpa using h
    clear h p1 p2 p3 p4
    generalize childE x o = ee at *
    go_enter Tryd.func18, Tryd.ntmps18
    go_wp2_with fail
    refine (H1.out _ (Ev.refl _)).mono ?_
    rintro e w1 ⟨rfl, hev⟩
    obtain ⟨⟨x0, x1⟩, ⟨⟨y0, y1⟩, f0, f1⟩, hE⟩ := HS.out _ hev
    go_wp2_with fail
    refine bodyPost_ret (v := .tuple #[bk 0 0, .int .i64 ee]) (by simp [results, Tryd.results18, go_sem, y0, y1]) rfl ⟨rfl, ?_⟩
    exact (hE.setC (by simp only []; omega) _).setC (by simp only []; omega) _

set_option maxHeartbeats 400000 in
theorem parent_any (x o : Int) (w : World) : Calls Tryd.prog 20 #[bk x o] w fun e w' => e = .returned (.tuple #[bk (if childE x o = 0 then par x o else 0) (if childE x o = 0 then o + 1 else 0), .int .i64 (childE x o)]) ∧ Ev w w' := by
  obtain ⟨p1, p2, p3, p4⟩ := b2_in w x o
  have HS : Hid (∀ W, Ev (b2 w x o) W → (W.cell? ⟨w.heap.size, 0, none⟩ = some (.int .i64 x) ∧ W.cell? ⟨w.heap.size, 1, none⟩ = some (.int .i64 o)) ∧ Bw2 W (w.heap.size + 1) 0 0 ∧ Ev w W) := Lib.hid fun W e => ⟨(p1.ev (by omega) e).1, p2.ev (by omega) e, p3.step e⟩
  have H1 : Hid (∀ W, Ev (b2 w x o) W → Calls Tryd.prog 41 #[bk x o] W fun e w' => e = .returned (.int .i64 (childE x o)) ∧ Ev (b2 w x o) w') := Lib.hid fun W e => evN e (child_any x o W)
  by_cases h : childE x o = 0
  · rw [if_pos h, if_pos h, h]
    rw [h] at H1
    obtain ⟨h1, h2⟩ := childE_ok h
    have H2 : Hid (∀ W, Ev (b2 w x o) W → Calls Tryd.prog 44 #[bk x o] W fun e w' => e = .returned (bk (par x o) (o + 1)) ∧ Ev (b2 w x o) w') := Lib.hid fun W e => evN e (parent1_any x o W h1 h2)
    clear h h1 h2 p1 p2 p3 p4
    generalize par x o = b' at *
    generalize o + 1 = o' at *
    go_enter Tryd.func20, Tryd.ntmps20
    go_wp2_with fail
    refine (H1.out _ (Ev.refl _)).mono ?_
    rintro e w1 ⟨rfl, hev⟩
    obtain ⟨⟨x0, x1⟩, ⟨⟨y0, y1⟩, f0, f1⟩, hE⟩ := HS.out _ hev
    go_wp2_with fail
    refine (H2.out _ hev).mono ?_
    clear hev x0 x1 y0 y1 f0 f1 hE
    rintro e w2 ⟨rfl, hev⟩
    obtain ⟨⟨x0, x1⟩, ⟨⟨y0, y1⟩, f0, f1⟩, hE⟩ := HS.out _ hev
    go_wp2_with fail
    refine bodyPost_ret (v := .tuple #[bk b' o', .int .i64 0]) (by simp [results, Tryd.results20, go_sem, y0, y1]) rfl ⟨rfl, ?_⟩
    exact (hE.setC (by simp only []; omega) _).setC (by simp only []; omega) _
  · rw [if_neg h, if_neg h]
    have h0 : (childE x o != 0) = true := by simpa using h
    clear h p1 p2 p3 p4
    generalize childE x o = ee at *
    go_enter Tryd.func20, Tryd.ntmps20
    go_wp2_with fail
    refine (H1.out _ (Ev.refl _)).mono ?_
    rintro e w1 ⟨rfl, hev⟩
    obtain ⟨⟨x0, x1⟩, ⟨⟨y0, y1⟩, f0, f1⟩, hE⟩ := HS.out _ hev
    go_wp2_with fail
    refine bodyPost_ret (v := .tuple #[bk 0 0, .int .i64 ee]) (by simp [results, Tryd.results20, go_sem, y0, y1]) rfl ⟨rfl, ?_⟩
    exact (hE.setC (by simp only []; omega) _).setC (by simp only []; omega) _
end Go.Proofs.YtkneonfhikcdkaaDoor
