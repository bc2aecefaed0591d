import Derived.Test.YtkkmnpjkladhfaaDoorW7
namespace Go.Proofs.YtkkmnpjkladhfaaDoor
open Go.RowKit

/-- two cells, that may be written -/
def Bx2 (W : World) (b : Nat) (x y : Int) : Prop := W.cell? ⟨b, 0, none⟩ = some (.int .i64 x) ∧ W.cell? ⟨b, 1, none⟩ = some (.int .i64 y)
theorem Bx2.ev {a W : World} {b : Nat} {x y : Int} (h : Bx2 a b x y) (hb : b < a.heap.size) (e : Ev a W) : Bx2 W b x y := by
  obtain ⟨c, _⟩ := bc e
  exact ⟨(c _ _ hb).trans h.1, (c _ _ hb).trans h.2⟩
theorem Bx2.new (w : World) (x y : Int) (t : TypeId) : Bx2 (w.alloc (.cells #[.int .i64 x, .int .i64 y] t)) w.heap.size x y := by unfold Bx2; simp
/-- what a walk of Next knows of its three boxes -/
def NB (w W : World) (s r c k p : Int) : Prop :=
  (W.cell? ⟨w.heap.size, 0, none⟩ = some (.int .i64 s) ∧ W.cell? ⟨w.heap.size, 1, none⟩ = some (.int .i64 r) ∧ W.cell? ⟨w.heap.size, 2, none⟩ = some (.int .i64 c)) ∧
  (W.cell? ⟨w.heap.size + 1, 0, none⟩ = some (.int .i64 k) ∧ W.cell? ⟨w.heap.size + 1, 1, none⟩ = some (.int .i64 p)) ∧
  (W.cell? ⟨w.heap.size + 1 + 1, 0, none⟩ = some (.int .i64 0) ∧ W.cell? ⟨w.heap.size + 1 + 1, 1, none⟩ = some (.int .i64 0) ∧ W.cell? ⟨w.heap.size + 1 + 1, 2, none⟩ = some (.int .i64 0)) ∧
  (W.frozen? ⟨w.heap.size + 1 + 1, 0, none⟩ = false ∧ W.frozen? ⟨w.heap.size + 1 + 1, 1, none⟩ = false ∧ W.frozen? ⟨w.heap.size + 1 + 1, 2, none⟩ = false) ∧ Ev w W ∧ w.heap.size + 3 ≤ W.heap.size
theorem NB.of {w W : World} {s r c k p : Int} (e : Ev (w3 w s r c k p) W) : NB w W s r c k p := by
  obtain ⟨h1, h2, h3, h4⟩ := w3_in w s r c k p
  have hk : Bx2 (w3 w s r c k p) (w.heap.size + 1) k p := by
    have := Bx2.new (w.alloc (.cells #[.int .i64 s, .int .i64 r, .int .i64 c] 23)) k p 25
    have t := this.ev (by simp) ((Ev.refl _).alloc (.cells #[.int .i64 0, .int .i64 0, .int .i64 0] 23))
    simpa using t
  obtain ⟨a, _⟩ := h1.ev (by omega) e
  have b := hk.ev (by omega) e
  obtain ⟨d, f⟩ := h2.ev (by omega) e
  exact ⟨a, b, d, f, h3.step e, by have := Below.size e; omega⟩
theorem evN {P : Program} {f : FuncId} {args : Array Value} {w0 W : World} {v : Value} (h : Ev w0 W) (c : Calls P f args W fun e w' => e = .returned v ∧ Ev W w') :
    Calls P f args W fun e w' => e = .returned v ∧ Ev w0 w' := c.mono fun _ _ hh => ⟨hh.1, h.step hh.2⟩
set_option maxHeartbeats 1000000 in
theorem next_any (s r c k p : Int) (w : World) : Calls Tryd.prog 10 #[wt s r c, ev k p] w fun e w' => e = .returned (.tuple #[wt (nxS s r c k p) (nxR s r c k p) (nxC s r c k p), .int .i64 (nxE s r c k p)]) ∧ Ev w w' := by
  have N : Hid (∀ W, Ev (w3 w s r c k p) W → NB w W s r c k p) := Lib.hid fun W e => NB.of e
  have H1 : Hid (∀ W, Ev (w3 w s r c k p) W → Calls Tryd.prog 14 #[wt s r c] W fun e w' => e = .returned (.int .i64 (oChk s r c)) ∧ Ev (w3 w s r c k p) w') := Lib.hid fun W e => ev_call e (check_any s r c W)
  have H2 : Hid (∀ W, Ev (w3 w s r c k p) W → Calls Tryd.prog 33 #[ev k p] W fun e w' => e = .returned (.int .i64 (evE k p)) ∧ Ev (w3 w s r c k p) w') := Lib.hid fun W e => ev_call e (evE_any k p W)
  by_cases h1 : oChk s r c = 0
  · have a := oChk_ok h1
    by_cases h2 : evE k p = 0
    · have b := evE_ok h2
      have H3 : Hid (∀ W, Ev (w3 w s r c k p) W → Calls Tryd.prog 34 #[.int .i64 s, .int .i64 k] W fun e w' => e = .returned (.bool (posB s k)) ∧ Ev (w3 w s r c k p) w') := Lib.hid fun W e => ev_call e (possible_any s k W (by omega) (by omega) (by omega) (by omega))
      have H4 : Hid (∀ W, Ev (w3 w s r c k p) W → Calls Tryd.prog 35 #[wt s r c, .int .i64 k] W fun e w' => e = .returned (.bool (fitB s r k)) ∧ Ev (w3 w s r c k p) w') := Lib.hid fun W e => ev_call e (fits_any s r c k W)
      cases h3 : posB s k with
      | false =>
        have e : nxE s r c k p = 9 := by unfold nxE; rw [if_neg (by simp [h1]), if_neg (by simp [h2]), if_pos h3]
        have e1 : nxS s r c k p = 0 := by unfold nxS; rw [if_neg (by rw [e]; decide)]
        have e2 : nxR s r c k p = 0 := by unfold nxR; rw [if_neg (by rw [e]; decide)]
        have e3 : nxC s r c k p = 0 := by unfold nxC; rw [if_neg (by rw [e]; decide)]
        rw [e, e1, e2, e3]
        rw [h1] at H1
        rw [h2] at H2
        rw [h3] at H3
        clear h1 h2 h3 e e1 e2 e3 a b H4
        go_enter Tryd.func10, Tryd.ntmps10
        go_wp2_with fail
        refine (H1.out _ (Ev.refl _)).mono ?_
        rintro e w0' ⟨rfl, hev⟩
        obtain ⟨⟨x0, x1, x2⟩, ⟨y0, y1⟩, ⟨z0, z1, z2⟩, ⟨f0, f1, f2⟩, hE, hz⟩ := N.out _ hev
        go_wp2_with fail
        refine (H2.out _ hev).mono ?_
        clear hev x0 x1 x2 y0 y1 z0 z1 z2 f0 f1 f2 hE hz
        rintro e w1' ⟨rfl, hev⟩
        obtain ⟨⟨x0, x1, x2⟩, ⟨y0, y1⟩, ⟨z0, z1, z2⟩, ⟨f0, f1, f2⟩, hE, hz⟩ := N.out _ hev
        go_wp2_with fail
        refine (H3.out _ hev).mono ?_
        clear hev x0 x1 x2 y0 y1 z0 z1 z2 f0 f1 f2 hE hz
        rintro e w2' ⟨rfl, hev⟩
        obtain ⟨⟨x0, x1, x2⟩, ⟨y0, y1⟩, ⟨z0, z1, z2⟩, ⟨f0, f1, f2⟩, hE, hz⟩ := N.out _ hev
        go_wp2_with fail
        refine bodyPost_ret (v := .tuple #[wt 0 0 0, .int .i64 9]) (by simp [results, Tryd.results10, go_sem, z0, z1, z2]) rfl ⟨rfl, ?_⟩
        exact ((hE.setC (by simp only []; omega) _).setC (by simp only []; omega) _).setC (by simp only []; omega) _
      | true =>
        cases h4 : fitB s r k with
        | false =>
          have e : nxE s r c k p = 15 := by unfold nxE; rw [if_neg (by simp [h1]), if_neg (by simp [h2]), if_neg (by simp [h3]), if_pos h4]
          have e1 : nxS s r c k p = 0 := by unfold nxS; rw [if_neg (by rw [e]; decide)]
          have e2 : nxR s r c k p = 0 := by unfold nxR; rw [if_neg (by rw [e]; decide)]
          have e3 : nxC s r c k p = 0 := by unfold nxC; rw [if_neg (by rw [e]; decide)]
          rw [e, e1, e2, e3]
          rw [h1] at H1
          rw [h2] at H2
          rw [h3] at H3
          rw [h4] at H4
          clear h1 h2 h3 h4 e e1 e2 e3 a b
          go_enter Tryd.func10, Tryd.ntmps10
          go_wp2_with fail
          refine (H1.out _ (Ev.refl _)).mono ?_
          rintro e w0' ⟨rfl, hev⟩
          obtain ⟨⟨x0, x1, x2⟩, ⟨y0, y1⟩, ⟨z0, z1, z2⟩, ⟨f0, f1, f2⟩, hE, hz⟩ := N.out _ hev
          go_wp2_with fail
          refine (H2.out _ hev).mono ?_
          clear hev x0 x1 x2 y0 y1 z0 z1 z2 f0 f1 f2 hE hz
          rintro e w1' ⟨rfl, hev⟩
          obtain ⟨⟨x0, x1, x2⟩, ⟨y0, y1⟩, ⟨z0, z1, z2⟩, ⟨f0, f1, f2⟩, hE, hz⟩ := N.out _ hev
          go_wp2_with fail
          refine (H3.out _ hev).mono ?_
          clear hev x0 x1 x2 y0 y1 z0 z1 z2 f0 f1 f2 hE hz
          rintro e w2' ⟨rfl, hev⟩
          obtain ⟨⟨x0, x1, x2⟩, ⟨y0, y1⟩, ⟨z0, z1, z2⟩, ⟨f0, f1, f2⟩, hE, hz⟩ := N.out _ hev
          go_wp2_with fail
          refine (H4.out _ hev).mono ?_
          clear hev x0 x1 x2 y0 y1 z0 z1 z2 f0 f1 f2 hE hz
          rintro e w3' ⟨rfl, hev⟩
          obtain ⟨⟨x0, x1, x2⟩, ⟨y0, y1⟩, ⟨z0, z1, z2⟩, ⟨f0, f1, f2⟩, hE, hz⟩ := N.out _ hev
          go_wp2_with fail
          refine bodyPost_ret (v := .tuple #[wt 0 0 0, .int .i64 15]) (by simp [results, Tryd.results10, go_sem, z0, z1, z2]) rfl ⟨rfl, ?_⟩
          exact ((hE.setC (by simp only []; omega) _).setC (by simp only []; omega) _).setC (by simp only []; omega) _
        | true =>
          have e : nxE s r c k p = 0 := by unfold nxE; rw [if_neg (by simp [h1]), if_neg (by simp [h2]), if_neg (by simp [h3]), if_neg (by simp [h4])]
          have H5 : Hid (∀ W, Ev (w3 w s r c k p) W → Calls Tryd.prog 36 #[wt s r c, ev k p] W fun e w' => e = .returned (wt (afS s r k) (afR s r k) (afC s r c k p)) ∧ Ev (w3 w s r c k p) w') := Lib.hid fun W ee => evN ee (after_any W e)
          have e1 : nxS s r c k p = afS s r k := by unfold nxS; rw [if_pos e]
          have e2 : nxR s r c k p = afR s r k := by unfold nxR; rw [if_pos e]
          have e3 : nxC s r c k p = afC s r c k p := by unfold nxC; rw [if_pos e]
          rw [e, e1, e2, e3]
          rw [h1] at H1
          rw [h2] at H2
          rw [h3] at H3
          rw [h4] at H4
          clear h1 h2 h3 h4 e e1 e2 e3 a b
          generalize afS s r k = s' at *
          generalize afR s r k = r' at *
          generalize afC s r c k p = c' at *
          go_enter Tryd.func10, Tryd.ntmps10
          go_wp2_with fail
          refine (H1.out _ (Ev.refl _)).mono ?_
          rintro e w0' ⟨rfl, hev⟩
          obtain ⟨⟨x0, x1, x2⟩, ⟨y0, y1⟩, ⟨z0, z1, z2⟩, ⟨f0, f1, f2⟩, hE, hz⟩ := N.out _ hev
          go_wp2_with fail
          refine (H2.out _ hev).mono ?_
          clear hev x0 x1 x2 y0 y1 z0 z1 z2 f0 f1 f2 hE hz
          rintro e w1' ⟨rfl, hev⟩
          obtain ⟨⟨x0, x1, x2⟩, ⟨y0, y1⟩, ⟨z0, z1, z2⟩, ⟨f0, f1, f2⟩, hE, hz⟩ := N.out _ hev
          go_wp2_with fail
          refine (H3.out _ hev).mono ?_
          clear hev x0 x1 x2 y0 y1 z0 z1 z2 f0 f1 f2 hE hz
          rintro e w2' ⟨rfl, hev⟩
          obtain ⟨⟨x0, x1, x2⟩, ⟨y0, y1⟩, ⟨z0, z1, z2⟩, ⟨f0, f1, f2⟩, hE, hz⟩ := N.out _ hev
          go_wp2_with fail
          refine (H4.out _ hev).mono ?_
          clear hev x0 x1 x2 y0 y1 z0 z1 z2 f0 f1 f2 hE hz
          rintro e w3' ⟨rfl, hev⟩
          obtain ⟨⟨x0, x1, x2⟩, ⟨y0, y1⟩, ⟨z0, z1, z2⟩, ⟨f0, f1, f2⟩, hE, hz⟩ := N.out _ hev
          go_wp2_with fail
          refine (H5.out _ hev).mono ?_
          clear hev x0 x1 x2 y0 y1 z0 z1 z2 f0 f1 f2 hE hz
          rintro e w4' ⟨rfl, hev⟩
          obtain ⟨⟨x0, x1, x2⟩, ⟨y0, y1⟩, ⟨z0, z1, z2⟩, ⟨f0, f1, f2⟩, hE, hz⟩ := N.out _ hev
          go_wp2_with fail
          refine bodyPost_ret (v := .tuple #[wt s' r' c', .int .i64 0]) (by simp [results, Tryd.results10, go_sem, z0, z1, z2]) rfl ⟨rfl, ?_⟩
          exact ((hE.setC (by simp only []; omega) _).setC (by simp only []; omega) _).setC (by simp only []; omega) _
    · have e : nxE s r c k p = evE k p := by unfold nxE; rw [if_neg (by simp [h1]), if_pos h2]
      have e1 : nxS s r c k p = 0 := by unfold nxS; rw [if_neg (by rw [e]; exact h2)]
      have e2 : nxR s r c k p = 0 := by unfold nxR; rw [if_neg (by rw [e]; exact h2)]
      have e3 : nxC s r c k p = 0 := by unfold nxC; rw [if_neg (by rw [e]; exact h2)]
      rw [e, e1, e2, e3]
      rw [h1] at H1
      have h2' : (evE k p != 0) = true := by simpa using h2
      clear h1 h2 e e1 e2 e3 a
      generalize evE k p = ee at *
      go_enter Tryd.func10, Tryd.ntmps10
      go_wp2_with fail
      refine (H1.out _ (Ev.refl _)).mono ?_
      rintro e w0' ⟨rfl, hev⟩
      obtain ⟨⟨x0, x1, x2⟩, ⟨y0, y1⟩, ⟨z0, z1, z2⟩, ⟨f0, f1, f2⟩, hE, hz⟩ := N.out _ hev
      go_wp2_with fail
      refine (H2.out _ hev).mono ?_
      clear hev x0 x1 x2 y0 y1 z0 z1 z2 f0 f1 f2 hE hz
      rintro e w1' ⟨rfl, hev⟩
      obtain ⟨⟨x0, x1, x2⟩, ⟨y0, y1⟩, ⟨z0, z1, z2⟩, ⟨f0, f1, f2⟩, hE, hz⟩ := N.out _ hev
      go_wp2_with fail
      refine bodyPost_ret (v := .tuple #[wt 0 0 0, .int .i64 ee]) (by simp [results, Tryd.results10, go_sem, z0, z1, z2]) rfl ⟨rfl, ?_⟩
      exact ((hE.setC (by simp only []; omega) _).setC (by simp only []; omega) _).setC (by simp only []; omega) _
  · have e : nxE s r c k p = oChk s r c := by unfold nxE; rw [if_pos h1]
    have e1 : nxS s r c k p = 0 := by unfold nxS; rw [if_neg (by rw [e]; exact h1)]
    have e2 : nxR s r c k p = 0 := by unfold nxR; rw [if_neg (by rw [e]; exact h1)]
    have e3 : nxC s r c k p = 0 := by unfold nxC; rw [if_neg (by rw [e]; exact h1)]
    rw [e, e1, e2, e3]
    have h1' : (oChk s r c != 0) = true := by simpa using h1
    clear h1 e e1 e2 e3
    generalize oChk s r c = ee at *
    go_enter Tryd.func10, Tryd.ntmps10
    go_wp2_with fail
    refine (H1.out _ (Ev.refl _)).mono ?_
    rintro e w0' ⟨rfl, hev⟩
    obtain ⟨⟨x0, x1, x2⟩, ⟨y0, y1⟩, ⟨z0, z1, z2⟩, ⟨f0, f1, f2⟩, hE, hz⟩ := N.out _ hev
    go_wp2_with fail
    refine bodyPost_ret (v := .tuple #[wt 0 0 0, .int .i64 ee]) (by simp [results, Tryd.results10, go_sem, z0, z1, z2]) rfl ⟨rfl, ?_⟩
    exact ((hE.setC (by simp only []; omega) _).setC (by simp only []; omega) _).setC (by simp only []; omega) _
end Go.Proofs.YtkkmnpjkladhfaaDoor
