import Derived.Test.YtnlbkaabhnkkfaaP6
namespace Go.Proofs.Ytnlbkaabhnkkfaa
open Go.RowKit
/-- the worst of a history, and where it comes first -/
def worL (a b c : Int) (w t : Int) : Nat → List Int → Int × Int
  | _, [] => (w, t)
  | i, x :: r => if t < 0 ∨ w < lvV a b c x then worL a b c (lvV a b c x) i (i + 1) r else worL a b c w t (i + 1) r
theorem worL_drop (a b c w t : Int) (l : List Int) (j : Nat) (h : j < l.length) : worL a b c w t j (l.drop j) =
    if t < 0 ∨ w < lvV a b c (l.getD j 0) then worL a b c (lvV a b c (l.getD j 0)) j (j + 1) (l.drop (j + 1)) else worL a b c w t (j + 1) (l.drop (j + 1)) := by
  rw [List.drop_eq_getElem_cons h, worL]
  simp [List.getD, h]
def woV (a b c : Int) (l : List Int) : Int × Int := if asE a b c l = 0 then worL a b c 0 (-1) 0 l else (0, 0)
set_option maxHeartbeats 2000000 in
theorem Worst_any (a b c : Int) (A : Option Addr) (cap : Nat) (l : List Int) (w : World) (hr : RdI w A l) :
    Calls Try.prog 25 #[mk a b c, .slice A l.length cap] w fun e w' => e = .returned (.tuple #[.int .i64 (woV a b c l).1, .int .i64 (woV a b c l).2, .int .i64 (asE a b c l)]) ∧ Ev w w' := by
  have H : Hid (∀ W, Ev w W → Calls Try.prog 35 #[mk a b c, .slice A l.length cap] W fun e w' => e = .returned (.int .i64 (asE a b c l)) ∧ Ev W w') := Lib.hid fun W e => chk_any a b c A cap l W (hr.ev e)
  have HB : Hid (∀ W, Ev (w.alloc (mb a b c)) W → (W.cell? ⟨w.heap.size, 0, none⟩ = some (.int .i64 a) ∧ W.cell? ⟨w.heap.size, 1, none⟩ = some (.int .i64 b) ∧ W.cell? ⟨w.heap.size, 2, none⟩ = some (.int .i64 c)) ∧ Ev w W) := Lib.hid fun W e => ⟨by refine ⟨?_, ?_, ?_⟩ <;> (rw [e.cell (by simp)]; simp), ((Ev.refl w).alloc _).step e⟩
  have HA := Lib.hid ((Ev.refl w).alloc (mb a b c))
  have hlen := hr.1
  by_cases h : asE a b c l = 0
  · obtain ⟨R, hR⟩ : ∃ R, R = woV a b c l := ⟨_, rfl⟩
    rw [← hR, h]
    rw [h] at H
    have HR : Hid (R = worL a b c 0 (-1) 0 l) := Lib.hid (by rw [hR]; unfold woV; rw [if_pos h])
    have H2 : Hid (∀ x W, Calls Try.prog 36 #[mk a b c, .int .i64 x] W fun e w' => e = .returned (.int .i64 (lvV a b c x)) ∧ Ev W w') := Lib.hid fun x W => level_any a b c x W
    have HRD := Lib.hid hr
    clear h hR hr
    go_enter Try.func25, Try.ntmps25
    go_wp2_with fail
    refine (H.out _ HA.out).mono ?_
    rintro e w1 ⟨rfl, hev⟩
    have HE := Lib.hid hev
    clear hev
    go_wp2_with fail
    go_loopw [4, 5, 19] (fun ws t i wr => ∃ (j : Nat) (wv av : Int), j ≤ l.length ∧ i = .int .i64 j ∧ ws = .int .i64 wv ∧ t = .int .i64 av ∧ -1 ≤ av ∧ worL a b c wv av j (l.drop j) = R ∧ Ev (w.alloc (mb a b c)) wr) (fun _ _ i _ => l.length - (intOf i).toNat)
    case atStart => exact ⟨0, 0, -1, by omega, rfl, rfl, rfl, by omega, HR.out.symm, HE.out⟩
    case round =>
      obtain ⟨j, wv, av, hj, rfl, rfl, rfl, hav, hx, hev⟩ := hrel
      obtain ⟨⟨x0, x1, x2⟩, hE⟩ := HB.out _ hev
      by_cases hlt : j < l.length
      · rw [worL_drop a b c wv av l j hlt] at hx
        obtain ⟨b', o, rfl, hb, c1⟩ := (HRD.out.ev hE).2 j hlt
        generalize l.getD j 0 = x at *
        have hlt' : (j : Int) < (l.length : Int) := by omega
        have hj0 : 0 ≤ (j : Int) := by omega
        have HC : Hid (∀ W, Calls Try.prog 36 #[mk a b c, .int .i64 x] W fun e w' => e = .returned (.int .i64 (lvV a b c x)) ∧ Ev W w') := Lib.hid fun W => H2.out x W
        generalize lvV a b c x = lv at *
        have HEV := Lib.hid hev
        rcases (show av = -1 ∨ (0 ≤ av ∧ wv < lv) ∨ (0 ≤ av ∧ lv ≤ wv) by omega) with rfl | ⟨h1, h2⟩ | ⟨h1, h2⟩
        · rw [if_pos (by omega)] at hx
          have HX := Lib.hid hx
          clear hx hev hE
          go_wp2_with fail
          refine (HC.out _).mono ?_
          rintro e w2 ⟨rfl, hev2⟩
          have HF := Lib.hid (HEV.out.step hev2)
          clear hev2 x0 x1 x2 c1
          go_wp2_with fail
          go_roundw
          case rel => exact ⟨j + 1, lv, j, by omega, by go_num, rfl, rfl, by omega, HX.out, HF.out⟩
          case measure => simp [intOf]; omega
        · rw [if_pos (by omega)] at hx
          have HX := Lib.hid hx
          have g1 : (av == -1) = false := by simp; omega
          clear hx hev hE
          go_wp2_with fail
          refine (HC.out _).mono ?_
          rintro e w2 ⟨rfl, hev2⟩
          have HF := Lib.hid (HEV.out.step hev2)
          clear hev2 x0 x1 x2 c1
          go_wp2_with fail
          go_roundw
          case rel => exact ⟨j + 1, lv, j, by omega, by go_num, rfl, rfl, by omega, HX.out, HF.out⟩
          case measure => simp [intOf]; omega
        · rw [if_neg (by omega)] at hx
          have HX := Lib.hid hx
          have g1 : (av == -1) = false := by simp; omega
          clear hx hev hE
          go_wp2_with fail
          refine (HC.out _).mono ?_
          rintro e w2 ⟨rfl, hev2⟩
          have HF := Lib.hid (HEV.out.step hev2)
          clear hev2 x0 x1 x2 c1
          go_wp2_with fail
          go_roundw
          case rel => exact ⟨j + 1, wv, av, by omega, by go_num, rfl, rfl, by omega, HX.out, HF.out⟩
          case measure => simp [intOf]; omega
      · obtain rfl : j = l.length := by omega
        have HX : Hid ((wv, av) = R) := Lib.hid (by rw [← hx, List.drop_length]; simp [worL])
        have HEF := Lib.hid hE
        clear hx hev hE
        go_wp2_with fail
        go_ret3
        rw [← HX.out]
        exact ⟨rfl, HEF.out⟩
  · have e : woV a b c l = (0, 0) := by unfold woV; rw [if_neg h]
    have h' : (asE a b c l != 0) = true := by simpa using h
    rw [e]
    clear e h hr
    generalize asE a b c l = er at *
    go_enter Try.func25, Try.ntmps25
    go_wp2_with fail
    refine (H.out _ HA.out).mono ?_
    rintro e w1 ⟨rfl, hev⟩
    have hf := HA.out.step hev
    clear hev
    go_wp2_with fail
    go_ret3
    exact ⟨rfl, hf⟩
set_option maxHeartbeats 2000000 in
theorem rWorst_any (a b c : Int) (A : Option Addr) (cap : Nat) (l : List Int) (w : World) (hr : RdI w A l) :
    Calls Try.prog 26 #[mk a b c, .slice A l.length cap] w fun e w' => e = .returned (.tuple #[.int .i64 (woV a b c l).1, .int .i64 (woV a b c l).2, .int .i64 (asE a b c l)]) ∧ Ev w w' := by
  have H : Hid (∀ W, Ev w W → Calls Try.prog 37 #[mk a b c, .slice A l.length cap] W fun e w' => e = .returned (.int .i64 (asE a b c l)) ∧ Ev W w') := Lib.hid fun W e => asks_any a b c A cap l W (hr.ev e)
  have HB : Hid (∀ W, Ev (w.alloc (mb a b c)) W → (W.cell? ⟨w.heap.size, 0, none⟩ = some (.int .i64 a) ∧ W.cell? ⟨w.heap.size, 1, none⟩ = some (.int .i64 b) ∧ W.cell? ⟨w.heap.size, 2, none⟩ = some (.int .i64 c)) ∧ Ev w W) := Lib.hid fun W e => ⟨by refine ⟨?_, ?_, ?_⟩ <;> (rw [e.cell (by simp)]; simp), ((Ev.refl w).alloc _).step e⟩
  have HA := Lib.hid ((Ev.refl w).alloc (mb a b c))
  have hlen := hr.1
  by_cases h : asE a b c l = 0
  · obtain ⟨R, hR⟩ : ∃ R, R = woV a b c l := ⟨_, rfl⟩
    rw [← hR, h]
    rw [h] at H
    have HR : Hid (R = worL a b c 0 (-1) 0 l) := Lib.hid (by rw [hR]; unfold woV; rw [if_pos h])
    have H2 : Hid (∀ x W, Calls Try.prog 38 #[mk a b c, .int .i64 x] W fun e w' => e = .returned (.int .i64 (lvV a b c x)) ∧ Ev W w') := Lib.hid fun x W => rlevel_any a b c x W
    have HRD := Lib.hid hr
    clear h hR hr
    go_enter Try.func26, Try.ntmps26
    go_wp2_with fail
    refine (H.out _ HA.out).mono ?_
    rintro e w1 ⟨rfl, hev⟩
    have HE := Lib.hid hev
    clear hev
    go_wp2_with fail
    go_loopw [8, 9, 10] (fun ws t i wr => ∃ (j : Nat) (wv av : Int), j ≤ l.length ∧ i = .int .i64 j ∧ ws = .int .i64 wv ∧ t = .int .i64 av ∧ -1 ≤ av ∧ worL a b c wv av j (l.drop j) = R ∧ Ev (w.alloc (mb a b c)) wr) (fun _ _ i _ => l.length - (intOf i).toNat)
    case atStart => exact ⟨0, 0, -1, by omega, rfl, rfl, rfl, by omega, HR.out.symm, HE.out⟩
    case round =>
      obtain ⟨j, wv, av, hj, rfl, rfl, rfl, hav, hx, hev⟩ := hrel
      obtain ⟨⟨x0, x1, x2⟩, hE⟩ := HB.out _ hev
      by_cases hlt : j < l.length
      · rw [worL_drop a b c wv av l j hlt] at hx
        obtain ⟨b', o, rfl, hb, c1⟩ := (HRD.out.ev hE).2 j hlt
        generalize l.getD j 0 = x at *
        have hlt' : (j : Int) < (l.length : Int) := by omega
        have hj0 : 0 ≤ (j : Int) := by omega
        have HC : Hid (∀ W, Ev wr W → Calls Try.prog 38 #[mk a b c, .int .i64 x] W fun e w' => e = .returned (.int .i64 (lvV a b c x)) ∧ Ev wr w') := Lib.hid fun W e => (H2.out x W).mono fun _ _ hh => ⟨hh.1, e.step hh.2⟩
        generalize lvV a b c x = lv at *
        have HEV := Lib.hid hev
        have HS : Hid (∀ W, Ev wr W → ((W.cell? ⟨w.heap.size, 0, none⟩ = some (.int .i64 a) ∧ W.cell? ⟨w.heap.size, 1, none⟩ = some (.int .i64 b) ∧ W.cell? ⟨w.heap.size, 2, none⟩ = some (.int .i64 c)) ∧ W.cell? ⟨b', o + j, none⟩ = some (.int .i64 x)) ∧ Ev wr W) := Lib.hid fun W e => ⟨⟨(HB.out _ (HEV.out.step e)).1, by rw [e.cell (p := ⟨b', o + j, none⟩) hb]; exact c1⟩, e⟩
        have hcs : ∃ wv' av' : Int, -1 ≤ av' ∧ worL a b c wv' av' (j + 1) (l.drop (j + 1)) = R ∧ ((av = -1 ∧ wv' = lv ∧ av' = j) ∨ (0 ≤ av ∧ wv < lv ∧ wv' = lv ∧ av' = j) ∨ (0 ≤ av ∧ lv ≤ wv ∧ wv' = wv ∧ av' = av)) := by
          rcases (show av = -1 ∨ (0 ≤ av ∧ wv < lv) ∨ (0 ≤ av ∧ lv ≤ wv) by omega) with h1 | ⟨h1, h2⟩ | ⟨h1, h2⟩
          · rw [if_pos (by omega)] at hx
            exact ⟨lv, j, by omega, hx, .inl ⟨h1, rfl, rfl⟩⟩
          · rw [if_pos (by omega)] at hx
            exact ⟨lv, j, by omega, hx, .inr (.inl ⟨h1, h2, rfl, rfl⟩)⟩
          · rw [if_neg (by omega)] at hx
            exact ⟨wv, av, by omega, hx, .inr (.inr ⟨h1, h2, rfl, rfl⟩)⟩
        obtain ⟨wv', av', ha', hx', hcs⟩ := hcs
        have HX := Lib.hid hx'
        clear hx hx' hev hE
        go_wp2_with fail
        have hev := Ev.refl wr
        go_region_held3 (fun w' => ((w'.cell? ⟨w.heap.size, 0, none⟩ = some (.int .i64 a) ∧ w'.cell? ⟨w.heap.size, 1, none⟩ = some (.int .i64 b) ∧ w'.cell? ⟨w.heap.size, 2, none⟩ = some (.int .i64 c)) ∧ w'.cell? ⟨b', o + j, none⟩ = some (.int .i64 x)) ∧ Ev wr w')
          (first | with_reducible exact HS.out _ (by with_reducible assumption) | with_reducible exact HS.out _ (Ev.drew (by with_reducible assumption)))
          (first | (go_at_call 38; refine (HC.out _ (by first | assumption | exact Ev.drew (by with_reducible assumption))).mono ?_; clear hev; rintro e w' ⟨rfl, hev⟩))
        have HE2 := Lib.hid (HEV.out.step hev)
        clear hev x0 x1 x2 c1
        rcases hcs with ⟨rfl, rfl, rfl⟩ | ⟨h1, h2, rfl, rfl⟩ | ⟨h1, h2, rfl, rfl⟩
        all_goals
          go_wp2_with fail
          go_roundw
          case rel => exact ⟨j + 1, _, _, by omega, by go_num, rfl, rfl, ha', HX.out, HE2.out⟩
          case measure => simp [intOf]; omega
      · obtain rfl : j = l.length := by omega
        have HX : Hid ((wv, av) = R) := Lib.hid (by rw [← hx, List.drop_length]; simp [worL])
        have HEF := Lib.hid hE
        clear hx hev hE
        go_wp2_with fail
        go_ret3
        rw [← HX.out]
        exact ⟨rfl, HEF.out⟩
  · have e : woV a b c l = (0, 0) := by unfold woV; rw [if_neg h]
    have h' : (asE a b c l != 0) = true := by simpa using h
    rw [e]
    clear e h hr
    generalize asE a b c l = er at *
    go_enter Try.func26, Try.ntmps26
    go_wp2_with fail
    refine (H.out _ HA.out).mono ?_
    rintro e w1 ⟨rfl, hev⟩
    have hf := HA.out.step hev
    clear hev
    go_wp2_with fail
    go_ret3
    exact ⟨rfl, hf⟩
end Go.Proofs.Ytnlbkaabhnkkfaa
