import Derived.Test.YtkkmnpjkladhfaaDoorWB
namespace Go.Proofs.YtkkmnpjkladhfaaDoor
open Go.RowKit

/-- what events make of a page: the page, how many were done, the error that ended them -/
def runL (s r c n : Int) : List (Int × Int) → (Int × Int × Int) × Int × Int
  | [] => ((s, r, c), n, 0)
  | (k, p) :: t => if nxE s r c k p = 0 then runL (nxS s r c k p) (nxR s r c k p) (nxC s r c k p) (n + 1) t else ((s, r, c), n, nxE s r c k p)
/-- the slice at A reads as these events -/
def RdE (w : World) (A : Option Addr) (es : List (Int × Int)) : Prop :=
  es.length ≤ 4000000000 ∧ ∀ j, j < es.length → ∃ b o, A = some ⟨b, o, none⟩ ∧ b < w.heap.size ∧ w.cell? ⟨b, o + j * 2, none⟩ = some (.int .i64 (es.getD j (0, 0)).1) ∧ w.cell? ⟨b, o + j * 2 + 1, none⟩ = some (.int .i64 (es.getD j (0, 0)).2)
theorem RdE.ev {w w' : World} {A : Option Addr} {es : List (Int × Int)} (h : RdE w A es) (e : Ev w w') : RdE w' A es :=
  ⟨h.1, fun j hj => by
    obtain ⟨b, o, rfl, hb, h1, h2⟩ := h.2 j hj
    obtain ⟨c, _⟩ := bc e
    exact ⟨b, o, rfl, Nat.lt_of_lt_of_le hb (Below.size e), (c _ _ hb).trans h1, (c _ _ hb).trans h2⟩⟩
theorem runL_drop (s r c n : Int) (es : List (Int × Int)) (j : Nat) (h : j < es.length) : runL s r c n (es.drop j) =
    if nxE s r c (es.getD j (0, 0)).1 (es.getD j (0, 0)).2 = 0 then runL (nxS s r c (es.getD j (0, 0)).1 (es.getD j (0, 0)).2) (nxR s r c (es.getD j (0, 0)).1 (es.getD j (0, 0)).2) (nxC s r c (es.getD j (0, 0)).1 (es.getD j (0, 0)).2) (n + 1) (es.drop (j + 1)) else ((s, r, c), n, nxE s r c (es.getD j (0, 0)).1 (es.getD j (0, 0)).2) := by
  have e : es.getD j (0, 0) = es[j] := by simp [h]
  rw [e, List.drop_eq_getElem_cons h]
  rfl
theorem Bx3.setC {W : World} {b : Nat} {x y z : Int} (h : Bx3 W b x y z) (x' y' z' : Int) : Bx3 (((W.setCell ⟨b, 0, none⟩ (.int .i64 x')).setCell ⟨b, 1, none⟩ (.int .i64 y')).setCell ⟨b, 2, none⟩ (.int .i64 z')) b x' y' z' := by
  obtain ⟨⟨h1, h2, h3⟩, h4, h5, h6⟩ := h
  unfold Bx3
  simp [h1, h2, h3, h4, h5, h6, go_sem]
theorem Bx3.setO {W : World} {b b' : Nat} {x y z x' y' z' : Int} (h : Bx3 W b' x y z) (hn : b' ≠ b) : Bx3 (((W.setCell ⟨b, 0, none⟩ (.int .i64 x')).setCell ⟨b, 1, none⟩ (.int .i64 y')).setCell ⟨b, 2, none⟩ (.int .i64 z')) b' x y z := by
  obtain ⟨⟨h1, h2, h3⟩, h4, h5, h6⟩ := h
  unfold Bx3
  simp [h1, h2, h3, h4, h5, h6, go_sem]
/-- the two boxes that a call of Run lays -/
abbrev w2 (w : World) (s r c : Int) : World := (w.alloc (.cells #[.int .i64 s, .int .i64 r, .int .i64 c] 23)).alloc (.cells #[.int .i64 0, .int .i64 0, .int .i64 0] 23)
theorem w2_in (w : World) (s r c : Int) : Bx3 (w2 w s r c) w.heap.size s r c ∧ Bx3 (w2 w s r c) (w.heap.size + 1) 0 0 0 ∧ Ev w (w2 w s r c) ∧ (w2 w s r c).heap.size = w.heap.size + 2 :=
  ⟨(Bx3.new w _ _ _ 23).ev (by simp) ((Ev.refl _).alloc _), by
    have := Bx3.new (w.alloc (.cells #[.int .i64 s, .int .i64 r, .int .i64 c] 23)) 0 0 0 23
    simpa using this, ((Ev.refl w).alloc _).alloc _, by simp⟩
set_option maxHeartbeats 1000000 in
theorem run_any (s r c : Int) (A : Option Addr) (cap : Nat) (es : List (Int × Int)) (w : World) (hr : RdE w A es) (h : oChk s r c = 0) : Calls Tryd.prog 22 #[wt s r c, .slice A es.length cap] w fun e w' => e = .returned (.tuple #[wt (runL s r c 0 es).1.1 (runL s r c 0 es).1.2.1 (runL s r c 0 es).1.2.2, .int .i64 (runL s r c 0 es).2.1, .int .i64 (runL s r c 0 es).2.2]) ∧ Ev w w' := by
  obtain ⟨h1, h2, h3, h4⟩ := w2_in w s r c
  have H : Hid (∀ W, W = w2 w s r c → Calls Tryd.prog 14 #[wt s r c] W fun e w' => e = .returned (.int .i64 0) ∧ Bx3 w' w.heap.size s r c ∧ Bx3 w' (w.heap.size + 1) 0 0 0 ∧ Ev w w' ∧ w.heap.size + 2 ≤ w'.heap.size) := Lib.hid fun W hW => by
    subst hW
    refine (check_any s r c _).mono fun e w' hh => ⟨by rw [hh.1, h], h1.ev (by omega) hh.2, h2.ev (by omega) hh.2, h3.step hh.2, ?_⟩
    have := Below.size hh.2
    omega
  obtain ⟨v, hv⟩ : ∃ v, v = runL s r c 0 es := ⟨_, rfl⟩
  rw [← hv]
  have HV := Lib.hid hv
  have hl : es.length ≤ 4000000000 := hr.1
  have HR : Hid (∀ W, Ev w W → RdE W A es) := Lib.hid fun W e => hr.ev e
  clear h1 h2 h3 h4 hv h hr
  go_enter Tryd.func22, Tryd.ntmps22
  go_wp2_with fail
  refine (H.out _ rfl).mono ?_
  rintro e w1 ⟨rfl, hx, hy, hev, hz⟩
  have HX := Lib.hid hx
  have HY := Lib.hid hy
  obtain ⟨⟨a0, a1, a2⟩, f0, f1, f2⟩ := hx
  clear hy
  clear a0 a1 a2 f0 f1 f2
  go_wp2_with fail
  go_loopw [20] (fun i wr => ∃ (j : Nat) (s' r' c' : Int), j ≤ es.length ∧ i = .int .i64 j ∧ Bx3 wr w.heap.size s' r' c' ∧ Bx3 wr (w.heap.size + 1) 0 0 0 ∧ Ev w wr ∧ w.heap.size + 2 ≤ wr.heap.size ∧ v = runL s' r' c' j (es.drop j)) (fun i _ => es.length - (intOf i).toNat)
  case atStart => exact ⟨0, s, r, c, Nat.zero_le _, rfl, HX.out, HY.out, hev, hz, HV.out⟩
  case round =>
    clear hev hz HX HY HV H
    obtain ⟨j, s', r', c', hj, rfl, hx, hy, hev, hz, hvv⟩ := hrel
    by_cases hlt : j < es.length
    · have hd := runL_drop s' r' c' j es j hlt
      rw [hd] at hvv
      obtain ⟨b, o, rfl, hb, k1, k2⟩ := (HR.out _ hev).2 j hlt
      generalize (es.getD j (0, 0)).1 = k at *
      generalize (es.getD j (0, 0)).2 = p at *
      obtain ⟨⟨a0, a1, a2⟩, f0, f1, f2⟩ := hx
      have C : Hid (∀ W, W = wr.alloc (.cells #[.int .i64 k, .int .i64 p] 25) → Calls Tryd.prog 10 #[wt s' r' c', ev k p] W fun e w' => e = .returned (.tuple #[wt (nxS s' r' c' k p) (nxR s' r' c' k p) (nxC s' r' c' k p), .int .i64 (nxE s' r' c' k p)]) ∧ Bx3 w' w.heap.size s' r' c' ∧ Bx3 w' (w.heap.size + 1) 0 0 0 ∧ Ev w w' ∧ w.heap.size + 2 ≤ w'.heap.size) := Lib.hid fun W hW => by
        subst hW
        refine (next_any s' r' c' k p _).mono fun e w' hh => ⟨hh.1, ?_, ?_, (hev.alloc _).step hh.2, ?_⟩
        · have hx : Bx3 wr w.heap.size s' r' c' := ⟨⟨a0, a1, a2⟩, f0, f1, f2⟩
          exact (hx.ev (by omega) ((Ev.refl _).alloc _)).ev (by simp; omega) hh.2
        · exact (hy.ev (by omega) ((Ev.refl _).alloc _)).ev (by simp; omega) hh.2
        · have := Below.size hh.2
          simp at this
          omega
      have n1 : ¬ w.heap.size = w.heap.size + 1 := by omega
      have n2 : ¬ w.heap.size + 1 = w.heap.size := by omega
      have hlt' : (j : Int) < (es.length : Int) := by omega
      have hj0 : 0 ≤ (j : Int) := by omega
      have l0 : w.heap.size < wr.heap.size := by omega
      have l1 : w.heap.size + 1 < wr.heap.size := by omega
      by_cases hn : nxE s' r' c' k p = 0
      · rw [if_pos hn] at hvv
        rw [hn] at C
        have HVV := Lib.hid hvv
        clear hvv hd hn hy hb
        generalize nxS s' r' c' k p = s'' at *
        generalize nxR s' r' c' k p = r'' at *
        generalize nxC s' r' c' k p = c'' at *
        go_wp2_with fail
        refine (C.out _ rfl).mono ?_
        rintro e w4 ⟨rfl, hx4, hy4, hev4, hz4⟩
        have HX4 := Lib.hid hx4
        have HY4 := Lib.hid hy4
        clear a0 a1 a2 f0 f1 f2 k1 k2 hy4
        obtain ⟨⟨a0, a1, a2⟩, f0, f1, f2⟩ := hx4
        have l2 : w.heap.size < w4.heap.size := by omega
        have l3 : w.heap.size + 1 < w4.heap.size := by omega
        go_wp2_with fail
        go_roundw
        case rel =>
          have q1 := HX4.out.setC s'' r'' c''
          have q2 := q1.ev (W := ((((w4.setCell ⟨w.heap.size, 0, none⟩ (.int .i64 s'')).setCell ⟨w.heap.size, 1, none⟩ (.int .i64 r'')).setCell ⟨w.heap.size, 2, none⟩ (.int .i64 c'')).alloc (.cells #[.int .i64 s'', .int .i64 r'', .int .i64 c''] 23))) (by simp; omega) (Ev.alloc (Ev.refl _) _)
          have q3 := HY4.out.setO (x' := s'') (y' := r'') (z' := c'') (b := w.heap.size) (by omega)
          have q4 := q3.ev (W := ((((w4.setCell ⟨w.heap.size, 0, none⟩ (.int .i64 s'')).setCell ⟨w.heap.size, 1, none⟩ (.int .i64 r'')).setCell ⟨w.heap.size, 2, none⟩ (.int .i64 c'')).alloc (.cells #[.int .i64 s'', .int .i64 r'', .int .i64 c''] 23))) (by simp; omega) (Ev.alloc (Ev.refl _) _)
          have q5 := (((hev4.setC (p := ⟨w.heap.size, 0, none⟩) (Nat.le_refl _) (.int .i64 s'')).setC (p := ⟨w.heap.size, 1, none⟩) (Nat.le_refl _) (.int .i64 r'')).setC (p := ⟨w.heap.size, 2, none⟩) (Nat.le_refl _) (.int .i64 c'')).alloc (.cells #[.int .i64 s'', .int .i64 r'', .int .i64 c''] 23)
          have q6 := HVV.out
          refine ⟨j + 1, s'', r'', c'', by omega, by go_num, ?_, ?_, ?_, ?_, ?_⟩
          · with_reducible exact q2
          · with_reducible exact q4
          · with_reducible exact q5
          · simp; omega
          · rw [q6]; congr 1
        case measure => simp [intOf]; omega
      · rw [if_neg hn] at hvv
        have hn' : (nxE s' r' c' k p != 0) = true := by simpa using hn
        have HVV := Lib.hid hvv
        clear hvv hd hn hy hb
        generalize nxS s' r' c' k p = s'' at *
        generalize nxR s' r' c' k p = r'' at *
        generalize nxC s' r' c' k p = c'' at *
        generalize nxE s' r' c' k p = ee at *
        go_wp2_with fail
        refine (C.out _ rfl).mono ?_
        rintro e w4 ⟨rfl, hx4, hy4, hev4, hz4⟩
        clear a0 a1 a2 f0 f1 f2 k1 k2
        have HY4 := Lib.hid hy4
        obtain ⟨⟨a0, a1, a2⟩, f0, f1, f2⟩ := hx4
        obtain ⟨⟨b0, b1, b2⟩, g0, g1, g2⟩ := hy4
        have l2 : w.heap.size < w4.heap.size := by omega
        have l3 : w.heap.size + 1 < w4.heap.size := by omega
        go_wp2_with fail
        rw [HVV.out]
        have q1 := HY4.out.setC s' r' c'
        obtain ⟨⟨t0, t1, t2⟩, -⟩ := q1.ev (W := ((((w4.setCell ⟨w.heap.size + 1, 0, none⟩ (.int .i64 s')).setCell ⟨w.heap.size + 1, 1, none⟩ (.int .i64 r')).setCell ⟨w.heap.size + 1, 2, none⟩ (.int .i64 c')).alloc (.cells #[.int .i64 s'', .int .i64 r'', .int .i64 c''] 23))) (by simp; omega) (Ev.alloc (Ev.refl _) _)
        refine bodyPost_ret (v := .tuple #[wt s' r' c', .int .i64 j, .int .i64 ee]) (by simp [results, Tryd.results22, go_sem, t0, t1, t2]) rfl ⟨rfl, ?_⟩
        exact (((hev4.setC (by simp only []; omega) _).setC (by simp only []; omega) _).setC (by simp only []; omega) _).alloc _
    · obtain rfl : j = es.length := by omega
      have hvv' : v = ((s', r', c'), (es.length : Int), 0) := by rw [hvv, List.drop_length]; rfl
      have HVV := Lib.hid hvv'
      obtain ⟨⟨a0, a1, a2⟩, f0, f1, f2⟩ := hx
      obtain ⟨⟨b0, b1, b2⟩, g0, g1, g2⟩ := hy
      clear hvv hvv'
      have l2 : w.heap.size < wr.heap.size := by omega
      have l3 : w.heap.size + 1 < wr.heap.size := by omega
      go_wp2_with fail
      rw [HVV.out]
      refine bodyPost_ret (v := .tuple #[wt s' r' c', .int .i64 es.length, .int .i64 0]) (by simp [results, Tryd.results22, go_sem, b0, b1, b2]) rfl ⟨rfl, ?_⟩
      exact ((hev.setC (by simp only []; omega) _).setC (by simp only []; omega) _).setC (by simp only []; omega) _
end Go.Proofs.YtkkmnpjkladhfaaDoor
