import Derived.Test.YtkkmnpjkladhfaaDoorX4
namespace Go.Proofs.YtkkmnpjkladhfaaDoor
open Go.RowKit
theorem setB3 (w0 W : World) (b : Nat) (x y z : Int) (h : Bx3 W b 0 0 0) (hle : w0.heap.size ≤ b) (hlt : b < W.heap.size) (e : Ev w0 W) : ∃ Z, Z = (((W.setCell ⟨b, 0, none⟩ (.int .i64 x)).setCell ⟨b, 1, none⟩ (.int .i64 y)).setCell ⟨b, 2, none⟩ (.int .i64 z)) ∧ Bx3 Z b x y z ∧ Ev w0 Z ∧ b < Z.heap.size ∧ w0.heap.size ≤ b :=
  ⟨_, rfl, h.setC x y z, ((e.setC (by simp only []; omega) _).setC (by simp only []; omega) _).setC (by simp only []; omega) _, by simpa using hlt, hle⟩
theorem allocB3 (w0 W : World) (x y z : Int) (e : Ev w0 W) : ∃ Z, Z = W.alloc (.cells #[.int .i64 x, .int .i64 y, .int .i64 z] 23) ∧ Bx3 Z W.heap.size x y z ∧ Ev w0 Z ∧ W.heap.size < Z.heap.size ∧ w0.heap.size ≤ W.heap.size :=
  ⟨_, rfl, Bx3.new _ _ _ _ _, e.alloc _, by simp, e.sz⟩
set_option maxHeartbeats 4000000 in
theorem rrun_any (s r c : Int) (A : Option Addr) (cap : Nat) (es : List (Int × Int)) (w : World) (hr : RdE w A es) (h : oChk s r c = 0) : Calls Tryd.prog 23 #[wt s r c, .slice A es.length cap] w fun e w' => e = .returned (.tuple #[wt (runL s r c 0 es).1.1 (runL s r c 0 es).1.2.1 (runL s r c 0 es).1.2.2, .int .i64 (runL s r c 0 es).2.1, .int .i64 (runL s r c 0 es).2.2]) ∧ Ev w w' := by
  obtain ⟨h1, h2, h3, h4⟩ := w2_in w s r c
  have H : Hid (∀ W, W = w2 w s r c → Calls Tryd.prog 15 #[wt s r c] W fun e w' => e = .returned (.int .i64 0) ∧ Bx3 w' w.heap.size s r c ∧ Bx3 w' (w.heap.size + 1) 0 0 0 ∧ Ev w w' ∧ w.heap.size + 2 ≤ w'.heap.size) := Lib.hid fun W hW => by
    subst hW
    refine (rcheck_any s r c _).mono fun e w' hh => ⟨by rw [hh.1, h], h1.ev (by omega) hh.2, h2.ev (by omega) hh.2, h3.step hh.2, ?_⟩
    have := Below.size hh.2
    omega
  obtain ⟨v, hv⟩ : ∃ v, v = runL s r c 0 es := ⟨_, rfl⟩
  rw [← hv]
  have HV := Lib.hid hv
  have hl : es.length ≤ 4000000000 := hr.1
  have HR : Hid (∀ W, Ev w W → RdE W A es) := Lib.hid fun W e => hr.ev e
  clear h1 h2 h3 h4 hv h hr
  go_enter Tryd.func23, Tryd.ntmps23
  go_wp2_with fail
  refine (H.out _ rfl).mono ?_
  rintro e w1 ⟨rfl, hx, hy, hev, hz⟩
  have HX := Lib.hid hx
  have HY := Lib.hid hy
  obtain ⟨⟨a0, a1, a2⟩, f0, f1, f2⟩ := hx
  clear hy
  clear a0 a1 a2 f0 f1 f2
  go_wp2_with fail
  go_loopw [8] (fun i wr => ∃ (j : Nat) (s' r' c' : Int), j ≤ es.length ∧ i = .int .i64 j ∧ Bx3 wr w.heap.size s' r' c' ∧ Bx3 wr (w.heap.size + 1) 0 0 0 ∧ Ev w wr ∧ w.heap.size + 2 ≤ wr.heap.size ∧ v = runL s' r' c' j (es.drop j)) (fun i _ => es.length - (intOf i).toNat)
  case atStart => exact ⟨0, s, r, c, Nat.zero_le _, rfl, HX.out, HY.out, hev, hz, HV.out⟩
  case round =>
    clear hev hz HX HY HV H
    obtain ⟨j, s', r', c', hj, rfl, hx, hy, hev, hz, hvv⟩ := hrel
    by_cases hlt : j < es.length
    · have hd := runL_drop s' r' c' j es j hlt
      rw [hd] at hvv
      obtain ⟨b, o, rfl, hb, k1, k2⟩ := (HR.out _ hev).2 j hlt
      generalize (es.getD j (0, 0)).1 = k at *
      generalize (es.getD j (0, 0)).2 = p at *
      have HX := Lib.hid hx
      have HY := Lib.hid hy
      have HEV := Lib.hid hev
      have HK := Lib.hid k1
      have HK2 := Lib.hid k2
      have n1 : ¬ w.heap.size = w.heap.size + 1 := by omega
      have n2 : ¬ w.heap.size + 1 = w.heap.size := by omega
      have hlt' : (j : Int) < (es.length : Int) := by omega
      have hj0 : 0 ≤ (j : Int) := by omega
      have l0 : w.heap.size < wr.heap.size := by omega
      have l1 : w.heap.size + 1 < wr.heap.size := by omega
      have HS : Hid (∀ W, Ev wr W → ((W.cell? ⟨w.heap.size, 0, none⟩ = some (.int .i64 s') ∧ W.cell? ⟨w.heap.size, 1, none⟩ = some (.int .i64 r') ∧ W.cell? ⟨w.heap.size, 2, none⟩ = some (.int .i64 c')) ∧ (W.cell? ⟨b, o + j * 2, none⟩ = some (.int .i64 k) ∧ W.cell? ⟨b, o + j * 2 + 1, none⟩ = some (.int .i64 p))) ∧ Ev wr W) := Lib.hid fun W e => ⟨⟨(hx.ev l0 e).1, by rw [e.cell (p := ⟨b, o + j * 2, none⟩) hb]; exact k1, by rw [e.cell (p := ⟨b, o + j * 2 + 1, none⟩) hb]; exact k2⟩, e⟩
      have C : Hid (∀ W, Ev wr W → Calls Tryd.prog 11 #[wt s' r' c', ev k p] W fun e w' => e = .returned (.tuple #[wt (nxS s' r' c' k p) (nxR s' r' c' k p) (nxC s' r' c' k p), .int .i64 (nxE s' r' c' k p)]) ∧ Ev wr w' ∧ KeepB wr W w') := Lib.hid fun W e => (rnext_any s' r' c' k p W).mono fun _ _ hh => ⟨hh.1, e.step hh.2, keepB hh.2⟩
      have HVV := Lib.hid hvv
      clear hvv hd hx hy hev k1 k2 hb
      generalize nxS s' r' c' k p = s'' at *
      generalize nxR s' r' c' k p = r'' at *
      generalize nxC s' r' c' k p = c'' at *
      generalize nxE s' r' c' k p = ee at *
      go_wp2_with fail
      have hev := Ev.refl wr
      go_region_held3 (fun W => ((W.cell? ⟨w.heap.size, 0, none⟩ = some (.int .i64 s') ∧ W.cell? ⟨w.heap.size, 1, none⟩ = some (.int .i64 r') ∧ W.cell? ⟨w.heap.size, 2, none⟩ = some (.int .i64 c')) ∧ (W.cell? ⟨b, o + j * 2, none⟩ = some (.int .i64 k) ∧ W.cell? ⟨b, o + j * 2 + 1, none⟩ = some (.int .i64 p))) ∧ Ev wr W)
        (first | (refine HS.out _ ?_; repeat (first | (with_reducible assumption) | (with_reducible refine Ev.drew ?_) | (with_reducible refine Ev.alloc ?_ _) | (with_reducible refine Ev.setC ?_ (by first | (with_reducible assumption) | (simp only []; with_reducible assumption) | (have := Ev.sz hev; simp <;> omega)) _))))
        (first | (go_at_call 11; refine (C.out _ (by repeat (first | (with_reducible assumption) | (with_reducible refine Ev.drew ?_) | (with_reducible refine Ev.alloc ?_ _)))).mono ?_; rintro e w' ⟨rfl, hev2, hk⟩; (first | (with_reducible have Q := Lib.hid (newB _ _ (by repeat (first | (with_reducible assumption) | (with_reducible refine Ev.drew ?_) | (with_reducible refine Ev.alloc ?_ _))) _ hk)) | skip); clear hk; (try (obtain ⟨⟨⟨n0, n1', n2'⟩, m0, m1, m2⟩, hle, hlt2⟩ := Q.out; (try simp only [drew_sz] at n0 n1' n2' m0 m1 m2 hle hlt2))); clear hev; have hev := hev2; clear hev2))
      all_goals
        first
          | (have P := setB3 wr _ _ s'' r'' c'' ⟨⟨n0, n1', n2'⟩, m0, m1, m2⟩ hle hlt2 hev)
          | (have P := allocB3 wr _ s'' r'' c'' hev)
        obtain ⟨Z, hZ, ⟨⟨y0, y1, y2⟩, -⟩, hz9, hzl, hzs⟩ := P
        rw [← hZ]
        clear hZ
        have HXZ := Lib.hid (HX.out.ev l0 hz9)
        have HYZ := Lib.hid (HY.out.ev l1 hz9)
        have HZ := Lib.hid (HEV.out.step hz9)
        have hzz := Below.size hz9
        have l2 : w.heap.size < Z.heap.size := by omega
        have l3 : w.heap.size + 1 < Z.heap.size := by omega
        clear hz9 hev
        (try clear n0 n1' n2' m0 m1 m2)
        by_cases hn : ee = 0
        · subst hn
          have HVV := Lib.hid (HVV.out.trans (if_pos rfl))
          obtain ⟨⟨a0, a1, a2⟩, f0, f1, f2⟩ := HXZ.out
          go_wp2_with fail
          go_roundw
          case rel =>
            have q1 := HXZ.out.setC s'' r'' c''
            have q3 := HYZ.out.setO (x' := s'') (y' := r'') (z' := c'') (b := w.heap.size) (by omega)
            have q5 := ((Ev.setC HZ.out (p := ⟨w.heap.size, 0, none⟩) (Nat.le_refl _) (.int .i64 s'')).setC (p := ⟨w.heap.size, 1, none⟩) (Nat.le_refl _) (.int .i64 r'')).setC (p := ⟨w.heap.size, 2, none⟩) (Nat.le_refl _) (.int .i64 c'')
            refine ⟨j + 1, s'', r'', c'', by omega, by go_num, ?_, ?_, ?_, ?_, ?_⟩
            · with_reducible exact q1
            · with_reducible exact q3
            · with_reducible exact q5
            · simp; omega
            · rw [HVV.out]; congr 1
          case measure => simp [intOf]; omega
        · have hn' : (ee != 0) = true := by simpa using hn
          have HVV := Lib.hid (HVV.out.trans (if_neg hn))
          clear hn
          obtain ⟨⟨a0, a1, a2⟩, f0, f1, f2⟩ := HXZ.out
          obtain ⟨⟨b0, b1, b2⟩, g0, g1, g2⟩ := HYZ.out
          go_wp2_with fail
          rw [HVV.out]
          obtain ⟨⟨t0, t1, t2⟩, -⟩ := HYZ.out.setC s' r' c'
          refine bodyPost_ret (v := .tuple #[wt s' r' c', .int .i64 j, .int .i64 ee]) (by simp [results, Tryd.results23, go_sem, t0, t1, t2]) rfl ⟨rfl, ?_⟩
          exact ((Ev.setC HZ.out (by simp only []; omega) _).setC (by simp only []; omega) _).setC (by simp only []; omega) _
    · obtain rfl : j = es.length := by omega
      have hvv' : v = ((s', r', c'), (es.length : Int), 0) := by rw [hvv, List.drop_length]; rfl
      have HVV := Lib.hid hvv'
      obtain ⟨⟨a0, a1, a2⟩, f0, f1, f2⟩ := hx
      obtain ⟨⟨b0, b1, b2⟩, g0, g1, g2⟩ := hy
      clear hvv hvv'
      have l2 : w.heap.size < wr.heap.size := by omega
      have l3 : w.heap.size + 1 < wr.heap.size := by omega
      go_wp2_with fail
      rw [HVV.out]
      refine bodyPost_ret (v := .tuple #[wt s' r' c', .int .i64 es.length, .int .i64 0]) (by simp [results, Tryd.results23, go_sem, b0, b1, b2]) rfl ⟨rfl, ?_⟩
      exact ((hev.setC (by simp only []; omega) _).setC (by simp only []; omega) _).setC (by simp only []; omega) _
end Go.Proofs.YtkkmnpjkladhfaaDoor
