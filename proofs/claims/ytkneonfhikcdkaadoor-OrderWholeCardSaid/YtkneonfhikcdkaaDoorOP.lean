import Derived.Test.YtkneonfhikcdkaaDoorOJ
import Derived.RangeFuncBox
import Derived.Sort.CutIn
namespace Go.Proofs.YtkneonfhikcdkaaDoor
open Go.RowKit

def l0 : List (Int × Int) := [(0, 0), (1, 0), (2, 1), (8, 0)]
theorem chk0 : chkL 0 0 l0 = (0, 0) := by decide
theorem pop1 {w : World} {base g cap : Nat} {a b : Value} (h : w.ownsRow base 28 2 (.slice (some ⟨g, 0, none⟩) 1 cap) 1 [a, b]) : w.ownsRow base 28 2 (.slice (some ⟨g, 0, none⟩) 0 cap) 0 [] := by
  rcases h.2 with ⟨h0, _⟩ | ⟨g', cap', cur, hv, hg, hh, hn, hcap, hsz, htake⟩
  · cases h0
  · cases hv
    exact ⟨rfl, .inr ⟨g, cap, cur, rfl, hg, hh, by omega, hcap, hsz, by simp⟩⟩
theorem top1 {w : World} {base g cap : Nat} {x k : Value} (h : w.ownsRow base 28 2 (.slice (some ⟨g, 0, none⟩) 1 cap) 1 [x, k]) : (g < w.heap.size ∧ 1 ≤ cap) ∧ w.cell? ⟨g, 0, none⟩ = some x ∧ w.cell? ⟨g, 1, none⟩ = some k := by
  refine ⟨⟨(h.lt g rfl).2, ?_⟩, h.cellAt 0 (by omega), h.cellAt 1 (by omega)⟩
  rcases h.2 with ⟨h0, _⟩ | ⟨g', cap', cur, hv, hg, hh, hn, hcap, hsz, htake⟩
  · cases h0
  · cases hv
    omega
theorem Bw2.set {W : World} {b : Nat} {x y : Int} (h : Bw2 W b x y) (x' y' : Int) : Bw2 ((W.setCell ⟨b, 0, none⟩ (.int .i64 x')).setCell ⟨b, 1, none⟩ (.int .i64 y')) b x' y' := by
  obtain ⟨⟨h1, h2⟩, h4, h5⟩ := h
  unfold Bw2
  simp [h1, h2, h4, h5, go_sem]
theorem Ev.new2 (w : World) (x y : Int) (t : TypeId) : Ev w (w.alloc (.cells #[.int .i64 x, .int .i64 y] t)) := (Ev.refl w).alloc _
set_option maxRecDepth 100000 in
set_option maxHeartbeats 2000000 in
theorem join_any (A : Option Addr) (cap : Nat) (w : World) (hr : RdP w A l0) :
    Calls Tryd.prog 29 #[.slice A 4 cap] w fun e w' => ∃ v, e = .returned (.tuple #[v, .int .i64 0]) ∧ OwnB w' w.heap.size v [.int .i64 0, .int .i64 2, .int .i64 8, .int .i64 0] ∧ Ev w w' := by
  obtain ⟨i0, hi0, hz0, hz1, hz2⟩ := info_parts info28
  have HC : Hid (Calls Tryd.prog 27 #[.slice A 4 cap] w fun e w' => e = .returned (.tuple #[.int .i64 0, .int .i64 0]) ∧ Ev w w') := Lib.hid (by have h := checkList_any A cap l0 w hr; rw [chk0] at h; exact h)
  obtain ⟨b, o, rfl, hb, -, -⟩ := hr.2 0 (by decide)
  have HL : Hid (∀ W j, Ev w W → j < 4 → W.cell? ⟨b, o + j * 2, none⟩ = some (.int .i64 (l0.getD j (0, 0)).1) ∧ W.cell? ⟨b, o + j * 2 + 1, none⟩ = some (.int .i64 (l0.getD j (0, 0)).2)) := Lib.hid fun W j e hj => by
    obtain ⟨b', o', e1, -, c1, c2⟩ := (hr.ev e).2 j hj
    cases e1
    exact ⟨c1, c2⟩
  have HBU : Hid (∀ x o' B W0 W, blkE x o' = 0 → o' ≠ 6 → bud x o' = B → Ev W0 W → Calls Tryd.prog 42 #[bk x o'] W fun e w' => e = .returned (bk B o') ∧ Ev W0 w') := Lib.hid fun x o' B W0 W h1 h2 h3 e => by
    subst h3
    exact evN e (buddy1_any x o' W h1 h2)
  have HPA : Hid (∀ x o' B O W0 W, blkE x o' = 0 → o' ≠ 6 → par x o' = B → o' + 1 = O → Ev W0 W → Calls Tryd.prog 44 #[bk x o'] W fun e w' => e = .returned (bk B O) ∧ Ev W0 w') := Lib.hid fun x o' B O W0 W h1 h2 h3 h4 e => by
    subst h3 h4
    exact evN e (parent1_any x o' W h1 h2)
  clear hr
  go_enter Tryd.func29, Tryd.ntmps29
  go_wp2_with fail
  go_step3
  go_wp2_with fail
  refine HC.out.mono ?_
  rintro e w0 ⟨rfl, hev0⟩
  have HEV0 := Lib.hid hev0
  clear hev0 HC
  go_wp2_with fail
  go_step3
  go_wp2_with fail
  generalize hv0 : Value.slice none 0 0 = v00
  have HV0 := Lib.hid hv0
  clear hv0
  go_loopg [6, 20] 4 (fun g v i wr => ∃ (j k : Nat) (xs : List Value), g + j = 4 ∧ i = .int .i64 j ∧ wr.ownsRow w.heap.size 28 2 v k xs ∧ Ev w wr ∧ ((j = 0 ∧ k = 0 ∧ xs = [] ∧ v = .slice none 0 0) ∨ (j = 1 ∧ k = 1 ∧ xs = [.int .i64 0, .int .i64 0]) ∨ (j = 2 ∧ k = 1 ∧ xs = [.int .i64 0, .int .i64 1]) ∨ (j = 3 ∧ k = 1 ∧ xs = [.int .i64 0, .int .i64 2]) ∨ (j = 4 ∧ k = 2 ∧ xs = [.int .i64 0, .int .i64 2, .int .i64 8, .int .i64 0])))
  case atStart => exact ⟨0, 0, [], rfl, rfl, by rw [← HV0.out]; exact ⟨rfl, .inl ⟨rfl, rfl⟩⟩, HEV0.out, .inl ⟨rfl, rfl, rfl, HV0.out.symm⟩⟩
  case round =>
    obtain ⟨j, k, xs, hg, rfl, hown, hev, hcs⟩ := hrel
    have HG := Lib.hid hg
    clear hg
    have HEV := Lib.hid hev
    have HOWN := Lib.hid hown
    have hsz : w.heap.size ≤ wr.heap.size := hev.sz
    have HBZ : Hid (b < wr.heap.size) := Lib.hid (by omega)
    clear hev hown
    have hj0 : 0 ≤ (j : Int) := by omega
    rcases hcs with ⟨hj, rfl, rfl, rfl⟩ | ⟨hj, rfl, rfl⟩ | ⟨hj, rfl, rfl⟩ | ⟨hj, rfl, rfl⟩ | ⟨hj, rfl, rfl⟩
    · have hlt : j < 4 := by omega
      have hlt' : (j : Int) < 4 := by omega
      obtain ⟨c1, c2⟩ := HL.out wr j HEV.out hlt
      rw [show (l0.getD j (0, 0)) = (0, 0) from by rw [hj]; rfl] at c1 c2
      have HJ := Lib.hid hj
      simp only at c1 c2
      clear hj
      go_wp2_with fail
      have HX := Lib.hid (Bw2.new wr 0 0 28)
      have HE : Hid (Ev w (wr.alloc (.cells #[.int .i64 0, .int .i64 0] 28))) := Lib.hid (HEV.out.alloc _)
      have HO := Lib.hid (HOWN.out.alloc (.cells #[.int .i64 0, .int .i64 0] 28))
      generalize wr.alloc (.cells #[.int .i64 0, .int .i64 0] 28) = W at *
      obtain ⟨⟨y0, y1⟩, -, -⟩ := HX.out
      clear c1 c2
      refine wp_loop_rounds 1 ?_
      rw [rounds_succ]
      go_upto_region 14 with fail
      generalize Value.slice none 0 0 = vv at *
      have HO2 : Hid ((W.alloc (.cells #[.int .i64 0, .int .i64 0] 28)).ownsRow w.heap.size 28 2 vv 0 []) := Lib.hid (HO.out.alloc _)
      have H1 := Lib.hid (bk_cells W 0 0)
      have H2 : Hid (∀ u ∈ [Value.int .i64 0, .int .i64 0], u.oneCell' = true) := Lib.hid (by simp [Value.oneCell'])
      have H3 := Lib.hid (show 0 + 1 ≤ maxLen from by unfold maxLen; omega)
      have H4 := Lib.hid (show (0 + 1) * 16 ≤ 140737488355328 from by omega)
      have H5 : Hid (w.heap.size ≤ (W.alloc (.cells #[.int .i64 0, .int .i64 0] 28)).heap.size) := Lib.hid (by have := HE.out.sz; simp; omega)
      have HB : Hid (Ev w (W.alloc (.cells #[.int .i64 0, .int .i64 0] 28))) := Lib.hid (HE.out.alloc _)
      go_wp2_with (at_builtin; go_loud (refine wpList_append_own _ rfl (.tmp 53) (.tmp 55) 33 rfl w.heap.size 28 i0 (bk 0 0) 2 16 Tryd.underlying33 hi0 hz0 hz1 hz2 rfl (by decide) vv 0 [] rfl (HO2.out) ⟨W.heap.size, 0, none⟩ 1 1 [.int .i64 0, .int .i64 0] rfl rfl (H1.out) (H2.out) H3.out H4.out (H5.out) ?_); intro v1 w4 hown4 hg4 _)
      have HW := Lib.hid (HB.out.grown hg4 (H5.out) (fun g hg => (HO.out.lt g hg).1))
      have HOW : Hid (w4.ownsRow w.heap.size 28 2 v1 1 [.int .i64 0, .int .i64 0]) := Lib.hid hown4
      clear hg4 hown4
      go_roundg (gk - 1)
      case rel => exact ⟨j + 1, 1, [.int .i64 0, .int .i64 0], by have := HG.out; omega, by go_num, HOW.out, HW.out, by have := HJ.out; exact .inr (.inl ⟨by omega, rfl, rfl⟩)⟩
      case measure => have := HG.out; omega
    · have hlt : j < 4 := by omega
      have hlt' : (j : Int) < 4 := by omega
      obtain ⟨c1, c2⟩ := HL.out wr j HEV.out hlt
      rw [show (l0.getD j (0, 0)) = (1, 0) from by rw [hj]; rfl] at c1 c2
      have HJ := Lib.hid hj
      simp only at c1 c2
      clear hj
      obtain ⟨g, cap', rfl⟩ := ownsRow_succ HOWN.out
      obtain ⟨⟨hgl, hcap⟩, t0, t1⟩ := top1 HOWN.out
      have HT : Hid (∀ W, Ev wr W → W.cell? ⟨g, 0, none⟩ = some (.int .i64 0) ∧ W.cell? ⟨g, 1, none⟩ = some (.int .i64 0)) := Lib.hid fun W e => ⟨by rw [e.cell (p := ⟨g, 0, none⟩) hgl]; exact t0, by rw [e.cell (p := ⟨g, 1, none⟩) hgl]; exact t1⟩
      clear t0 t1
      go_wp2_with fail
      have HX := Lib.hid (Bw2.new wr 1 0 28)
      have HE1 := Lib.hid (Ev.new2 wr 1 0 28)
      have HZ1 : Hid (wr.heap.size < (wr.alloc (.cells #[.int .i64 1, .int .i64 0] 28)).heap.size) := Lib.hid (by simp)
      generalize wr.alloc (.cells #[.int .i64 1, .int .i64 0] 28) = W at *
      obtain ⟨t0, t1⟩ := HT.out _ HE1.out
      clear c1 c2
      refine wp_loop_rounds 2 ?_
      rw [rounds_succ]
      go_wp2_with fail
      have HX2 := Lib.hid (HX.out.ev HZ1.out (Ev.new2 W 0 0 28))
      have HY2 := Lib.hid (Bw2.new W 0 0 28)
      have HE2 := Lib.hid (HE1.out.step (Ev.new2 W 0 0 28))
      have HZ2 : Hid (W.heap.size < (W.alloc (.cells #[.int .i64 0, .int .i64 0] 28)).heap.size ∧ wr.heap.size < (W.alloc (.cells #[.int .i64 0, .int .i64 0] 28)).heap.size) := Lib.hid (by have := HZ1.out; simp; omega)
      generalize W.alloc (.cells #[.int .i64 0, .int .i64 0] 28) = W2 at *
      clear t0 t1
      have HS : Hid (∀ X, Ev W2 X → ((X.cell? ⟨wr.heap.size, 0, none⟩ = some (.int .i64 1) ∧ X.cell? ⟨wr.heap.size, 1, none⟩ = some (.int .i64 0)) ∧ (X.cell? ⟨W.heap.size, 0, none⟩ = some (.int .i64 0) ∧ X.cell? ⟨W.heap.size, 1, none⟩ = some (.int .i64 0))) ∧ Ev W2 X) := Lib.hid fun X e => ⟨⟨(HX2.out.ev HZ2.out.2 e).1, (HY2.out.ev HZ2.out.1 e).1⟩, e⟩
      have H42 := Lib.hid fun X => HBU.out 1 0 0 W2 X (by decide) (by decide) (by decide)
      have hev := Ev.refl W2
      go_region_held3 (fun w' => ((w'.cell? ⟨wr.heap.size, 0, none⟩ = some (.int .i64 1) ∧ w'.cell? ⟨wr.heap.size, 1, none⟩ = some (.int .i64 0)) ∧ (w'.cell? ⟨W.heap.size, 0, none⟩ = some (.int .i64 0) ∧ w'.cell? ⟨W.heap.size, 1, none⟩ = some (.int .i64 0))) ∧ Ev W2 w')
        (first | with_reducible exact HS.out _ (by with_reducible assumption) | with_reducible exact HS.out _ (Ev.drew (by with_reducible assumption)) | with_reducible exact HS.out _ (Ev.alloc (by with_reducible assumption) _) | with_reducible exact HS.out _ (Ev.alloc (Ev.drew (by with_reducible assumption)) _))
        (first | (go_at_call 42; refine (H42.out _ (by first | assumption | exact Ev.drew (by with_reducible assumption))).mono ?_; clear hev; rintro e w' ⟨rfl, hev⟩))
      go_wp2_with fail
      refine (HPA.out 1 0 0 1 W2 _ (by decide) (by decide) (by decide) (by decide) (by first | assumption | exact Ev.drew (by with_reducible assumption))).mono ?_
      clear hev
      rintro e w5 ⟨rfl, hev⟩
      have hbx := HX2.out.ev HZ2.out.2 hev
      have HX6 := Lib.hid (hbx.set 0 1)
      have HE6 : Hid (Ev wr ((w5.setCell ⟨wr.heap.size, 0, none⟩ (.int .i64 0)).setCell ⟨wr.heap.size, 1, none⟩ (.int .i64 1))) := Lib.hid (((HE2.out.step hev).setC (by simp only []; omega) _).setC (by simp only []; omega) _)
      have HO := Lib.hid (own_below (pop1 HOWN.out) HE6.out)
      have HE := Lib.hid (HEV.out.step HE6.out)
      obtain ⟨⟨x0, x1⟩, f0, f1⟩ := hbx
      clear hev
      go_wp2_with fail
      generalize (w5.setCell ⟨wr.heap.size, 0, none⟩ (.int .i64 0)).setCell ⟨wr.heap.size, 1, none⟩ (.int .i64 1) = W6 at *
      obtain ⟨⟨y0, y1⟩, -, -⟩ := HX6.out
      clear x0 x1 f0 f1
      rw [rounds_succ]
      go_upto_region 14 with fail
      generalize Value.slice (some ⟨g, 0, none⟩) 0 cap' = vv at *
      have HO2 : Hid ((W6.alloc (.cells #[.int .i64 0, .int .i64 1] 28)).ownsRow w.heap.size 28 2 vv 0 []) := Lib.hid (HO.out.alloc _)
      have H1 := Lib.hid (bk_cells W6 0 1)
      have H2 : Hid (∀ u ∈ [Value.int .i64 0, .int .i64 1], u.oneCell' = true) := Lib.hid (by simp [Value.oneCell'])
      have H3 := Lib.hid (show 0 + 1 ≤ maxLen from by unfold maxLen; omega)
      have H4 := Lib.hid (show (0 + 1) * 16 ≤ 140737488355328 from by omega)
      have H5 : Hid (w.heap.size ≤ (W6.alloc (.cells #[.int .i64 0, .int .i64 1] 28)).heap.size) := Lib.hid (by have := HE.out.sz; simp; omega)
      have HB : Hid (Ev w (W6.alloc (.cells #[.int .i64 0, .int .i64 1] 28))) := Lib.hid (HE.out.alloc _)
      go_wp2_with (at_builtin; go_loud (refine wpList_append_own _ rfl (.tmp 53) (.tmp 55) 33 rfl w.heap.size 28 i0 (bk 0 0) 2 16 Tryd.underlying33 hi0 hz0 hz1 hz2 rfl (by decide) vv 0 [] rfl (HO2.out) ⟨W6.heap.size, 0, none⟩ 1 1 [.int .i64 0, .int .i64 1] rfl rfl (H1.out) (H2.out) H3.out H4.out (H5.out) ?_); intro v1 w4 hown4 hg4 _)
      have HW := Lib.hid (HB.out.grown hg4 (H5.out) (fun g hg => (HO.out.lt g hg).1))
      have HOW : Hid (w4.ownsRow w.heap.size 28 2 v1 1 [.int .i64 0, .int .i64 1]) := Lib.hid hown4
      clear hg4 hown4
      go_roundg (gk - 1)
      case rel => exact ⟨j + 1, 1, [.int .i64 0, .int .i64 1], by have := HG.out; omega, by go_num, HOW.out, HW.out, by have := HJ.out; exact .inr (.inr (.inl ⟨by omega, rfl, rfl⟩))⟩
      case measure => have := HG.out; omega
    · have hlt : j < 4 := by omega
      have hlt' : (j : Int) < 4 := by omega
      obtain ⟨c1, c2⟩ := HL.out wr j HEV.out hlt
      rw [show (l0.getD j (0, 0)) = (2, 1) from by rw [hj]; rfl] at c1 c2
      have HJ := Lib.hid hj
      simp only at c1 c2
      clear hj
      obtain ⟨g, cap', rfl⟩ := ownsRow_succ HOWN.out
      obtain ⟨⟨hgl, hcap⟩, t0, t1⟩ := top1 HOWN.out
      have HT : Hid (∀ W, Ev wr W → W.cell? ⟨g, 0, none⟩ = some (.int .i64 0) ∧ W.cell? ⟨g, 1, none⟩ = some (.int .i64 1)) := Lib.hid fun W e => ⟨by rw [e.cell (p := ⟨g, 0, none⟩) hgl]; exact t0, by rw [e.cell (p := ⟨g, 1, none⟩) hgl]; exact t1⟩
      clear t0 t1
      go_wp2_with fail
      have HX := Lib.hid (Bw2.new wr 2 1 28)
      have HE1 := Lib.hid (Ev.new2 wr 2 1 28)
      have HZ1 : Hid (wr.heap.size < (wr.alloc (.cells #[.int .i64 2, .int .i64 1] 28)).heap.size) := Lib.hid (by simp)
      generalize wr.alloc (.cells #[.int .i64 2, .int .i64 1] 28) = W at *
      obtain ⟨t0, t1⟩ := HT.out _ HE1.out
      clear c1 c2
      refine wp_loop_rounds 2 ?_
      rw [rounds_succ]
      go_wp2_with fail
      have HX2 := Lib.hid (HX.out.ev HZ1.out (Ev.new2 W 0 1 28))
      have HY2 := Lib.hid (Bw2.new W 0 1 28)
      have HE2 := Lib.hid (HE1.out.step (Ev.new2 W 0 1 28))
      have HZ2 : Hid (W.heap.size < (W.alloc (.cells #[.int .i64 0, .int .i64 1] 28)).heap.size ∧ wr.heap.size < (W.alloc (.cells #[.int .i64 0, .int .i64 1] 28)).heap.size) := Lib.hid (by have := HZ1.out; simp; omega)
      generalize W.alloc (.cells #[.int .i64 0, .int .i64 1] 28) = W2 at *
      clear t0 t1
      have HS : Hid (∀ X, Ev W2 X → ((X.cell? ⟨wr.heap.size, 0, none⟩ = some (.int .i64 2) ∧ X.cell? ⟨wr.heap.size, 1, none⟩ = some (.int .i64 1)) ∧ (X.cell? ⟨W.heap.size, 0, none⟩ = some (.int .i64 0) ∧ X.cell? ⟨W.heap.size, 1, none⟩ = some (.int .i64 1))) ∧ Ev W2 X) := Lib.hid fun X e => ⟨⟨(HX2.out.ev HZ2.out.2 e).1, (HY2.out.ev HZ2.out.1 e).1⟩, e⟩
      have H42 := Lib.hid fun X => HBU.out 2 1 0 W2 X (by decide) (by decide) (by decide)
      have hev := Ev.refl W2
      go_region_held3 (fun w' => ((w'.cell? ⟨wr.heap.size, 0, none⟩ = some (.int .i64 2) ∧ w'.cell? ⟨wr.heap.size, 1, none⟩ = some (.int .i64 1)) ∧ (w'.cell? ⟨W.heap.size, 0, none⟩ = some (.int .i64 0) ∧ w'.cell? ⟨W.heap.size, 1, none⟩ = some (.int .i64 1))) ∧ Ev W2 w')
        (first | with_reducible exact HS.out _ (by with_reducible assumption) | with_reducible exact HS.out _ (Ev.drew (by with_reducible assumption)) | with_reducible exact HS.out _ (Ev.alloc (by with_reducible assumption) _) | with_reducible exact HS.out _ (Ev.alloc (Ev.drew (by with_reducible assumption)) _))
        (first | (go_at_call 42; refine (H42.out _ (by first | assumption | exact Ev.drew (by with_reducible assumption))).mono ?_; clear hev; rintro e w' ⟨rfl, hev⟩))
      go_wp2_with fail
      refine (HPA.out 2 1 0 2 W2 _ (by decide) (by decide) (by decide) (by decide) (by first | assumption | exact Ev.drew (by with_reducible assumption))).mono ?_
      clear hev
      rintro e w5 ⟨rfl, hev⟩
      have hbx := HX2.out.ev HZ2.out.2 hev
      have HX6 := Lib.hid (hbx.set 0 2)
      have HE6 : Hid (Ev wr ((w5.setCell ⟨wr.heap.size, 0, none⟩ (.int .i64 0)).setCell ⟨wr.heap.size, 1, none⟩ (.int .i64 2))) := Lib.hid (((HE2.out.step hev).setC (by simp only []; omega) _).setC (by simp only []; omega) _)
      have HO := Lib.hid (own_below (pop1 HOWN.out) HE6.out)
      have HE := Lib.hid (HEV.out.step HE6.out)
      obtain ⟨⟨x0, x1⟩, f0, f1⟩ := hbx
      clear hev
      go_wp2_with fail
      generalize (w5.setCell ⟨wr.heap.size, 0, none⟩ (.int .i64 0)).setCell ⟨wr.heap.size, 1, none⟩ (.int .i64 2) = W6 at *
      obtain ⟨⟨y0, y1⟩, -, -⟩ := HX6.out
      clear x0 x1 f0 f1
      rw [rounds_succ]
      go_upto_region 14 with fail
      generalize Value.slice (some ⟨g, 0, none⟩) 0 cap' = vv at *
      have HO2 : Hid ((W6.alloc (.cells #[.int .i64 0, .int .i64 2] 28)).ownsRow w.heap.size 28 2 vv 0 []) := Lib.hid (HO.out.alloc _)
      have H1 := Lib.hid (bk_cells W6 0 2)
      have H2 : Hid (∀ u ∈ [Value.int .i64 0, .int .i64 2], u.oneCell' = true) := Lib.hid (by simp [Value.oneCell'])
      have H3 := Lib.hid (show 0 + 1 ≤ maxLen from by unfold maxLen; omega)
      have H4 := Lib.hid (show (0 + 1) * 16 ≤ 140737488355328 from by omega)
      have H5 : Hid (w.heap.size ≤ (W6.alloc (.cells #[.int .i64 0, .int .i64 2] 28)).heap.size) := Lib.hid (by have := HE.out.sz; simp; omega)
      have HB : Hid (Ev w (W6.alloc (.cells #[.int .i64 0, .int .i64 2] 28))) := Lib.hid (HE.out.alloc _)
      go_wp2_with (at_builtin; go_loud (refine wpList_append_own _ rfl (.tmp 53) (.tmp 55) 33 rfl w.heap.size 28 i0 (bk 0 0) 2 16 Tryd.underlying33 hi0 hz0 hz1 hz2 rfl (by decide) vv 0 [] rfl (HO2.out) ⟨W6.heap.size, 0, none⟩ 1 1 [.int .i64 0, .int .i64 2] rfl rfl (H1.out) (H2.out) H3.out H4.out (H5.out) ?_); intro v1 w4 hown4 hg4 _)
      have HW := Lib.hid (HB.out.grown hg4 (H5.out) (fun g hg => (HO.out.lt g hg).1))
      have HOW : Hid (w4.ownsRow w.heap.size 28 2 v1 1 [.int .i64 0, .int .i64 2]) := Lib.hid hown4
      clear hg4 hown4
      go_roundg (gk - 1)
      case rel => exact ⟨j + 1, 1, [.int .i64 0, .int .i64 2], by have := HG.out; omega, by go_num, HOW.out, HW.out, by have := HJ.out; exact .inr (.inr (.inr (.inl ⟨by omega, rfl, rfl⟩)))⟩
      case measure => have := HG.out; omega
    · have hlt : j < 4 := by omega
      have hlt' : (j : Int) < 4 := by omega
      obtain ⟨c1, c2⟩ := HL.out wr j HEV.out hlt
      rw [show (l0.getD j (0, 0)) = (8, 0) from by rw [hj]; rfl] at c1 c2
      have HJ := Lib.hid hj
      simp only at c1 c2
      clear hj
      obtain ⟨g, cap', rfl⟩ := ownsRow_succ HOWN.out
      obtain ⟨⟨hgl, hcap⟩, t0, t1⟩ := top1 HOWN.out
      have HT : Hid (∀ W, Ev wr W → W.cell? ⟨g, 0, none⟩ = some (.int .i64 0) ∧ W.cell? ⟨g, 1, none⟩ = some (.int .i64 2)) := Lib.hid fun W e => ⟨by rw [e.cell (p := ⟨g, 0, none⟩) hgl]; exact t0, by rw [e.cell (p := ⟨g, 1, none⟩) hgl]; exact t1⟩
      clear t0 t1
      go_wp2_with fail
      have HX := Lib.hid (Bw2.new wr 8 0 28)
      have HE1 := Lib.hid (Ev.new2 wr 8 0 28)
      have HZ1 : Hid (wr.heap.size < (wr.alloc (.cells #[.int .i64 8, .int .i64 0] 28)).heap.size) := Lib.hid (by simp)
      generalize wr.alloc (.cells #[.int .i64 8, .int .i64 0] 28) = W at *
      obtain ⟨t0, t1⟩ := HT.out _ HE1.out
      clear c1 c2
      refine wp_loop_rounds 2 ?_
      rw [rounds_succ]
      go_wp2_with fail
      have HX2 := Lib.hid (HX.out.ev HZ1.out (Ev.new2 W 0 2 28))
      have HY2 := Lib.hid (Bw2.new W 0 2 28)
      have HE2 := Lib.hid (HE1.out.step (Ev.new2 W 0 2 28))
      have HZ2 : Hid (W.heap.size < (W.alloc (.cells #[.int .i64 0, .int .i64 2] 28)).heap.size ∧ wr.heap.size < (W.alloc (.cells #[.int .i64 0, .int .i64 2] 28)).heap.size) := Lib.hid (by have := HZ1.out; simp; omega)
      generalize W.alloc (.cells #[.int .i64 0, .int .i64 2] 28) = W2 at *
      clear t0 t1
      have HS : Hid (∀ X, Ev W2 X → ((X.cell? ⟨wr.heap.size, 0, none⟩ = some (.int .i64 8) ∧ X.cell? ⟨wr.heap.size, 1, none⟩ = some (.int .i64 0)) ∧ (X.cell? ⟨W.heap.size, 0, none⟩ = some (.int .i64 0) ∧ X.cell? ⟨W.heap.size, 1, none⟩ = some (.int .i64 2))) ∧ Ev W2 X) := Lib.hid fun X e => ⟨⟨(HX2.out.ev HZ2.out.2 e).1, (HY2.out.ev HZ2.out.1 e).1⟩, e⟩
      have H42 := Lib.hid fun X => HBU.out 8 0 9 W2 X (by decide) (by decide) (by decide)
      have hev := Ev.refl W2
      go_region_held3 (fun w' => ((w'.cell? ⟨wr.heap.size, 0, none⟩ = some (.int .i64 8) ∧ w'.cell? ⟨wr.heap.size, 1, none⟩ = some (.int .i64 0)) ∧ (w'.cell? ⟨W.heap.size, 0, none⟩ = some (.int .i64 0) ∧ w'.cell? ⟨W.heap.size, 1, none⟩ = some (.int .i64 2))) ∧ Ev W2 w')
        (first | with_reducible exact HS.out _ (by with_reducible assumption) | with_reducible exact HS.out _ (Ev.drew (by with_reducible assumption)) | with_reducible exact HS.out _ (Ev.alloc (by with_reducible assumption) _) | with_reducible exact HS.out _ (Ev.alloc (Ev.drew (by with_reducible assumption)) _))
        (first | (go_at_call 42; refine (H42.out _ (by first | assumption | exact Ev.drew (by with_reducible assumption))).mono ?_; clear hev; rintro e w' ⟨rfl, hev⟩))
      have HE : Hid (Ev w w') := Lib.hid (HEV.out.step (HE2.out.step hev))
      have HO := Lib.hid (own_below HOWN.out (HE2.out.step hev))
      obtain ⟨⟨⟨y0, y1⟩, -⟩, -⟩ := HS.out _ hev
      clear hev
      go_upto_region 11 with fail
      generalize Value.slice (some ⟨g, 0, none⟩) 1 cap' = vv at *
      have HO2 : Hid ((w'.alloc (.cells #[.int .i64 8, .int .i64 0] 28)).ownsRow w.heap.size 28 2 vv 1 [.int .i64 0, .int .i64 2]) := Lib.hid (HO.out.alloc _)
      have H1 := Lib.hid (bk_cells w' 8 0)
      have H2 : Hid (∀ u ∈ [Value.int .i64 8, .int .i64 0], u.oneCell' = true) := Lib.hid (by simp [Value.oneCell'])
      have H3 := Lib.hid (show 1 + 1 ≤ maxLen from by unfold maxLen; omega)
      have H4 := Lib.hid (show (1 + 1) * 16 ≤ 140737488355328 from by omega)
      have H5 : Hid (w.heap.size ≤ (w'.alloc (.cells #[.int .i64 8, .int .i64 0] 28)).heap.size) := Lib.hid (by have := HE.out.sz; simp; omega)
      have HB : Hid (Ev w (w'.alloc (.cells #[.int .i64 8, .int .i64 0] 28))) := Lib.hid (HE.out.alloc _)
      go_wp2_with (at_builtin; go_loud (refine wpList_append_own _ rfl (.tmp 42) (.tmp 44) 33 rfl w.heap.size 28 i0 (bk 0 0) 2 16 Tryd.underlying33 hi0 hz0 hz1 hz2 rfl (by decide) vv 1 [.int .i64 0, .int .i64 2] rfl (HO2.out) ⟨w'.heap.size, 0, none⟩ 1 1 [.int .i64 8, .int .i64 0] rfl rfl (H1.out) (H2.out) H3.out H4.out (H5.out) ?_); intro v1 w4 hown4 hg4 _)
      have HW := Lib.hid (HB.out.grown hg4 (H5.out) (fun g hg => (HO.out.lt g hg).1))
      have HOW : Hid (w4.ownsRow w.heap.size 28 2 v1 2 [.int .i64 0, .int .i64 2, .int .i64 8, .int .i64 0]) := Lib.hid hown4
      clear hg4 hown4
      go_roundg (gk - 1)
      case rel => exact ⟨j + 1, 2, [.int .i64 0, .int .i64 2, .int .i64 8, .int .i64 0], by have := HG.out; omega, by go_num, HOW.out, HW.out, by have := HJ.out; exact .inr (.inr (.inr (.inr ⟨by omega, rfl, rfl⟩)))⟩
      case measure => have := HG.out; omega
    · subst hj
      go_wp2_with fail
      (try rw [Exit.noGoto_ret])
      go_ret2
      exact ⟨_, rfl, ⟨2, HOWN.out⟩, HEV.out⟩
end Go.Proofs.YtkneonfhikcdkaaDoor
