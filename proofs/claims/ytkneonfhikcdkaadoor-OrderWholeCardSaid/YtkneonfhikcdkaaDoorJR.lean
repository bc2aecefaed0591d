import Derived.Test.YtkneonfhikcdkaaDoorJQ
import Derived.Test.YtkneonfhikcdkaaDoorOP
namespace Go.Proofs.YtkneonfhikcdkaaDoor
open Go.RowKit
theorem eq3 (a b : Int) (n : Nat) (w : World) : Sem.run Tryd.prog (Op.equalIn (n + 1) 3 (.int .i64 a) (.int .i64 b)) w = .ok (a == b) w := by
  unfold Op.equalIn
  simp [run_underlying Tryd.underlying3]
theorem eq28 (a b a' b' : Int) (w : World) : Sem.run Tryd.prog (Op.equalIn 10000 28 (bk a b) (bk a' b')) w = .ok ((a == a') && (b == b')) w := by
  rw [show (10000 : Nat) = 9998 + 1 + 1 from rfl]
  unfold Op.equalIn
  simp [run_underlying Tryd.underlying28, go_sem, eq3]
  repeat' split
  all_goals simp_all
theorem own_form {w : World} {base : Nat} {v : Value} {n : Nat} {xs : List Value} (h : w.ownsRow base 28 2 v n xs) : ∃ A cap, v = .slice A n cap := by
  rcases h.2 with ⟨rfl, h0⟩ | ⟨g, cap, cur, rfl, -⟩
  · subst h0; exact ⟨none, 0, rfl⟩
  · exact ⟨_, _, rfl⟩
def jnL (l : List (Int × Int)) : List (Int × Int) := if (chkL 0 0 l).1 = 0 then joinL l else []
def JnQ (W : World) (L : List (Int × Int)) (er : Int) (x : Ending) (w' : World) : Prop := ∃ A c, x = .returned (.tuple #[.slice A L.length c, .int .i64 er]) ∧ RdP w' A L ∧ (A = none → L.length = 0 ∧ c = 0) ∧ Ev W w'
theorem RdP.of_own2 {w : World} {base : Nat} {v : Value} {L : List (Int × Int)} (h : w.ownsRow base 28 2 v L.length (flatS L)) (hl : L.length ≤ 4000000000) : ∃ A cap, v = .slice A L.length cap ∧ RdP w A L ∧ (A = none → L.length = 0 ∧ cap = 0) := by
  rcases h.2 with ⟨rfl, h0⟩ | ⟨g, cap, cur, rfl, hbg, hh, hn, hc, hs, ht⟩
  · have e : L = [] := List.eq_nil_of_length_eq_zero h0
    subst e
    exact ⟨none, 0, rfl, RdP.nil _ _, fun _ => ⟨rfl, rfl⟩⟩
  · refine ⟨some ⟨g, 0, none⟩, cap, rfl, ⟨hl, fun j hj => ⟨g, 0, rfl, (h.lt g rfl).2, ?_, ?_⟩⟩, fun h => by cases h⟩
    · rw [Nat.zero_add, World.ownsRow.cellAt h (j * 2) (by omega)]
      exact (flatS_get L j hj).1
    · rw [Nat.zero_add, World.ownsRow.cellAt h (j * 2 + 1) (by omega)]
      exact (flatS_get L j hj).2
set_option maxRecDepth 100000 in
set_option maxHeartbeats 8000000 in
theorem join_gen (A : Option Addr) (cap : Nat) (l : List (Int × Int)) (w : World) (hr : RdP w A l) (hl : l.length ≤ 1000) :
    Calls Tryd.prog 29 #[.slice A l.length cap] w fun e w' => JnQ w (jnL l) (chkL 0 0 l).1 e w' := by
  obtain ⟨i0, hi0, hz0, hz1, hz2⟩ := info_parts info28
  have HC := Lib.hid (checkList_any A cap l w hr)
  have HR := Lib.hid hr
  have HL := Lib.hid hl
  have hn1000 : (l.length : Int) ≤ 1000 := by omega
  by_cases hck : (chkL 0 0 l).1 = 0
  · have HJN : Hid (jnL l = joinL l) := Lib.hid (by unfold jnL; rw [if_pos hck])
    have h00 := chkL_err l 0 0 hck
    have HAT := Lib.hid (join_at l h00)
    rw [h00] at HC ⊢
    simp only [] at HC ⊢
    clear hr hl hck h00
    go_enter Tryd.func29, Tryd.ntmps29
    go_wp2_with fail
    go_step3
    go_wp2_with fail
    refine HC.out.mono ?_
    rintro e w0 ⟨rfl, hev0⟩
    have HEV0 := Lib.hid hev0
    clear hev0 HC
    go_wp2_with fail
    go_step3
    go_wp2_with fail
    generalize hv0 : Value.slice none 0 0 = v00
    have HV0 := Lib.hid hv0
    clear hv0
    go_loopg [6, 20] l.length (fun gh v i wr => ∃ j : Nat, gh + j = l.length ∧ i = .int .i64 j ∧ wr.ownsRow w.heap.size 28 2 v (joinR (l.take j)).length (flatS (joinR (l.take j)).reverse) ∧ Ev w wr)
    case atStart => exact ⟨0, rfl, rfl, by rw [← HV0.out]; exact ⟨rfl, .inl ⟨rfl, rfl⟩⟩, HEV0.out⟩
    case round =>
      obtain ⟨j, hg, rfl, hown, hev⟩ := hrel
      obtain ⟨wo, rfl⟩ : ∃ wo, wo = wr := ⟨_, rfl⟩
      have HG := Lib.hid hg
      have HEV := Lib.hid hev
      obtain ⟨S0, cS0, rfl⟩ := own_form hown
      have HOWN := Lib.hid hown
      clear hg hown
      by_cases hlt : j < l.length
      · obtain ⟨b, o, rfl, hb, c1, c2⟩ := (HR.out.ev hev).2 j hlt
        have hlt' : (j : Int) < (l.length : Int) := by omega
        have hj0 : 0 ≤ (j : Int) := by omega
        have HLT := Lib.hid hlt
        have HT : Hid (joinR (l.take (j + 1)) = pushR (joinR (l.take j)) (l.getD j (0, 0))) := Lib.hid (by
          have e : l.take (j + 1) = l.take j ++ [l.getD j (0, 0)] := by rw [List.take_succ_eq_append_getElem hlt]; simp [List.getD, hlt]
          rw [e, joinR_snoc])
        have HD := Lib.hid (HAT.out j (by omega)).1
        have HDL := Lib.hid (HAT.out j (by omega)).2.1
        have HB0 := Lib.hid ((HAT.out j (by omega)).2.2 j (Nat.le_refl _) hlt)
        obtain ⟨g1, hg1⟩ : ∃ g1, g1 + 1 = gk := ⟨gk - 1, by have := HG.out; omega⟩
        have HG1 := Lib.hid hg1
        generalize l.getD j (0, 0) = b0 at *
        obtain ⟨x0, o0⟩ := b0
        simp only [] at c1 c2 HB0
        clear hlt hev hb hg1
        generalize joinR (l.take j) = r0 at *
        go_wp2_with fail
        have HX := Lib.hid (Bw2.new wo x0 o0 28)
        have HE1 := Lib.hid (Ev.new2 wo x0 o0 28)
        have HZ1 : Hid (wo.heap.size < (wo.alloc (.cells #[.int .i64 x0, .int .i64 o0] 28)).heap.size) := Lib.hid (by simp)
        generalize wo.alloc (.cells #[.int .i64 x0, .int .i64 o0] 28) = W1 at *
        clear c1 c2
        go_loopg [6] r0.length (fun gh v wr => ∃ (r : List (Int × Int)) (x o : Int), gh = r.length ∧ wo.ownsRow w.heap.size 28 2 v r.length (flatS r.reverse) ∧ Bw2 wr wo.heap.size x o ∧ wo.heap.size < wr.heap.size ∧ pushR r (x, o) = pushR r0 (x0, o0) ∧ Desc r ∧ okB (x, o) ∧ Bef r x ∧ r.length ≤ 1000 ∧ Ev wo wr)
        case atStart => exact ⟨r0, x0, o0, rfl, HOWN.out, HX.out, HZ1.out, rfl, HD.out, HB0.out.1, HB0.out.2, by have := HDL.out; have := HLT.out; have := HL.out; omega, HE1.out⟩
        case round =>
          obtain ⟨r, x, o, hgh, hown, hbx, hxz, hpush, hdesc, hokb, hbef, hrl, hev⟩ := hrel
          have HGH := Lib.hid hgh
          have HP := Lib.hid hpush
          have HBX := Lib.hid hbx
          have HXZ := Lib.hid hxz
          have HEI := Lib.hid hev
          have HDS := Lib.hid hdesc
          have HOK := Lib.hid hokb
          have HBF := Lib.hid hbef
          clear hgh hpush hdesc hokb hbef hxz
          obtain ⟨A1, cap1, rfl⟩ := own_form hown
          have HOW1 := Lib.hid hown
          cases r with
          | nil =>
            have HRL : Hid ((0 : Nat) ≤ 1000) := Lib.hid (by omega)
            have HF0 : joinR (l.take (j + 1)) = [(x, o)] := by rw [HT.out, ← HP.out]; rfl
            have HF : Hid ((joinR (l.take (j + 1))).length = 0 + 1 ∧ (joinR (l.take (j + 1))).reverse = [] ++ [(x, o)]) := Lib.hid (by rw [HF0]; exact ⟨rfl, rfl⟩)
            clear HF0
            obtain ⟨⟨y0, y1⟩, -, -⟩ := HBX.out
            clear hown hrl hbx hev
            have HOW1' : Hid (wo.ownsRow w.heap.size 28 2 (.slice A1 0 cap1) 0 []) := HOW1
            clear HOW1
            go_upto_region 14 with fail
            generalize Value.slice A1 0 cap1 = vv at *
            have HO := Lib.hid (own_below HOW1'.out HEI.out)
            have HE := Lib.hid (HEV.out.step HEI.out)
            have HO2 : Hid ((wr.alloc (.cells #[.int .i64 x, .int .i64 o] 28)).ownsRow w.heap.size 28 2 vv 0 ([])) := Lib.hid (HO.out.alloc _)
            have H1 := Lib.hid (bk_cells wr x o)
            have H2 : Hid (∀ u ∈ [Value.int .i64 x, .int .i64 o], u.oneCell' = true) := Lib.hid (by simp [Value.oneCell'])
            have H3 := Lib.hid (show 0 + 1 ≤ maxLen from by have := HRL.out; unfold maxLen; omega)
            have H4 := Lib.hid (show (0 + 1) * 16 ≤ 140737488355328 from by have := HRL.out; omega)
            have H5 : Hid (w.heap.size ≤ (wr.alloc (.cells #[.int .i64 x, .int .i64 o] 28)).heap.size) := Lib.hid (Nat.le_trans HE.out.sz (Ev.sz (al1 _ _)))
            have HB : Hid (Ev w (wr.alloc (.cells #[.int .i64 x, .int .i64 o] 28))) := Lib.hid (HE.out.alloc _)
            go_wp2_with (at_builtin; go_loud (refine wpList_append_own _ rfl (.tmp 53) (.tmp 55) 33 rfl w.heap.size 28 i0 (bk 0 0) 2 16 Tryd.underlying33 hi0 hz0 hz1 hz2 rfl (by decide) vv 0 ([]) rfl (HO2.out) ⟨wr.heap.size, 0, none⟩ 1 1 [.int .i64 x, .int .i64 o] rfl rfl (H1.out) (H2.out) H3.out H4.out (H5.out) ?_); intro v1 w4 hown4 hg4 _; have HW := Lib.hid (HB.out.grown hg4 (H5.out) (fun g hg => (HO.out.lt g hg).1)); have HOW := Lib.hid hown4; clear hg4 hown4)
            go_roundg g1
            case rel => exact ⟨j + 1, by have := HG.out; have := HG1.out; omega, by go_num, by rw [HF.out.1, HF.out.2]; simpa [flatS_app, flatS] using HOW.out, HW.out⟩
            case measure => have := HG1.out; omega
          | cons t r' =>
            obtain ⟨ta, tb⟩ := t
            have hl1 : ((ta, tb) :: r').length = r'.reverse.length + 1 := by simp
            have hown' : wo.ownsRow w.heap.size 28 2 (.slice A1 (r'.reverse.length + 1) cap1) (r'.reverse.length + 1) (flatS (r'.reverse ++ [(ta, tb)])) := by
              rw [List.reverse_cons] at hown
              rwa [hl1] at hown
            rw [hl1] at hown hrl
            rw [show ((ta, tb) :: r').length = r'.reverse.length + 1 from hl1]
            clear hl1
            obtain ⟨g, capx, hgv⟩ := ownsRow_succ hown'
            injection hgv with hA1 _ hcx
            subst hA1 hcx
            obtain ⟨⟨hgb, hgl, hcap⟩, t0, t1⟩ := topS hown'
            have HOW1' := Lib.hid hown'
            have HCAP := Lib.hid hcap
            have hn1 : 0 ≤ (r'.reverse.length : Int) := by omega
            have hn2 : (r'.reverse.length : Int) ≤ 1000 := by omega
            have hn3 : (r'.reverse.length : Int) + 1 ≤ 1001 := by omega
            have t0i : wr.cell? ⟨g, r'.reverse.length * 2, none⟩ = some (.int .i64 ta) := by rw [hev.cell (p := ⟨g, r'.reverse.length * 2, none⟩) hgl]; exact t0
            have t1i : wr.cell? ⟨g, r'.reverse.length * 2 + 1, none⟩ = some (.int .i64 tb) := by rw [hev.cell (p := ⟨g, r'.reverse.length * 2 + 1, none⟩) hgl]; exact t1
            have HPL : Hid ((flatS (r'.reverse ++ [(ta, tb)])).length = (r'.reverse.length + 1) * 2) := Lib.hid (by rw [flatS_len]; simp)
            have HREV : Hid (((ta, tb) :: r').reverse = r'.reverse ++ [(ta, tb)]) := Lib.hid (List.reverse_cons ..)
            have HLEN : Hid (((ta, tb) :: r').length = r'.reverse.length + 1) := Lib.hid (by simp)
            have HLR : Hid (r'.length = r'.reverse.length) := Lib.hid (by simp)
            have HRL := Lib.hid hrl
            clear hown hown' t0 t1 hgb hrl HOW1
            generalize hq : r'.reverse = q at *
            have HQ := Lib.hid hq
            clear hq
            have HR' : Hid (∀ v, wo.ownsRow w.heap.size 28 2 v q.length (flatS q) → wo.ownsRow w.heap.size 28 2 v r'.length (flatS r'.reverse)) := Lib.hid (fun v h => by
              have e : r'.length = q.length := by have := congrArg List.length HQ.out; simpa using this
              rw [HQ.out, e]; exact h)
            go_upto_region 10 with fail
            have HX2 := Lib.hid (HBX.out.ev HXZ.out (Ev.new2 wr ta tb 28))
            have HY2 := Lib.hid (Bw2.new wr ta tb 28)
            have HE2 := Lib.hid (hev.step (Ev.new2 wr ta tb 28))
            have HZ2 : Hid (wr.heap.size < (wr.alloc (.cells #[.int .i64 ta, .int .i64 tb] 28)).heap.size ∧ wo.heap.size < (wr.alloc (.cells #[.int .i64 ta, .int .i64 tb] 28)).heap.size) := Lib.hid (by have := HXZ.out; simp; omega)
            generalize wr.alloc (.cells #[.int .i64 ta, .int .i64 tb] 28) = W2 at *
            clear t0i t1i hbx hev
            have HS : Hid (∀ X, Ev W2 X → ((X.cell? ⟨wo.heap.size, 0, none⟩ = some (.int .i64 x) ∧ X.cell? ⟨wo.heap.size, 1, none⟩ = some (.int .i64 o)) ∧ (X.cell? ⟨wr.heap.size, 0, none⟩ = some (.int .i64 ta) ∧ X.cell? ⟨wr.heap.size, 1, none⟩ = some (.int .i64 tb))) ∧ Ev W2 X) := Lib.hid fun X e => ⟨⟨(HX2.out.ev HZ2.out.2 e).1, (HY2.out.ev HZ2.out.1 e).1⟩, e⟩
            by_cases h6 : o = 6
            · have HF0 : joinR (l.take (j + 1)) = (x, o) :: (ta, tb) :: r' := by rw [HT.out, ← HP.out]; unfold pushR; rw [if_pos (.inl h6)]
              have HF : Hid ((joinR (l.take (j + 1))).length = q.length + 1 + 1 ∧ (joinR (l.take (j + 1))).reverse = q ++ [(ta, tb)] ++ [(x, o)]) := Lib.hid (by
                rw [HF0]
                have := congrArg List.length HQ.out
                simp at this
                simp [HQ.out, this])
              have h6' : (o == 6) = true := by simpa using h6
              clear HF0 h6
              obtain ⟨⟨⟨y0, y1⟩, -⟩, -⟩ := HS.out _ (Ev.refl _)
              go_quiet (fail)
              have HEQ := Lib.hid ((HE2.out).drewN nq)
              go_upto_region 11 with fail
              generalize Value.slice (some ⟨g, 0, none⟩) (q.length + 1) cap1 = vv at *
              have HO := Lib.hid (own_below HOW1'.out HEQ.out)
              have HE := Lib.hid (HEV.out.step HEQ.out)
              have HO2 : Hid (((W2.drewN nq).alloc (.cells #[.int .i64 x, .int .i64 o] 28)).ownsRow w.heap.size 28 2 vv (q.length + 1) (flatS (q ++ [(ta, tb)]))) := Lib.hid (HO.out.alloc _)
              have H1 := Lib.hid (bk_cells (W2.drewN nq) x o)
              have H2 : Hid (∀ u ∈ [Value.int .i64 x, .int .i64 o], u.oneCell' = true) := Lib.hid (by simp [Value.oneCell'])
              have H3 := Lib.hid (show (q.length + 1) + 1 ≤ maxLen from by have := HRL.out; unfold maxLen; omega)
              have H4 := Lib.hid (show ((q.length + 1) + 1) * 16 ≤ 140737488355328 from by have := HRL.out; omega)
              have H5 : Hid (w.heap.size ≤ ((W2.drewN nq).alloc (.cells #[.int .i64 x, .int .i64 o] 28)).heap.size) := Lib.hid (Nat.le_trans HE.out.sz (Ev.sz (al1 _ _)))
              have HB : Hid (Ev w ((W2.drewN nq).alloc (.cells #[.int .i64 x, .int .i64 o] 28))) := Lib.hid (HE.out.alloc _)
              go_wp2_with (at_builtin; go_loud (refine wpList_append_own _ rfl (.tmp 42) (.tmp 44) 33 rfl w.heap.size 28 i0 (bk 0 0) 2 16 Tryd.underlying33 hi0 hz0 hz1 hz2 rfl (by decide) vv (q.length + 1) (flatS (q ++ [(ta, tb)])) rfl (HO2.out) ⟨(W2.drewN nq).heap.size, 0, none⟩ 1 1 [.int .i64 x, .int .i64 o] rfl rfl (H1.out) (H2.out) H3.out H4.out (H5.out) ?_); intro v1 w4 hown4 hg4 _; have HW := Lib.hid (HB.out.grown hg4 (H5.out) (fun g hg => (HO.out.lt g hg).1)); have HOW := Lib.hid hown4; clear hg4 hown4)
              go_roundg g1
              case rel => exact ⟨j + 1, by have := HG.out; have := HG1.out; omega, by go_num, by rw [HF.out.1, HF.out.2]; simpa [flatS_app, flatS] using HOW.out, HW.out⟩
              case measure => have := HG1.out; omega
            · have h6' : (o == 6) = false := by simpa using h6
              have H42 := Lib.hid fun X (e : Ev W2 X) => evN e (buddy1_any x o X HOK.out h6)
              have HPA := Lib.hid fun X (e : Ev W2 X) => evN e (parent1_any x o X HOK.out h6)
              have HN6 := Lib.hid h6
              clear h6
              by_cases hj : (ta, tb) = (bud x o, o)
              · have hfe : ∀ W, Sem.run Tryd.prog (Op.equalIn 10000 28 (bk ta tb) (bk (bud x o) o)) W = .ok true W := fun W => by rw [eq28]; injection hj with h1 h2; rw [h1, h2]; simp
                have HJ := Lib.hid (par_ok HOK.out HN6.out (ta, tb) hj (HBF.out (ta, tb) (by simp)))
                have HPU : Hid (pushR r' (par x o, o + 1) = pushR r0 (x0, o0)) := Lib.hid (by
                  rw [← HP.out]
                  conv => rhs; unfold pushR
                  rw [if_neg (by rintro (h | h); exact HN6.out h; exact h hj)])
                clear hj
                have hev := Ev.refl W2
                have dd := HS.out _ hev
                go_region_held3 (fun w' => ((w'.cell? ⟨wo.heap.size, 0, none⟩ = some (.int .i64 x) ∧ w'.cell? ⟨wo.heap.size, 1, none⟩ = some (.int .i64 o)) ∧ (w'.cell? ⟨wr.heap.size, 0, none⟩ = some (.int .i64 ta) ∧ w'.cell? ⟨wr.heap.size, 1, none⟩ = some (.int .i64 tb))) ∧ Ev W2 w')
                  (first | with_reducible exact HS.out _ (by with_reducible assumption) | with_reducible exact HS.out _ (Ev.drew (by with_reducible assumption)) | with_reducible exact HS.out _ (Ev.alloc (by with_reducible assumption) _) | with_reducible exact HS.out _ (Ev.alloc (Ev.drew (by with_reducible assumption)) _))
                  (first | (go_at_call 42; refine (H42.out _ (by first | assumption | exact Ev.drew (by with_reducible assumption))).mono ?_; clear hev; rintro e w' ⟨rfl, hev⟩))
                go_wp2_with fail
                refine (HPA.out _ (by first | assumption | exact Ev.drew (by with_reducible assumption))).mono ?_
                clear hev
                rintro e w5 ⟨rfl, hev⟩
                have hbx := HX2.out.ev HZ2.out.2 hev
                have HX6 := Lib.hid (hbx.set (par x o) (o + 1))
                have HE6 : Hid (Ev wo ((w5.setCell ⟨wo.heap.size, 0, none⟩ (.int .i64 (par x o))).setCell ⟨wo.heap.size, 1, none⟩ (.int .i64 (o + 1)))) := Lib.hid (((HE2.out.step hev).setC (p := ⟨wo.heap.size, 0, none⟩) (Nat.le_refl _) _).setC (p := ⟨wo.heap.size, 1, none⟩) (Nat.le_refl _) _)
                have HZ6 : Hid (wo.heap.size < ((w5.setCell ⟨wo.heap.size, 0, none⟩ (.int .i64 (par x o))).setCell ⟨wo.heap.size, 1, none⟩ (.int .i64 (o + 1))).heap.size) := Lib.hid (by have h1 := HZ2.out.2; have h2 := hev.sz; simp; omega)
                obtain ⟨⟨z0, z1⟩, f0, f1⟩ := hbx
                clear hev dd
                go_wp2_with fail
                go_roundg r'.length
                case rel => exact ⟨r', par x o, o + 1, rfl, HR'.out _ (popS HOW1'.out), HX6.out, HZ6.out, HPU.out, HDS.out.tail, HJ.out.2.1, by rw [HJ.out.1]; exact HDS.out.head.2, by have h1 := HRL.out; have h2 := HLR.out; omega, HE6.out⟩
                case measure => rw [HGH.out]; simp
              · have hfe : ∀ W, Sem.run Tryd.prog (Op.equalIn 10000 28 (bk ta tb) (bk (bud x o) o)) W = .ok false W := fun W => by
                  rw [eq28]
                  have : ((ta == bud x o) && (tb == o)) = false := by
                    cases hc : ((ta == bud x o) && (tb == o)) with
                    | false => rfl
                    | true => exfalso; simp at hc; exact hj (by rw [hc.1, hc.2])
                  rw [this]
                have HF0 : joinR (l.take (j + 1)) = (x, o) :: (ta, tb) :: r' := by rw [HT.out, ← HP.out]; unfold pushR; rw [if_pos (.inr hj)]
                have HF : Hid ((joinR (l.take (j + 1))).length = q.length + 1 + 1 ∧ (joinR (l.take (j + 1))).reverse = q ++ [(ta, tb)] ++ [(x, o)]) := Lib.hid (by
                  rw [HF0]
                  have := congrArg List.length HQ.out
                  simp at this
                  simp [HQ.out, this])
                clear HF0 hj
                have hev := Ev.refl W2
                have dd := HS.out _ hev
                go_region_held3 (fun w' => ((w'.cell? ⟨wo.heap.size, 0, none⟩ = some (.int .i64 x) ∧ w'.cell? ⟨wo.heap.size, 1, none⟩ = some (.int .i64 o)) ∧ (w'.cell? ⟨wr.heap.size, 0, none⟩ = some (.int .i64 ta) ∧ w'.cell? ⟨wr.heap.size, 1, none⟩ = some (.int .i64 tb))) ∧ Ev W2 w')
                  (first | with_reducible exact HS.out _ (by with_reducible assumption) | with_reducible exact HS.out _ (Ev.drew (by with_reducible assumption)) | with_reducible exact HS.out _ (Ev.alloc (by with_reducible assumption) _) | with_reducible exact HS.out _ (Ev.alloc (Ev.drew (by with_reducible assumption)) _))
                  (first | (go_at_call 42; refine (H42.out _ (by first | assumption | exact Ev.drew (by with_reducible assumption))).mono ?_; clear hev; rintro e w' ⟨rfl, hev⟩))
                have HEW' : Hid (Ev wo w') := Lib.hid (HE2.out.step hev)
                obtain ⟨⟨⟨y0, y1⟩, -⟩, -⟩ := HS.out _ hev
                clear hev dd
                go_upto_region 11 with fail
                generalize Value.slice (some ⟨g, 0, none⟩) (q.length + 1) cap1 = vv at *
                have HO := Lib.hid (own_below HOW1'.out HEW'.out)
                have HE := Lib.hid (HEV.out.step HEW'.out)
                have HO2 : Hid ((w'.alloc (.cells #[.int .i64 x, .int .i64 o] 28)).ownsRow w.heap.size 28 2 vv (q.length + 1) (flatS (q ++ [(ta, tb)]))) := Lib.hid (HO.out.alloc _)
                have H1 := Lib.hid (bk_cells w' x o)
                have H2 : Hid (∀ u ∈ [Value.int .i64 x, .int .i64 o], u.oneCell' = true) := Lib.hid (by simp [Value.oneCell'])
                have H3 := Lib.hid (show (q.length + 1) + 1 ≤ maxLen from by have := HRL.out; unfold maxLen; omega)
                have H4 := Lib.hid (show ((q.length + 1) + 1) * 16 ≤ 140737488355328 from by have := HRL.out; omega)
                have H5 : Hid (w.heap.size ≤ (w'.alloc (.cells #[.int .i64 x, .int .i64 o] 28)).heap.size) := Lib.hid (Nat.le_trans HE.out.sz (Ev.sz (al1 _ _)))
                have HB : Hid (Ev w (w'.alloc (.cells #[.int .i64 x, .int .i64 o] 28))) := Lib.hid (HE.out.alloc _)
                go_wp2_with (at_builtin; go_loud (refine wpList_append_own _ rfl (.tmp 42) (.tmp 44) 33 rfl w.heap.size 28 i0 (bk 0 0) 2 16 Tryd.underlying33 hi0 hz0 hz1 hz2 rfl (by decide) vv (q.length + 1) (flatS (q ++ [(ta, tb)])) rfl (HO2.out) ⟨w'.heap.size, 0, none⟩ 1 1 [.int .i64 x, .int .i64 o] rfl rfl (H1.out) (H2.out) H3.out H4.out (H5.out) ?_); intro v1 w4 hown4 hg4 _; have HW := Lib.hid (HB.out.grown hg4 (H5.out) (fun g hg => (HO.out.lt g hg).1)); have HOW := Lib.hid hown4; clear hg4 hown4)
                go_roundg g1
                case rel => exact ⟨j + 1, by have := HG.out; have := HG1.out; omega, by go_num, by rw [HF.out.1, HF.out.2]; simpa [flatS_app, flatS] using HOW.out, HW.out⟩
                case measure => have := HG1.out; omega
      · obtain rfl : j = l.length := by have := HG.out; omega
        have hz : (joinR (l.take l.length)).length = (joinL l).length := by rw [List.take_length]; unfold joinL; simp
        have hz2 : (joinR (l.take l.length)).reverse = joinL l := by rw [List.take_length]; rfl
        have HLE := Lib.hid (HAT.out l.length (Nat.le_refl _)).2.1
        rw [hz] at HLE
        rw [hz, hz2] at HOWN
        rw [hz]
        obtain ⟨A2, c2, h1, h2, h3⟩ := RdP.of_own2 HOWN.out (by have := HLE.out; have := HL.out; omega)
        injection h1 with h4 _ h5
        subst h4 h5
        have H2 := Lib.hid h2
        have H3 := Lib.hid h3
        clear h2 h3 hz hz2 hlt
        go_wp2_with fail
        (try rw [Exit.noGoto_ret])
        go_ret2
        rw [HJN.out]
        exact ⟨_, _, rfl, H2.out, H3.out, HEV.out⟩
  · have hq : ((chkL 0 0 l).1 != 0) = true := by simpa using hck
    have HJN : Hid (jnL l = []) := Lib.hid (by unfold jnL; rw [if_neg hck])
    generalize (chkL 0 0 l).1 = er at *
    clear hr hl hck
    go_enter Tryd.func29, Tryd.ntmps29
    go_wp2_with fail
    go_step3
    go_wp2_with fail
    refine HC.out.mono ?_
    rintro e w0 ⟨rfl, hev0⟩
    have HEV0 := Lib.hid hev0
    clear hev0 HC
    go_wp2_with fail
    (try rw [Exit.noGoto_ret])
    go_ret2
    rw [HJN.out]
    exact ⟨none, 0, rfl, RdP.nil _ _, fun _ => ⟨rfl, rfl⟩, HEV0.out⟩
end Go.Proofs.YtkneonfhikcdkaaDoor
