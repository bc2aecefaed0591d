import Derived.Test.YtkneonfhikcdkaaDoorJR
import Derived.Test.YtkneonfhikcdkaaDoorOL
import Derived.IntWalk
namespace Go.Proofs.YtkneonfhikcdkaaDoor
open Go.RowKit
set_option maxRecDepth 100000 in
set_option maxHeartbeats 8000000 in
theorem rjoin_gen (A : Option Addr) (cap : Nat) (l : List (Int × Int)) (w : World) (hr : RdP w A l) (hl : l.length ≤ 1000) :
    Calls Tryd.prog 30 #[.slice A l.length cap] w fun e w' => JnQ w (jnL l) (chkL 0 0 l).1 e w' := by
  obtain ⟨i0, hi0, hz0, hz1, hz2⟩ := info_parts info28
  have HC := Lib.hid (rcheckList_any A cap l w hr)
  have HR := Lib.hid hr
  have HL := Lib.hid hl
  have hn1000 : (l.length : Int) ≤ 1000 := by omega
  by_cases hck : (chkL 0 0 l).1 = 0
  · have HJN : Hid (jnL l = joinL l) := Lib.hid (by unfold jnL; rw [if_pos hck])
    have h00 := chkL_err l 0 0 hck
    have HAT := Lib.hid (join_at l h00)
    rw [h00] at HC ⊢
    simp only [] at HC ⊢
    clear hr hl hck h00
    go_enter Tryd.func30, Tryd.ntmps30
    go_wp2_with fail
    refine HC.out.mono ?_
    rintro e w0 ⟨rfl, hev0⟩
    have HEV0 := Lib.hid hev0
    clear hev0 HC
    go_wp2_with fail
    generalize hv0 : Value.slice none 0 0 = v00
    have HV0 := Lib.hid hv0
    clear hv0
    go_loopg [6, 7] l.length (fun gh v i wr => ∃ j : Nat, gh + j = l.length ∧ i = .int .i64 j ∧ wr.ownsRow w.heap.size 28 2 v (joinR (l.take j)).length (flatS (joinR (l.take j)).reverse) ∧ Ev w wr)
    case atStart => exact ⟨0, rfl, rfl, by rw [← HV0.out]; exact ⟨rfl, .inl ⟨rfl, rfl⟩⟩, HEV0.out⟩
    case round =>
      obtain ⟨j, hg, rfl, hown, hev⟩ := hrel
      obtain ⟨wo, rfl⟩ : ∃ wo, wo = wr := ⟨_, rfl⟩
      have HG := Lib.hid hg
      have HEV := Lib.hid hev
      obtain ⟨S0, cS0, rfl⟩ := own_form hown
      have HOWN := Lib.hid hown
      clear hg hown
      by_cases hlt : j < l.length
      · obtain ⟨b, o, rfl, hb, c1, c2⟩ := (HR.out.ev hev).2 j hlt
        have hlt' : (j : Int) < (l.length : Int) := by omega
        have hj0 : 0 ≤ (j : Int) := by omega
        have HLT := Lib.hid hlt
        have HT : Hid (joinR (l.take (j + 1)) = pushR (joinR (l.take j)) (l.getD j (0, 0))) := Lib.hid (by
          have e : l.take (j + 1) = l.take j ++ [l.getD j (0, 0)] := by rw [List.take_succ_eq_append_getElem hlt]; simp [List.getD, hlt]
          rw [e, joinR_snoc])
        have HD := Lib.hid (HAT.out j (by omega)).1
        have HDL := Lib.hid (HAT.out j (by omega)).2.1
        have HB0 := Lib.hid ((HAT.out j (by omega)).2.2 j (Nat.le_refl _) hlt)
        obtain ⟨g1, hg1⟩ : ∃ g1, g1 + 1 = gk := ⟨gk - 1, by have := HG.out; omega⟩
        have HG1 := Lib.hid hg1
        generalize l.getD j (0, 0) = b0 at *
        obtain ⟨x0, o0⟩ := b0
        simp only [] at c1 c2 HB0
        clear hlt hev hb hg1
        generalize joinR (l.take j) = r0 at *
        go_wp2_with fail
        have HX := Lib.hid (Bw2.new wo x0 o0 28)
        have HE1 := Lib.hid (Ev.new2 wo x0 o0 28)
        have HZ1 : Hid (wo.heap.size < (wo.alloc (.cells #[.int .i64 x0, .int .i64 o0] 28)).heap.size) := Lib.hid (by simp)
        generalize wo.alloc (.cells #[.int .i64 x0, .int .i64 o0] 28) = W1 at *
        clear c1 c2
        go_loopg [6, 9] r0.length (fun gh v n9 wr => ∃ (r : List (Int × Int)) (x o : Int), gh = r.length ∧ n9 = .int .i64 r.length ∧ wo.ownsRow w.heap.size 28 2 v r.length (flatS r.reverse) ∧ Bw2 wr wo.heap.size x o ∧ wo.heap.size < wr.heap.size ∧ pushR r (x, o) = pushR r0 (x0, o0) ∧ Desc r ∧ okB (x, o) ∧ Bef r x ∧ r.length ≤ 1000 ∧ Ev wo wr)
        case atStart => exact ⟨r0, x0, o0, rfl, rfl, HOWN.out, HX.out, HZ1.out, rfl, HD.out, HB0.out.1, HB0.out.2, by have := HDL.out; have := HLT.out; have := HL.out; omega, HE1.out⟩
        case round =>
          obtain ⟨r, x, o, hgh, rfl, hown, hbx, hxz, hpush, hdesc, hokb, hbef, hrl, hev⟩ := hrel
          have HGH := Lib.hid hgh
          have HP := Lib.hid hpush
          have HBX := Lib.hid hbx
          have HXZ := Lib.hid hxz
          have HEI := Lib.hid hev
          have HDS := Lib.hid hdesc
          have HOK := Lib.hid hokb
          have HBF := Lib.hid hbef
          clear hgh hpush hdesc hokb hbef hxz
          obtain ⟨A1, cap1, rfl⟩ := own_form hown
          have HOW1 := Lib.hid hown
          cases r with
          | nil =>
            have HRL : Hid ((0 : Nat) ≤ 1000) := Lib.hid (by omega)
            have HF0 : joinR (l.take (j + 1)) = [(x, o)] := by rw [HT.out, ← HP.out]; rfl
            have HF : Hid ((joinR (l.take (j + 1))).length = 0 + 1 ∧ (joinR (l.take (j + 1))).reverse = [] ++ [(x, o)]) := Lib.hid (by rw [HF0]; exact ⟨rfl, rfl⟩)
            clear HF0
            have HOW1' : Hid (wo.ownsRow w.heap.size 28 2 (.slice A1 0 cap1) 0 []) := HOW1
            clear hown hrl hbx hev HOW1
            go_upto_region 10 with fail
            rw [show (([] : List (Int × Int)).length) = 0 from rfl]
            go_quiet (fail)
            have HEQ := Lib.hid (HEI.out.drewN nq)
            obtain ⟨⟨y0, y1⟩, -, -⟩ := HBX.out.ev HXZ.out ((Ev.refl wr).drewN nq)
            go_upto_region 14 with fail
            generalize Value.slice A1 0 cap1 = vv at *
            have HO := Lib.hid (own_below HOW1'.out HEQ.out)
            have HE := Lib.hid (HEV.out.step HEQ.out)
            have HO2 : Hid (((wr.drewN nq).alloc (.cells #[.int .i64 x, .int .i64 o] 28)).ownsRow w.heap.size 28 2 vv 0 ([])) := Lib.hid (HO.out.alloc _)
            have H1 := Lib.hid (bk_cells (wr.drewN nq) x o)
            have H2 : Hid (∀ u ∈ [Value.int .i64 x, .int .i64 o], u.oneCell' = true) := Lib.hid (by simp [Value.oneCell'])
            have H3 := Lib.hid (show 0 + 1 ≤ maxLen from by have := HRL.out; unfold maxLen; omega)
            have H4 := Lib.hid (show (0 + 1) * 16 ≤ 140737488355328 from by have := HRL.out; omega)
            have H5 : Hid (w.heap.size ≤ ((wr.drewN nq).alloc (.cells #[.int .i64 x, .int .i64 o] 28)).heap.size) := Lib.hid (Nat.le_trans HE.out.sz (Ev.sz (al1 _ _)))
            have HB : Hid (Ev w ((wr.drewN nq).alloc (.cells #[.int .i64 x, .int .i64 o] 28))) := Lib.hid (HE.out.alloc _)
            go_wp2_with (at_builtin; go_loud (refine wpList_append_own _ rfl (.tmp 63) (.tmp 65) 33 rfl w.heap.size 28 i0 (bk 0 0) 2 16 Tryd.underlying33 hi0 hz0 hz1 hz2 rfl (by decide) vv 0 ([]) rfl (HO2.out) ⟨(wr.drewN nq).heap.size, 0, none⟩ 1 1 [.int .i64 x, .int .i64 o] rfl rfl (H1.out) (H2.out) H3.out H4.out (H5.out) ?_); intro v1 w4 hown4 hg4 _; have HW := Lib.hid (HB.out.grown hg4 (H5.out) (fun g hg => (HO.out.lt g hg).1)); have HOW := Lib.hid hown4; clear hg4 hown4)
            go_roundg g1
            case rel => exact ⟨j + 1, by have := HG.out; have := HG1.out; omega, by go_num, by rw [HF.out.1, HF.out.2]; simpa [flatS_app, flatS] using HOW.out, HW.out⟩
            case measure => have := HG1.out; omega
          | cons t r' =>
            obtain ⟨ta, tb⟩ := t
            have hl1 : ((ta, tb) :: r').length = r'.reverse.length + 1 := by simp
            have hown' : wo.ownsRow w.heap.size 28 2 (.slice A1 (r'.reverse.length + 1) cap1) (r'.reverse.length + 1) (flatS (r'.reverse ++ [(ta, tb)])) := by
              rw [List.reverse_cons] at hown
              rwa [hl1] at hown
            rw [hl1] at hown hrl
            rw [show ((ta, tb) :: r').length = r'.reverse.length + 1 from hl1]
            clear hl1
            obtain ⟨g, capx, hgv⟩ := ownsRow_succ hown'
            injection hgv with hA1 _ hcx
            subst hA1 hcx
            obtain ⟨⟨hgb, hgl, hcap⟩, t0, t1⟩ := topS hown'
            have HOW1' := Lib.hid hown'
            have hn1 : 0 ≤ (r'.reverse.length : Int) := by omega
            have hn2 : (r'.reverse.length : Int) ≤ 1000 := by omega
            have hn3 : (r'.reverse.length : Int) + 1 ≤ 1001 := by omega
            have hn4 : (0 : Int) < (r'.reverse.length : Int) + 1 := by omega
            have t0i : wr.cell? ⟨g, r'.reverse.length * 2, none⟩ = some (.int .i64 ta) := by rw [hev.cell (p := ⟨g, r'.reverse.length * 2, none⟩) hgl]; exact t0
            have t1i : wr.cell? ⟨g, r'.reverse.length * 2 + 1, none⟩ = some (.int .i64 tb) := by rw [hev.cell (p := ⟨g, r'.reverse.length * 2 + 1, none⟩) hgl]; exact t1
            have HLR : Hid (r'.length = r'.reverse.length) := Lib.hid (by simp)
            have HRL := Lib.hid hrl
            have HGL : Hid (g < wo.heap.size) := Lib.hid hgl
            clear hown hown' t0 t1 hgb hrl HOW1 hgl
            generalize hq : r'.reverse = q at *
            have HQ := Lib.hid hq
            clear hq
            have HR' : Hid (∀ v, wo.ownsRow w.heap.size 28 2 v q.length (flatS q) → wo.ownsRow w.heap.size 28 2 v r'.length (flatS r'.reverse)) := Lib.hid (fun v h => by
              have e : r'.length = q.length := by have := congrArg List.length HQ.out; simpa using this
              rw [HQ.out, e]; exact h)
            have HZ := Lib.hid hev
            have hw0 : IntKind.i64.wrap (q.length : Int) = (q.length : Int) := IntWalk.i64_in _ (by omega)
            have hw2 : IntKind.i64.wrap ((q.length : Int) + 1 - 1) = (q.length : Int) := by rw [show (q.length : Int) + 1 - 1 = q.length by omega]; exact hw0
            have hlt1 : (q.length : Int) < (q.length : Int) + 1 := by omega
            have hltN : q.length < q.length + 1 := by omega
            have HS : Hid (∀ X, Ev wr X → ((X.cell? ⟨wo.heap.size, 0, none⟩ = some (.int .i64 x) ∧ X.cell? ⟨wo.heap.size, 1, none⟩ = some (.int .i64 o)) ∧ (X.cell? ⟨g, q.length * 2, none⟩ = some (.int .i64 ta) ∧ X.cell? ⟨g, q.length * 2 + 1, none⟩ = some (.int .i64 tb))) ∧ Ev wr X) := Lib.hid fun X e => ⟨⟨(HBX.out.ev HXZ.out e).1, by rw [e.cell (p := ⟨g, q.length * 2, none⟩) (Nat.lt_of_lt_of_le HGL.out HZ.out.sz)]; exact t0i, by rw [e.cell (p := ⟨g, q.length * 2 + 1, none⟩) (Nat.lt_of_lt_of_le HGL.out HZ.out.sz)]; exact t1i⟩, e⟩
            clear t0i t1i hbx hev
            obtain ⟨p1, p2, -, -, -⟩ := blkE_ok (show blkE x o = 0 from HOK.out)
            by_cases h6 : o = 6
            · have HF0 : joinR (l.take (j + 1)) = (x, o) :: (ta, tb) :: r' := by rw [HT.out, ← HP.out]; unfold pushR; rw [if_pos (.inl h6)]
              have HF : Hid ((joinR (l.take (j + 1))).length = q.length + 1 + 1 ∧ (joinR (l.take (j + 1))).reverse = q ++ [(ta, tb)] ++ [(x, o)]) := Lib.hid (by
                rw [HF0]
                have := congrArg List.length HQ.out
                simp at this
                simp [HQ.out, this])
              have h6' : decide (o < 6) = false := decide_eq_false (by omega)
              clear HF0 h6
              obtain ⟨⟨⟨y0, y1⟩, -⟩, -⟩ := HS.out _ (Ev.refl _)
              go_upto_region 10 with fail
              clear p1 p2
              go_quiet (fail)
              have HEQ := Lib.hid (HEI.out.drewN nq)
              go_upto_region 14 with fail
              generalize Value.slice (some ⟨g, 0, none⟩) (q.length + 1) cap1 = vv at *
              have HO := Lib.hid (own_below HOW1'.out HEQ.out)
              have HE := Lib.hid (HEV.out.step HEQ.out)
              have HO2 : Hid (((wr.drewN nq).alloc (.cells #[.int .i64 x, .int .i64 o] 28)).ownsRow w.heap.size 28 2 vv (q.length + 1) (flatS (q ++ [(ta, tb)]))) := Lib.hid (HO.out.alloc _)
              have H1 := Lib.hid (bk_cells (wr.drewN nq) x o)
              have H2 : Hid (∀ u ∈ [Value.int .i64 x, .int .i64 o], u.oneCell' = true) := Lib.hid (by simp [Value.oneCell'])
              have H3 := Lib.hid (show (q.length + 1) + 1 ≤ maxLen from by have := HRL.out; unfold maxLen; omega)
              have H4 := Lib.hid (show ((q.length + 1) + 1) * 16 ≤ 140737488355328 from by have := HRL.out; omega)
              have H5 : Hid (w.heap.size ≤ ((wr.drewN nq).alloc (.cells #[.int .i64 x, .int .i64 o] 28)).heap.size) := Lib.hid (Nat.le_trans HE.out.sz (Ev.sz (al1 _ _)))
              have HB : Hid (Ev w ((wr.drewN nq).alloc (.cells #[.int .i64 x, .int .i64 o] 28))) := Lib.hid (HE.out.alloc _)
              go_wp2_with (at_builtin; go_loud (refine wpList_append_own _ rfl (.tmp 63) (.tmp 65) 33 rfl w.heap.size 28 i0 (bk 0 0) 2 16 Tryd.underlying33 hi0 hz0 hz1 hz2 rfl (by decide) vv (q.length + 1) (flatS (q ++ [(ta, tb)])) rfl (HO2.out) ⟨(wr.drewN nq).heap.size, 0, none⟩ 1 1 [.int .i64 x, .int .i64 o] rfl rfl (H1.out) (H2.out) H3.out H4.out (H5.out) ?_); intro v1 w4 hown4 hg4 _; have HW := Lib.hid (HB.out.grown hg4 (H5.out) (fun g hg => (HO.out.lt g hg).1)); have HOW := Lib.hid hown4; clear hg4 hown4)
              go_roundg g1
              case rel => exact ⟨j + 1, by have := HG.out; have := HG1.out; omega, by go_num, by rw [HF.out.1, HF.out.2]; simpa [flatS_app, flatS] using HOW.out, HW.out⟩
              case measure => have := HG1.out; omega
            · have h6' : decide (o < 6) = true := decide_eq_true (by omega)
              have H43 := Lib.hid fun X (e : Ev wr X) => evN e (rbuddy1_any x o X HOK.out)
              have HN6 := Lib.hid h6
              have p3 : o < 6 := by omega
              clear h6
              by_cases hj : (ta, tb) = (bud x o, o)
              · have hfe : ∀ W, Sem.run Tryd.prog (Op.equalIn 10000 28 (bk ta tb) (bk (bud x o) o)) W = .ok true W := fun W => by rw [eq28]; injection hj with h1 h2; rw [h1, h2]; simp
                have HJ := Lib.hid (par_ok HOK.out HN6.out (ta, tb) hj (HBF.out (ta, tb) (by simp)))
                have HPU : Hid (pushR r' (ta, o + 1) = pushR r0 (x0, o0)) := Lib.hid (by
                  have e : par x o = ta := HJ.out.1
                  rw [← HP.out]
                  conv => rhs; unfold pushR
                  rw [if_neg (by rintro (h | h); exact HN6.out h; exact h hj)]
                  simp only [e])
                clear hj
                go_upto_region 10 with fail
                have hev := Ev.refl wr
                have dd := HS.out _ hev
                go_region_held3 (fun w' => ((w'.cell? ⟨wo.heap.size, 0, none⟩ = some (.int .i64 x) ∧ w'.cell? ⟨wo.heap.size, 1, none⟩ = some (.int .i64 o)) ∧ (w'.cell? ⟨g, q.length * 2, none⟩ = some (.int .i64 ta) ∧ w'.cell? ⟨g, q.length * 2 + 1, none⟩ = some (.int .i64 tb))) ∧ Ev wr w')
                  (first | with_reducible exact HS.out _ (by with_reducible assumption) | with_reducible exact HS.out _ (Ev.drew (by with_reducible assumption)) | with_reducible exact HS.out _ (Ev.alloc (by with_reducible assumption) _) | with_reducible exact HS.out _ (Ev.alloc (Ev.drew (by with_reducible assumption)) _))
                  (first | (go_at_call 43; refine (H43.out _ (by first | assumption | exact Ev.drew (by with_reducible assumption))).mono ?_; clear hev; rintro e w' ⟨rfl, hev⟩))
                obtain ⟨⟨⟨y0, y1⟩, k0, k1⟩, -⟩ := HS.out _ hev
                obtain ⟨-, f0, f1⟩ := HBX.out.ev HXZ.out hev
                have HEW' := Lib.hid hev
                have HX' := Lib.hid (HBX.out.ev HXZ.out hev)
                have HZ' : Hid (wo.heap.size < w'.heap.size) := Lib.hid (Nat.lt_of_lt_of_le HXZ.out hev.sz)
                clear hev dd
                have hw1 : IntKind.i64.wrap (o + 1) = o + 1 := IntWalk.i64_in _ (by omega)
                go_upto_region 12 with fail
                go_region
                have HX6 := Lib.hid ((HX'.out.set ta (o + 1)).ev (by simpa using HZ'.out) (Ev.drew (Ev.refl _)))
                have HE6 : Hid (Ev wo (((w'.setCell ⟨wo.heap.size, 0, none⟩ (.int .i64 ta)).setCell ⟨wo.heap.size, 1, none⟩ (.int .i64 (o + 1))).drew)) := Lib.hid (Ev.drew (((HZ.out.step HEW'.out).setC (p := ⟨wo.heap.size, 0, none⟩) (Nat.le_refl _) _).setC (p := ⟨wo.heap.size, 1, none⟩) (Nat.le_refl _) _))
                have HZ6 : Hid (wo.heap.size < (((w'.setCell ⟨wo.heap.size, 0, none⟩ (.int .i64 ta)).setCell ⟨wo.heap.size, 1, none⟩ (.int .i64 (o + 1))).drew).heap.size) := Lib.hid (by have := HZ'.out; simp; omega)
                clear y0 y1 k0 k1 f0 f1
                go_wp2_with fail
                go_roundg r'.length
                case rel => exact ⟨r', ta, o + 1, rfl, by rw [HLR.out], HR'.out _ (popS HOW1'.out), HX6.out, HZ6.out, HPU.out, HDS.out.tail, by have h := HJ.out.2.1; rwa [show par x o = ta from HJ.out.1] at h, HDS.out.head.2, by have h1 := HRL.out; have h2 := HLR.out; omega, HE6.out⟩
                case measure => rw [HGH.out]; simp
              · have hfe : ∀ W, Sem.run Tryd.prog (Op.equalIn 10000 28 (bk ta tb) (bk (bud x o) o)) W = .ok false W := fun W => by
                  rw [eq28]
                  have : ((ta == bud x o) && (tb == o)) = false := by
                    cases hc : ((ta == bud x o) && (tb == o)) with
                    | false => rfl
                    | true => exfalso; simp at hc; exact hj (by rw [hc.1, hc.2])
                  rw [this]
                have HF0 : joinR (l.take (j + 1)) = (x, o) :: (ta, tb) :: r' := by rw [HT.out, ← HP.out]; unfold pushR; rw [if_pos (.inr hj)]
                have HF : Hid ((joinR (l.take (j + 1))).length = q.length + 1 + 1 ∧ (joinR (l.take (j + 1))).reverse = q ++ [(ta, tb)] ++ [(x, o)]) := Lib.hid (by
                  rw [HF0]
                  have := congrArg List.length HQ.out
                  simp at this
                  simp [HQ.out, this])
                clear HF0 hj
                go_upto_region 10 with fail
                have hev := Ev.refl wr
                have dd := HS.out _ hev
                go_region_held3 (fun w' => ((w'.cell? ⟨wo.heap.size, 0, none⟩ = some (.int .i64 x) ∧ w'.cell? ⟨wo.heap.size, 1, none⟩ = some (.int .i64 o)) ∧ (w'.cell? ⟨g, q.length * 2, none⟩ = some (.int .i64 ta) ∧ w'.cell? ⟨g, q.length * 2 + 1, none⟩ = some (.int .i64 tb))) ∧ Ev wr w')
                  (first | with_reducible exact HS.out _ (by with_reducible assumption) | with_reducible exact HS.out _ (Ev.drew (by with_reducible assumption)) | with_reducible exact HS.out _ (Ev.alloc (by with_reducible assumption) _) | with_reducible exact HS.out _ (Ev.alloc (Ev.drew (by with_reducible assumption)) _))
                  (first | (go_at_call 43; refine (H43.out _ (by first | assumption | exact Ev.drew (by with_reducible assumption))).mono ?_; clear hev; rintro e w' ⟨rfl, hev⟩))
                have HEW' : Hid (Ev wo w') := Lib.hid (HZ.out.step hev)
                obtain ⟨⟨⟨y0, y1⟩, -⟩, -⟩ := HS.out _ hev
                clear hev dd
                go_upto_region 14 with fail
                generalize Value.slice (some ⟨g, 0, none⟩) (q.length + 1) cap1 = vv at *
                have HO := Lib.hid (own_below HOW1'.out HEW'.out)
                have HE := Lib.hid (HEV.out.step HEW'.out)
                have HO2 : Hid ((w'.alloc (.cells #[.int .i64 x, .int .i64 o] 28)).ownsRow w.heap.size 28 2 vv (q.length + 1) (flatS (q ++ [(ta, tb)]))) := Lib.hid (HO.out.alloc _)
                have H1 := Lib.hid (bk_cells w' x o)
                have H2 : Hid (∀ u ∈ [Value.int .i64 x, .int .i64 o], u.oneCell' = true) := Lib.hid (by simp [Value.oneCell'])
                have H3 := Lib.hid (show (q.length + 1) + 1 ≤ maxLen from by have := HRL.out; unfold maxLen; omega)
                have H4 := Lib.hid (show ((q.length + 1) + 1) * 16 ≤ 140737488355328 from by have := HRL.out; omega)
                have H5 : Hid (w.heap.size ≤ (w'.alloc (.cells #[.int .i64 x, .int .i64 o] 28)).heap.size) := Lib.hid (Nat.le_trans HE.out.sz (Ev.sz (al1 _ _)))
                have HB : Hid (Ev w (w'.alloc (.cells #[.int .i64 x, .int .i64 o] 28))) := Lib.hid (HE.out.alloc _)
                go_wp2_with (at_builtin; go_loud (refine wpList_append_own _ rfl (.tmp 63) (.tmp 65) 33 rfl w.heap.size 28 i0 (bk 0 0) 2 16 Tryd.underlying33 hi0 hz0 hz1 hz2 rfl (by decide) vv (q.length + 1) (flatS (q ++ [(ta, tb)])) rfl (HO2.out) ⟨w'.heap.size, 0, none⟩ 1 1 [.int .i64 x, .int .i64 o] rfl rfl (H1.out) (H2.out) H3.out H4.out (H5.out) ?_); intro v1 w4 hown4 hg4 _; have HW := Lib.hid (HB.out.grown hg4 (H5.out) (fun g hg => (HO.out.lt g hg).1)); have HOW := Lib.hid hown4; clear hg4 hown4)
                go_roundg g1
                case rel => exact ⟨j + 1, by have := HG.out; have := HG1.out; omega, by go_num, by rw [HF.out.1, HF.out.2]; simpa [flatS_app, flatS] using HOW.out, HW.out⟩
                case measure => have := HG1.out; omega
      · obtain rfl : j = l.length := by have := HG.out; omega
        have hz : (joinR (l.take l.length)).length = (joinL l).length := by rw [List.take_length]; unfold joinL; simp
        have hz2 : (joinR (l.take l.length)).reverse = joinL l := by rw [List.take_length]; rfl
        have HLE := Lib.hid (HAT.out l.length (Nat.le_refl _)).2.1
        rw [hz] at HLE
        rw [hz, hz2] at HOWN
        rw [hz]
        obtain ⟨A2, c2, h1, h2, h3⟩ := RdP.of_own2 HOWN.out (by have := HLE.out; have := HL.out; omega)
        injection h1 with h4 _ h5
        subst h4 h5
        have H2 := Lib.hid h2
        have H3 := Lib.hid h3
        clear h2 h3 hz hz2 hlt
        go_wp2_with fail
        go_ret2
        rw [HJN.out]
        exact ⟨_, _, rfl, H2.out, H3.out, HEV.out⟩
  · have hq : ((chkL 0 0 l).1 != 0) = true := by simpa using hck
    have HJN : Hid (jnL l = []) := Lib.hid (by unfold jnL; rw [if_neg hck])
    generalize (chkL 0 0 l).1 = er at *
    clear hr hl hck
    go_enter Tryd.func30, Tryd.ntmps30
    go_wp2_with fail
    refine HC.out.mono ?_
    rintro e w0 ⟨rfl, hev0⟩
    have HEV0 := Lib.hid hev0
    clear hev0 HC
    go_wp2_with fail
    go_ret2
    rw [HJN.out]
    exact ⟨none, 0, rfl, RdP.nil _ _, fun _ => ⟨rfl, rfl⟩, HEV0.out⟩
end Go.Proofs.YtkneonfhikcdkaaDoor
