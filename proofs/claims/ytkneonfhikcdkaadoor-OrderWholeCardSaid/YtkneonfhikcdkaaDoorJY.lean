import Derived.Test.YtkneonfhikcdkaaDoorJX
import Derived.Deep.AppendLies
namespace Go.Proofs.YtkneonfhikcdkaaDoor
open Go.RowKit Go.Deep
theorem cut_rd (f t : Int) (w : World) (h0 : 0 ≤ f) (h1 : f ≤ t) (h2 : t ≤ 256) (hT : Tab w) (hz : 2 ≤ w.heap.size) :
    Calls Tryd.prog 24 #[.int .i64 f, .int .i64 t] w fun e w' => ∃ A c, e = .returned (.tuple #[.slice A (cutP 256 f t).length c, .int .i64 0]) ∧ RdP w' A (cutP 256 f t) ∧ Ev w w' :=
  (cut_any f t w hT hz).mono fun e w' ⟨v, q1, q2, q3⟩ => by
    have e0 : cutE f t = 0 := by unfold cutE; rw [if_neg (by omega)]
    rw [e0] at q1 q2
    rw [if_pos rfl, cutC_flat] at q2
    obtain ⟨n, q2⟩ := q2
    have hn : n = (cutP 256 f t).length := by have := q2.1; rw [flatS_len] at this; omega
    subst hn
    have := cutP_most 256 f t h0 h1 h2
    obtain ⟨A, c, rfl, q4, -⟩ := RdP.of_own2 q2 (by omega)
    exact ⟨A, c, q1, q4, q3⟩
/-- the frames of what is cut -/
def fcL (f t : Int) : List Int := (upto (frN f) (t - f).toNat).map (fun x => (x.1 : Int))
theorem fcL_len (f t : Int) (h : f ≤ t) : ((fcL f t).length : Int) = t - f := by unfold fcL; rw [List.length_map, upto_length]; omega
theorem fcL_at (f t : Int) (h0 : 0 ≤ f) (h1 : f ≤ t) (h2 : t ≤ 256) (i : Nat) (hi : i < (fcL f t).length) : (fcL f t).getD i 0 = f + i := by
  have hl := fcL_len f t h1
  unfold fcL at *
  rw [List.getD_eq_getElem?_getD, List.getElem?_eq_getElem hi]
  simp only [List.getElem_map, Option.getD_some]
  have e : (upto (frN f) (t - f).toNat)[i]'(by simpa using hi) = frN f i := by simp [upto]
  rw [e]
  exact frN_val h0 (by omega)
theorem frames_cut (f t : Int) (A : Option Addr) (c : Nat) (w : World) (h0 : 0 ≤ f) (h1 : f ≤ t) (h2 : t ≤ 256) (hr : RdP w A (cutP 256 f t)) :
    Calls Tryd.prog 31 #[.slice A (cutP 256 f t).length c] w fun e w' => FrQ w (fcL f t) 0 e w' := by
  have h := Frames_any A c (cutP 256 f t) w hr
  have hk : chkL 0 0 (cutP 256 f t) = (0, 0) := chk_of_ok _ _ _ (okL_mono _ _ _ h0 (cutP_ok 256 f t h0 h1 h2))
  unfold fiL at h
  rw [hk, if_pos rfl, cutP_fr 256 f t h0 h1 h2 (by omega)] at h
  exact h
theorem join_of (Q P : List (Int × Int)) (A : Option Addr) (c : Nat) (w : World) (hr : RdP w A Q) (hl : Q.length ≤ 1000) (hk : chkL 0 0 Q = (0, 0)) (hj : joinL Q = P) :
    Calls Tryd.prog 29 #[.slice A Q.length c] w fun e w' => ∃ A' c', e = .returned (.tuple #[.slice A' P.length c', .int .i64 0]) ∧ RdP w' A' P ∧ Ev w w' := by
  have h := join_gen A c Q w hr hl
  unfold JnQ jnL at h
  rw [hk, if_pos rfl, hj] at h
  exact h.mono fun e w' ⟨A', c', q1, q2, _, q3⟩ => ⟨A', c', q1, q2, q3⟩
theorem shl_at (bx hh : Int) (h0 : 0 ≤ hh) (h1 : hh ≤ 5) (hb : 0 ≤ bx) (hc : bx ≤ 256) :
    IntKind.i64.wrap (bx + IntKind.i64.wrap (2 ^ min (IntKind.u64.wrap hh).toNat 64)) = bx + sz hh := by
  have hhs : hh = 0 ∨ hh = 1 ∨ hh = 2 ∨ hh = 3 ∨ hh = 4 ∨ hh = 5 := by omega
  rcases hhs with rfl | rfl | rfl | rfl | rfl | rfl
  · exact IntWalk.i64_in (bx + 1) (by omega)
  · exact IntWalk.i64_in (bx + 2) (by omega)
  · exact IntWalk.i64_in (bx + 4) (by omega)
  · exact IntWalk.i64_in (bx + 8) (by omega)
  · exact IntWalk.i64_in (bx + 16) (by omega)
  · exact IntWalk.i64_in (bx + 32) (by omega)
set_option maxRecDepth 100000 in
set_option maxHeartbeats 32000000 in
theorem whole_law (x y : Int) (A : Option Addr) (cap : Nat) (nums : List Int) (w : World) (hr : RdI w A nums) (hT : Tab w) (h2 : 2 ≤ w.heap.size) :
    Calls Tryd.prog 10 #[.int .i64 x, .int .i64 y, .slice A nums.length cap] w fun e w' => e = .returned (.bool true) ∧ Ev w w' := by
  have HTT : Hid (∀ W, Ev w W → Tab W ∧ 2 ≤ W.heap.size) := Lib.hid fun W e => ⟨hT.ev h2 e, Nat.le_trans h2 e.sz⟩
  have HR := Lib.hid hr
  have M1 := Lib.hid fun W => mod_any x 257 W (by omega) (by omega)
  have M2 := Lib.hid fun W => mod_any y 257 W (by omega) (by omega)
  have b1 : 0 ≤ x % 257 ∧ x % 257 < 257 := ⟨Int.emod_nonneg _ (by omega), Int.emod_lt_of_pos _ (by omega)⟩
  have b2 : 0 ≤ y % 257 ∧ y % 257 < 257 := ⟨Int.emod_nonneg _ (by omega), Int.emod_lt_of_pos _ (by omega)⟩
  have HB1 := Lib.hid b1
  have HB2 := Lib.hid b2
  clear hr hT h2 b1 b2
  generalize x % 257 = fx at *
  generalize y % 257 = fy at *
  obtain ⟨bb, hbb⟩ : ∃ bb, decide (fy < fx) = bb := ⟨_, rfl⟩
  have HBB := Lib.hid hbb
  go_enter Tryd.func10, Tryd.ntmps10
  go_wp2_with fail
  refine (M1.out _).mono ?_
  rintro e w' ⟨rfl, rfl⟩
  go_wp2_with fail
  refine (M2.out _).mono ?_
  rintro e w' ⟨rfl, rfl⟩
  go_upto_if 26 with fail
  clear hbb
  go_cut [7, 8] from 27 (fun s7 s8 wd => ∃ f t : Int, s7 = .int .i64 f ∧ s8 = .int .i64 t ∧ (0 ≤ f ∧ f ≤ t ∧ t ≤ 256) ∧ wd = w)
  case first =>
    cases bb with
    | true =>
      go_wp2_with fail
      go_meet
      case rel => exact ⟨fy, fx, rfl, rfl, by have h1 := of_decide_eq_true HBB.out; have h2 := HB1.out; have h3 := HB2.out; omega, rfl⟩
    | false =>
      go_wp2_with fail
      go_meet
      case rel => exact ⟨fx, fy, rfl, rfl, by have h1 := of_decide_eq_false HBB.out; have h2 := HB1.out; have h3 := HB2.out; omega, rfl⟩
  case rest =>
  obtain ⟨f, t, rfl, rfl, hft, rfl⟩ := hcut
  obtain ⟨wo, rfl⟩ : ∃ wo, wo = wc := ⟨_, rfl⟩
  have HFT := Lib.hid hft
  clear hft HB1 HB2 HBB M1 M2
  have C24 := Lib.hid (cut_rd f t wo HFT.out.1 HFT.out.2.1 HFT.out.2.2 (HTT.out _ (Ev.refl _)).1 (HTT.out _ (Ev.refl _)).2)
  have C31 := Lib.hid fun A c W h => frames_cut f t A c W HFT.out.1 HFT.out.2.1 HFT.out.2.2 h
  unfold FrQ at C31
  have HPO := Lib.hid (okL_mono _ _ _ HFT.out.1 (cutP_ok 256 f t HFT.out.1 HFT.out.2.1 HFT.out.2.2))
  have HPL := Lib.hid (cutP_most 256 f t HFT.out.1 HFT.out.2.1 HFT.out.2.2)
  have HPJ := Lib.hid (joinL_cut 256 f t HFT.out.1 HFT.out.2.1 HFT.out.2.2)
  have HFL := Lib.hid (fcL_len f t HFT.out.2.1)
  have HFA := Lib.hid (fcL_at f t HFT.out.1 HFT.out.2.1 HFT.out.2.2)
  generalize cutP 256 f t = P at *
  generalize fcL f t = F at *
  have hF1 : 0 ≤ (F.length : Int) := by omega
  have hF2 : (F.length : Int) ≤ 256 := by have h1 := HFL.out; have h2 := HFT.out; omega
  have hP1 : 0 ≤ (P.length : Int) := by omega
  have hP2 : (P.length : Int) ≤ 16 := by have h1 := HPL.out; have h2 := HFT.out; omega
  have hf0 : 0 ≤ f := HFT.out.1
  have ht0 : t ≤ 256 := HFT.out.2.2
  have hft : f ≤ t := HFT.out.2.1
  go_wp2_with fail
  refine C24.out.mono ?_
  rintro e w1 ⟨A1, c1, rfl, hr1, hev⟩
  have HE1 := Lib.hid hev
  have HR1 := Lib.hid hr1
  clear hev hr1
  go_wp2_with fail
  refine (C31.out _ _ _ HR1.out).mono ?_
  rintro e w2 ⟨A2, c2, rfl, hr2, hev⟩
  have HE2 := Lib.hid (HE1.out.step hev)
  have HR12 := Lib.hid (HR1.out.ev hev)
  have HR2 := Lib.hid hr2
  clear hev hr2
  have hA : ((F.length : Int) != t - f) = false := by rw [HFL.out]; simp
  have hB : decide (12 + (t - f) / 64 < (P.length : Int)) = false := decide_eq_false (by have := HPL.out; omega)
  have hd0 : 0 ≤ t - f := by omega
  go_upto_region 8 with fail
  clear hA hB hd0
  go_wp2_with fail
  go_loop [13] (fun i => ∃ k : Nat, k ≤ F.length ∧ i = .int .i64 k) (fun i => F.length - (intOf i).toNat)
  case atStart => exact ⟨0, by omega, rfl⟩
  case round =>
    obtain ⟨k, hk, rfl⟩ := hrel
    by_cases hlt : k < F.length
    · obtain ⟨b, ob, rfl, hb, q1⟩ := HR2.out.2 k hlt
      have hz : (F.getD k 0 != f + (k : Int)) = false := by rw [HFA.out k hlt]; simp
      have HLT := Lib.hid hlt
      have hlt' : (k : Int) < (F.length : Int) := by omega
      have hk0 : 0 ≤ (k : Int) := by omega
      generalize F.getD k 0 = z at *
      clear hb hlt
      go_wp2_with fail
      go_round
      case rel => exact ⟨k + 1, by have := HLT.out; omega, by go_num⟩
      case measure => have := HLT.out; simp [intOf]; omega
    · obtain rfl : k = F.length := by omega
      clear hlt hk
      go_wp2_with fail
      go_loopg [14, 15] P.length (fun gh v i wr => ∃ (j : Nat) (Q : List (Int × Int)), gh + j = P.length ∧ i = .int .i64 j ∧ wr.ownsRow w2.heap.size 28 2 v Q.length (flatS Q) ∧ PartsOf P j Q ∧ Ev w2 wr)
      case atStart => exact ⟨0, [], rfl, rfl, World.ownsRow_nil _ _ _ _, PartsOf.nil P, Ev.refl _⟩
      case round =>
        obtain ⟨j, Q, hg, rfl, hown, hpart, hev⟩ := hrel
        have HG := Lib.hid hg
        have HEV := Lib.hid hev
        have HOWN := Lib.hid hown
        have HPA := Lib.hid hpart
        have hQ : (Q.length : Int) ≤ 32 := by have h1 := hpart.2.2.2; omega
        clear hg hown hpart
        by_cases hlt : j < P.length
        · obtain ⟨b, ob, rfl, hb, q1, q2⟩ := (HR12.out.ev hev).2 j hlt
          have HST := Lib.hid fun c => HPA.out.step HPO.out hlt c
          have hlt' : (j : Int) < (P.length : Int) := by omega
          have hj0 : 0 ≤ (j : Int) := by omega
          have C37 := Lib.hid (At_any A cap nums j wr (HR.out.ev (HE2.out.step hev)) (by omega))
          have C36 := Lib.hid (mod_any (nums.getD j 0) 3 wr (by omega) (by omega))
          have HBL := Lib.hid hb
          obtain ⟨bx, bo, hxo⟩ : ∃ bx bo, P.getD j (0, 0) = (bx, bo) := ⟨_, _, rfl⟩
          have hokb : okB (P.getD j (0, 0)) := ((join_at P (chk_of_ok P 0 0 HPO.out) j (by omega)).2.2 j (Nat.le_refl _) hlt).1
          rw [hxo] at q1 q2 HST hokb
          obtain ⟨p1, p2, p3, p4, p5⟩ := blkE_ok (show blkE bx bo = 0 from hokb)
          simp only [] at q1 q2
          have HLT := Lib.hid hlt
          clear hlt hev hb hxo hokb p4
          generalize nums.getD j 0 = nj at *
          generalize nj % 3 = k3 at *
          go_wp2_with fail
          refine C37.out.mono ?_
          rintro e w' ⟨rfl, rfl⟩
          go_wp2_with fail
          refine C36.out.mono ?_
          rintro e w' ⟨rfl, rfl⟩
          go_upto_region 18 with fail
          have hw0 : IntKind.i64.wrap (bo - 1) = bo - 1 := IntWalk.i64_in _ (by omega)
          have HS : Hid (∀ X, Ev wr X → (X.cell? ⟨b, ob + j * 2, none⟩ = some (.int .i64 bx) ∧ X.cell? ⟨b, ob + j * 2 + 1, none⟩ = some (.int .i64 bo)) ∧ Ev wr X) := Lib.hid fun X e => ⟨⟨by rw [e.cell (p := ⟨b, ob + j * 2, none⟩) HBL.out]; exact q1, by rw [e.cell (p := ⟨b, ob + j * 2 + 1, none⟩) HBL.out]; exact q2⟩, e⟩
          have hev := Ev.refl wr
          have dd := HS.out _ hev
          clear q1 q2
          go_cut [17] from 78 to 138 (fun s17 wd => ∃ q hh, s17 = .pointer (some ⟨q, 0, none⟩) ∧ hh = bo - 1 ∧ Bw2 wd q bx hh ∧ wr.heap.size ≤ q ∧ q < wd.heap.size ∧ Ev wr wd)
          case first =>
            go_region_held3 (fun w' => (w'.cell? ⟨b, ob + j * 2, none⟩ = some (.int .i64 bx) ∧ w'.cell? ⟨b, ob + j * 2 + 1, none⟩ = some (.int .i64 bo)) ∧ Ev wr w')
              ((refine HS.out _ ?_; repeat (first | (with_reducible assumption) | (with_reducible exact Ev.refl _) | (with_reducible refine Ev.drew ?_) | (with_reducible refine Ev.alloc ?_ _) | (with_reducible refine Ev.setC ?_ (by simp) _))))
              ((go_at_call 35; refine (b_any bx (bo - 1) _).mono ?_; rintro e w' ⟨rfl, hst⟩; (have hev2 : Ev wr w' := Ev.step (by repeat (first | (with_reducible assumption) | (with_reducible exact Ev.refl _) | (with_reducible refine Ev.drew ?_) | (with_reducible refine Ev.alloc ?_ _) | (with_reducible refine Ev.setC ?_ (by simp) _))) hst); clear hev; have hev := hev2; clear hev2; (try (have hbx := (Bw2.new wr 0 0 28).ev (by simp) (Ev.step (Ev.drew (Ev.refl _)) hst); have hbz : wr.heap.size < w'.heap.size := (by have := hst.sz; simp at this; omega); obtain ⟨⟨n0, n1⟩, m0, m1⟩ := hbx))))
            all_goals
              have HEVx := Lib.hid hev
              go_wp2_with fail
              go_meet
              case rel =>
                first
                  | exact ⟨_, _, rfl, rfl, Bw2.new _ _ _ _, HEVx.out.sz, by simp, HEVx.out.alloc _⟩
                  | exact ⟨_, _, rfl, rfl, Bw2.set ⟨⟨n0, n1⟩, m0, m1⟩ _ _, Nat.le_refl _, by simpa using hbz, (HEVx.out.setC (p := ⟨wr.heap.size, 0, none⟩) (Nat.le_refl _) _).setC (p := ⟨wr.heap.size, 1, none⟩) (Nat.le_refl _) _⟩
          case rest =>
          obtain ⟨q, hh, rfl, hhh, hbq, hql, hqz, hev⟩ := hcut
          obtain ⟨w5, rfl⟩ : ∃ w5, w5 = wc := ⟨_, rfl⟩
          obtain ⟨vv, rfl⟩ : ∃ vv, vv = u14 := ⟨_, rfl⟩
          have HHH := Lib.hid hhh
          have HBQ := Lib.hid hbq
          have HQL := Lib.hid hql
          have HQZ := Lib.hid hqz
          have HE5 := Lib.hid hev
          have HOW5 := Lib.hid (own_below HOWN.out hev)
          have HE25 := Lib.hid (HEV.out.step hev)
          obtain ⟨⟨q1, q2⟩, -⟩ := HS.out _ hev
          obtain ⟨i0, hi0, hz0, hz1, hz2⟩ := info_parts info28
          clear dd hhh hbq hql hqz hev hw0
          by_cases hone : k3 = 0 ∨ bo < 1
          · have HPN : Hid (PartsOf P (j + 1) (Q ++ [(bx, bo)])) := Lib.hid (by
              by_cases h1 : 1 ≤ bo
              · have h := HST.out false
                rwa [show part1 false (bx, bo) = [(bx, bo)] from by unfold part1; simp] at h
              · have h := HST.out true
                rwa [show part1 true (bx, bo) = [(bx, bo)] from by unfold part1; rw [if_neg (by intro hc; exact h1 hc.2)]] at h)
            have H1 := Lib.hid (bk_cells w5 bx bo)
            have H2 : Hid (∀ u ∈ [Value.int .i64 bx, .int .i64 bo], u.oneCell' = true) := Lib.hid (by simp [Value.oneCell'])
            have H3 : Hid (Q.length + 1 ≤ maxLen) := Lib.hid (by unfold maxLen; omega)
            have H4 : Hid ((Q.length + 1) * 16 ≤ 140737488355328) := Lib.hid (by omega)
            have H5 : Hid (w2.heap.size ≤ (w5.alloc (.cells #[.int .i64 bx, .int .i64 bo] 28)).heap.size) := Lib.hid (Nat.le_trans HE25.out.sz (Ev.sz (al1 _ _)))
            have hways : (k3 == 0) = true ∨ ((k3 == 0) = false ∧ decide (bo < 1) = true) := by
              by_cases h1 : k3 = 0
              · left; simpa using h1
              · right; exact ⟨by simpa using h1, decide_eq_true (by omega)⟩
            clear hone p1 p2 p3 p5
            rcases hways with hk | ⟨hk, hb1⟩
            all_goals
              go_wp2_with (at_builtin; go_loud (refine wpList_append_own _ rfl _ _ 33 rfl w2.heap.size 28 i0 (bk 0 0) 2 16 Tryd.underlying33 hi0 hz0 hz1 hz2 rfl (by decide) vv Q.length (flatS Q) rfl (HOW5.out.alloc _) ⟨w5.heap.size, 0, none⟩ 1 1 [.int .i64 bx, .int .i64 bo] rfl rfl H1.out H2.out H3.out H4.out H5.out ?_); intro v1 w6 hown6 hg6 _; have hrow := HOW5.out.alloc (.cells #[.int .i64 bx, .int .i64 bo] 28); have HW6 : Hid (Ev w2 w6) := Lib.hid (Below.grown (HE25.out.alloc (.cells #[.int .i64 bx, .int .i64 bo] 28)) hg6 H5.out (fun g hg => (hrow.lt g hg).1)); have HO6 := Lib.hid hown6; clear hrow hg6 hown6)
              go_roundg (gk - 1)
              case rel => exact ⟨j + 1, Q ++ [(bx, bo)], by have := HG.out; have := HLT.out; omega, by go_num, by simpa [flatS_app, flatS] using HO6.out, HPN.out, HW6.out⟩
              case measure => have := HG.out; have := HLT.out; omega
          · have hk : (k3 == 0) = false := by simp; omega
            have hb1 : decide (bo < 1) = false := decide_eq_false (by omega)
            have hb6 : decide (6 < bo) = false := decide_eq_false (by omega)
            have HPN : Hid (PartsOf P (j + 1) (Q ++ [(bx, hh), (bx + sz hh, hh)])) := Lib.hid (by
              have h := HST.out true
              rw [show part1 true (bx, bo) = [(bx, bo - 1), (bx + sz (bo - 1), bo - 1)] from by unfold part1; rw [if_pos ⟨rfl, by omega⟩]] at h
              rw [HHH.out]
              exact h)
            have HX := Lib.hid (show 0 ≤ bx ∧ bx ≤ 256 by have := sz_bd bo; omega)
            have hh0 : 0 ≤ hh := by have := HHH.out; omega
            have hh5 : hh ≤ 5 := by have := HHH.out; omega
            have HSH := Lib.hid (shl_at bx hh hh0 hh5 HX.out.1 HX.out.2)
            clear hone p1 p2 p3 p5
            go_upto_region 21 with fail
            clear q1 q2 hk hb1 hb6
            have H3 : Hid (Q.length + 2 ≤ maxLen) := Lib.hid (by unfold maxLen; omega)
            have H4 : Hid ((Q.length + 2) * 16 ≤ 140737488355328) := Lib.hid (by omega)
            have HSB : Hid (∀ X, Ev w5 X → (X.cell? ⟨q, 0, none⟩ = some (.int .i64 bx) ∧ X.cell? ⟨q, 1, none⟩ = some (.int .i64 hh)) ∧ Ev w2 X) := Lib.hid fun X e => ⟨(HBQ.out.ev HQZ.out e).1, HE25.out.step e⟩
            have HSA : Hid (∀ Y W4, Ev w5 Y → Y.grownBy W4 vv.ownBlock → (W4.cell? ⟨q, 0, none⟩ = some (.int .i64 bx) ∧ W4.cell? ⟨q, 1, none⟩ = some (.int .i64 hh)) ∧ Ev w2 W4) := Lib.hid fun Y W4 e hg => by
              obtain ⟨⟨k0, k1⟩, k2⟩ := HSB.out Y e
              have hq : W4.heap[q]? = Y.heap[q]? := hg.block q (Nat.lt_of_lt_of_le HQZ.out e.sz) (fun h => by have := (HOWN.out.lt q h.symm).2; have := HQL.out; omega)
              exact ⟨⟨(World.cell?_of_block (a := ⟨q, 0, none⟩) hq).trans k0, (World.cell?_of_block (a := ⟨q, 1, none⟩) hq).trans k1⟩, Below.grown k2 hg k2.sz (fun g hgg => (HOWN.out.lt g hgg).1)⟩
            have hev := Ev.refl w5
            have dd := HSB.out _ hev
            go_region_held3 (fun w' => (w'.cell? ⟨q, 0, none⟩ = some (.int .i64 bx) ∧ w'.cell? ⟨q, 1, none⟩ = some (.int .i64 hh)) ∧ Ev w2 w')
              (first | (with_reducible assumption) | (refine HSB.out _ ?_; repeat (first | (with_reducible assumption) | (with_reducible exact Ev.refl _) | (with_reducible refine Ev.drew ?_) | (with_reducible refine Ev.alloc ?_ _))))
              (first | (go_at_call 35; rw [HSH.out]; refine (b_any (bx + sz hh) hh _).mono ?_; rintro e w' ⟨rfl, hst⟩; (have hev2 : Ev w5 w' := Ev.step (by repeat (first | (with_reducible assumption) | (with_reducible exact Ev.refl _) | (with_reducible refine Ev.drew ?_) | (with_reducible refine Ev.alloc ?_ _))) hst); clear hev; have hev := hev2; clear hev2) | ((refine step_append_lies _ (by rfl) _ _ _ (by rfl) w2.heap.size 28 i0 (bk 0 0) 2 16 Tryd.underlying33 hi0 hz0 hz1 hz2 rfl (by omega) vv Q.length (flatS Q) (by rfl) (by first | exact (own_below HOW5.out hev).alloc _ | exact ((own_below HOW5.out hev).alloc _).drew) ⟨w'.heap.size, 0, none⟩ 2 2 [.int .i64 bx, .int .i64 hh, .int .i64 (bx + sz hh), .int .i64 hh] (by rfl) (by rfl) (World.news_of_block (cs := #[.int .i64 bx, .int .i64 hh, .int .i64 (bx + sz hh), .int .i64 hh]) (t := 28) (fr := (0, 0)) (heap_alloc_new _ _)) (by simp [Value.oneCell']) (by omega) H3.out H4.out (Nat.le_trans (HE25.out.step hev).sz (by simp)) (w'.heap.size + 1) (by simp) ?_); intro gg capx w4 hown4 hg4 hat hlt4; have dd2 := HSA.out _ _ (by first | exact hev.alloc _ | exact (hev.alloc _).drew) hg4))
            go_wp2_with fail
            go_roundg (gk - 1)
            case rel => exact ⟨j + 1, Q ++ [(bx, hh), (bx + sz hh, hh)], by have := HG.out; have := HLT.out; omega, by go_num, by simpa [flatS_app, flatS] using hown4, HPN.out, dd2.2⟩
            case measure => have := HG.out; have := HLT.out; omega
        · obtain rfl : j = P.length := by have := HG.out; omega
          obtain ⟨hck, hjl⟩ := HPA.out.all
          have HC29 := Lib.hid fun A c W (h : RdP W A Q) => join_of Q P A c W h (by omega) hck (by rw [hjl]; exact HPJ.out)
          have HC29b := Lib.hid fun A c W (h : RdP W A P) => join_of P P A c W h (by omega) (chk_of_ok P 0 0 HPO.out) HPJ.out
          obtain ⟨AQ, cQ, rfl, hrq, -⟩ := RdP.of_own2 HOWN.out (by omega)
          have HRQ := Lib.hid hrq
          clear hlt hrq hck hjl
          go_wp2_with fail
          refine (HC29.out _ _ _ HRQ.out).mono ?_
          rintro e w6 ⟨A6, c6, rfl, hr6, hev6⟩
          have HE6 := Lib.hid ((HE2.out.step hev).step hev6)
          have HR16 := Lib.hid ((HR12.out.ev hev).ev hev6)
          have HR6 := Lib.hid hr6
          clear hev6 hr6 hev
          go_wp2_with fail
          refine (HC29b.out _ _ _ HR16.out).mono ?_
          rintro e w7 ⟨A7, c7, rfl, hr7, hev⟩
          have HE7 := Lib.hid (HE6.out.step hev)
          have HR17 := Lib.hid (HR16.out.ev hev)
          have HR67 := Lib.hid (HR6.out.ev hev)
          have HR7 := Lib.hid hr7
          clear hev hr7
          go_wp2_with fail
          refine (sameB A6 A1 c6 c1 P _ HR67.out HR17.out).mono ?_
          rintro e w8 ⟨rfl, hev⟩
          have HE8 := Lib.hid (HE7.out.step hev)
          have HR18 := Lib.hid (HR17.out.ev hev)
          have HR78 := Lib.hid (HR7.out.ev hev)
          clear hev
          go_wp2_with fail
          refine (sameB A7 A1 c7 c1 P _ HR78.out HR18.out).mono ?_
          rintro e w9 ⟨rfl, hev⟩
          have HE9 := Lib.hid (HE8.out.step hev)
          clear hev
          go_wp2_with fail
          refine (awake_any _ (HTT.out _ HE9.out).1 (HTT.out _ HE9.out).2).mono ?_
          rintro e w10 ⟨rfl, hev⟩
          have HE10 := Lib.hid (HE9.out.step hev)
          clear hev
          go_wp2_with fail
          go_ret
          exact ⟨rfl, HE10.out⟩
end Go.Proofs.YtkneonfhikcdkaaDoor
