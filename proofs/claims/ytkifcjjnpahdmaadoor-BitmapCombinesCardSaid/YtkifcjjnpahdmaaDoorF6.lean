import Derived.Test.YtkifcjjnpahdmaaDoorF5
import Derived.BigRegion
namespace Go.Proofs.YtkifcjjnpahdmaaDoor
open Go.RowKit
open Go.Deep
set_option maxRecDepth 100000 in
set_option maxHeartbeats 1000000 in
theorem rcomb2 (n : Nat) (A B : Option Addr) (c d : Nat) (xs ys : List Nat) (w : World) (hx : Rd w A xs) (hy : Rd w B ys) (h0 : chkI n xs = 0) (h1 : chkI n ys = 0) :
    Calls Tryd.prog 30 #[.agg #[.int .i64 (n : Int), .slice A xs.length c], .agg #[.int .i64 (n : Int), .slice B ys.length d], .int .i64 2] w (RetS w n (pack (cbP 2 xs ys n) n) 0) := by
  obtain ⟨g1, g2, _, g4⟩ := chk_good h0
  obtain ⟨_, _, _, g5⟩ := chk_good h1
  have K1 := fun W hR => rcheck_any n A c xs W hR
  have K2 := fun W hR => rcheck_any n B d ys W hR
  have M1 := fun W hR => members_any n A c xs W hR (by omega) g4
  have M2 := fun W hR => members_any n B d ys W hR (by omega) g5
  rw [h0] at K1
  rw [h1] at K2
  have HK1 := Lib.hid K1
  have HK2 := Lib.hid K2
  have HM1 := Lib.hid M1
  have HM2 := Lib.hid M2
  clear K1 K2 M1 M2 h0 h1 g4 g5
  go_enter Tryd.func30, Tryd.ntmps30
  go_wp2_with fail
  refine (HK1.out _ (((hx.alloc _).alloc _).alloc _)).mono ?_
  rintro e w1 ⟨rfl, hb⟩
  have hs1 : w.heap.size + 1 + 1 + 1 ≤ w1.heap.size := by have := bsz hb; simpa using this
  have hb1 : Below (w.heap.size + 1 + 1 + 1) (((w.alloc (.cells #[.int .i64 (n : Int), .slice A xs.length c] 24)).alloc (.cells #[.int .i64 (n : Int), .slice B ys.length d] 24)).alloc (.cells #[.int .i64 0, .slice none 0 0] 24)) w1 := by simpa using hb
  have hbW := ((((Below.refl _ _).alloc (Nat.le_refl _) _).alloc (by simp) _).alloc (by simp; omega) _).trans (hb1.mono (B' := w.heap.size) (by omega))
  clear hb
  obtain ⟨ax0, ax1, ay0, ay1, _, _, _, _⟩ := box33 hb1
  go_wp2_with fail
  refine (HK2.out _ (hy.below hbW)).mono ?_
  rintro e w2 ⟨rfl, hb2⟩
  have hs2 := bsz hb2
  have hb3 := hb1.trans (hb2.mono (by omega))
  have hbX := hbW.trans (hb2.mono (by omega))
  clear hb1 hb2 hbW ax0 ax1 ay0 ay1
  obtain ⟨ax0, ax1, ay0, ay1, _, _, _, _⟩ := box33 hb3
  have l0 : w.heap.size < w2.heap.size := by omega
  have l1 : w.heap.size + 1 < w2.heap.size := by omega
  have l2 : w.heap.size + 1 + 1 < w2.heap.size := by omega
  go_wp2
  have hev : Ev w2 w2 := Ev.refl w2
  have N1 : ∀ W, Ev w2 W → Calls Tryd.prog 51 #[.agg #[.int .i64 (n : Int), .slice A xs.length c]] W fun e w' => ∃ v, e = .returned v ∧ w'.ownsRow (W.heap.size + 1) 4 1 v n (BL (bit xs) n) ∧ Below W.heap.size W w' ∧ Ev w2 w' := fun W h => (HM1.out W ((hx.below hbX).below h)).mono fun e w' ⟨v, he, ho, hb⟩ => ⟨v, he, ho, hb, Ev.step h hb⟩
  have N2 : ∀ W, Ev w2 W → Calls Tryd.prog 51 #[.agg #[.int .i64 (n : Int), .slice B ys.length d]] W fun e w' => ∃ v, e = .returned v ∧ w'.ownsRow (W.heap.size + 1) 4 1 v n (BL (bit ys) n) ∧ Below W.heap.size W w' ∧ Ev w2 w' := fun W h => (HM2.out W ((hy.below hbX).below h)).mono fun e w' ⟨v, he, ho, hb⟩ => ⟨v, he, ho, hb, Ev.step h hb⟩
  have HY : Hid (∀ W, Ev w2 W → (W.cell? ⟨w.heap.size, 0, none⟩ = some (.int .i64 n) ∧ W.cell? ⟨w.heap.size, 1, none⟩ = some (.slice A xs.length c) ∧ W.cell? ⟨w.heap.size + 1, 0, none⟩ = some (.int .i64 n) ∧ W.cell? ⟨w.heap.size + 1, 1, none⟩ = some (.slice B ys.length d)) ∧ Ev w2 W) := Lib.hid fun W h => by
    obtain ⟨hc, _⟩ := bc h
    rw [hc _ _ (by omega), hc _ _ (by omega), hc _ _ (by omega), hc _ _ (by omega)]
    exact ⟨⟨ax0, ax1, ay0, ay1⟩, h⟩
  have HN1 := Lib.hid N1
  have HN2 := Lib.hid N2
  clear HM1 HM2 N1 N2 HK1 HK2
  go_region_held3 (fun w' => (w'.cell? ⟨w.heap.size, 0, none⟩ = some (.int .i64 n) ∧ w'.cell? ⟨w.heap.size, 1, none⟩ = some (.slice A xs.length c) ∧ w'.cell? ⟨w.heap.size + 1, 0, none⟩ = some (.int .i64 n) ∧ w'.cell? ⟨w.heap.size + 1, 1, none⟩ = some (.slice B ys.length d)) ∧ Ev w2 w')
    (first | exact HY.out _ (by assumption) | exact HY.out _ (Ev.drew (by assumption)))
    (first | (go_at_call 51; refine (HN1.out _ (by first | assumption | exact Ev.drew (by assumption))).mono ?_; rintro e w3 ⟨v1, rfl, hown1, hb4, hev3⟩; clear HN1; have O1 := Lib.hid hown1; clear hown1) | (go_at_call 51; refine (HN2.out _ (by first | assumption | exact Ev.drew (by assumption))).mono ?_; rintro e w4 ⟨v2, rfl, hown2, hb5, hev4⟩; have O2 := Lib.hid hown2; clear hown2))
  have hdr : w2.drew.heap.size = w2.heap.size := rfl
  have hs3 : w2.heap.size ≤ w3.heap.size := bsz hev3
  have hs4 := bsz hb5
  have hown1 := own_below O1.out hb5
  have hfr : ∀ g, v1.ownBlock = some g → w2.heap.size + 1 ≤ g ∧ g < w3.heap.size := fun g h => O1.out.lt g h
  have hb6 := hb3.trans (hev4.mono (by omega))
  have hbY := hbX.trans (hev4.mono (by omega))
  obtain ⟨_, _, _, _, az0, az1, fz0, fz1⟩ := box33 hb6
  obtain ⟨Av, vc, hv, _, hFv, _⟩ := RdB.of_own hown1
  subst hv
  obtain ⟨Bv, uc, hv, _, hFu, hRu⟩ := RdB.of_own O2.out
  subst hv
  have HRU := Lib.hid hRu
  clear ax0 ax1 ay0 ay1 O2 O1 HY HN2 hb3 hb4 hb5 hb6 hev hev3 hev4 hbX hRu hx hy
  go_wp2
  go_loopw [11] (fun i wr => ∃ k : Nat, k ≤ n ∧ i = .int .i64 k ∧ w4.grownBy wr (Value.slice Av n vc).ownBlock ∧ wr.ownsRow (w2.heap.size + 1) 4 1 (.slice Av n vc) n (BL (cbP 2 xs ys k) n)) (fun i _ => n - (intOf i).toNat)
  case atStart => exact ⟨0, Nat.zero_le _, rfl, World.grownBy.refl _ _, by
    have e : cbP 2 xs ys 0 = bit xs := by
      funext i
      unfold cbP
      rw [if_neg (by omega)]
    rw [e]
    exact hown1⟩
  case round =>
    obtain ⟨k, hk1, rfl, hgb, hownk⟩ := hrel
    by_cases hlt : k < n
    · obtain ⟨g, vc', hv, hbg, _⟩ := hownk.form (by omega)
      injection hv with hv1 _ hv2
      subst hv1
      subst hv2
      obtain ⟨b2, o2, rfl, hbl2, hcell2⟩ := HRU.out k hlt
      have hfg := hfr g rfl
      have hgb' : w4.grownBy wr (some g) := hgb
      have hb2 : w3.heap.size + 1 ≤ b2 := hFu _ rfl
      have cc2 := (gb_cell hgb' b2 (o2 + k) (by omega) (by omega)).trans hcell2
      have cg : wr.cell? ⟨g, k, none⟩ = some (.bool (bit xs k)) := by
        rw [hownk.cellAt k (by omega)]
        unfold BL cbP
        simp [hlt]
      have cf := hownk.frozenAt k
      have hk0 : 0 ≤ (k : Int) := by omega
      have hltn : (k : Int) < (n : Int) := by omega
      have hst := hownk.stored k (.bool (cb 2 (bit xs k) (bit ys k)))
      have hgb2 : w4.grownBy (wr.setCell ⟨g, k, none⟩ (.bool (cb 2 (bit xs k) (bit ys k)))) (Value.slice (some ⟨g, 0, none⟩) n vc).ownBlock := gb_set hgb' k _
      have hnew : (BL (cbP 2 xs ys k) n).set k (.bool (cb 2 (bit xs k) (bit ys k))) = BL (cbP 2 xs ys (k + 1)) n := BL_set _ _ _ _ _ fun i => by
        unfold cbP
        by_cases e : i = k
        · rw [if_pos e, if_pos (by omega), e]
        · rw [if_neg e]
          by_cases c : i < k
          · rw [if_pos c, if_pos (by omega)]
          · rw [if_neg c, if_neg (by omega)]
      have HS := Lib.hid hst.1
      have HN := Lib.hid hnew
      have HG := Lib.hid hgb2
      clear hnew hgb hgb' hgb2 hownk hown1 hst hcell2 az0 az1 fz0 fz1
      generalize bit xs k = x at *
      generalize bit ys k = y at *
      cases x <;> cases y
      all_goals
        go_wp2
        go_roundw
        case rel => exact ⟨k + 1, by omega, by go_num, HG.out, by rw [← HN.out]; exact HS.out⟩
        case measure => simp [intOf]; omega
    · have hkn : n = k := by omega
      subst hkn
      have hRB : RdB wr Av n (cbP 2 xs ys n) := by
        obtain ⟨A2, c2, hv, _, _, h⟩ := RdB.of_own hownk
        injection hv with hv1
        rw [hv1]
        exact h
      have hne : ∀ b, b < w2.heap.size → ∀ g, (Value.slice Av n vc).ownBlock = some g → b ≠ g := fun b hb g hg => by have := (hfr g hg).1; omega
      have cy0 := (gbr_cell hgb (w.heap.size + 1 + 1) 0 (by omega) (hne _ (by omega))).trans az0
      have cy1 := (gbr_cell hgb (w.heap.size + 1 + 1) 1 (by omega) (hne _ (by omega))).trans az1
      have fy0 := (gbr_frozen hgb (w.heap.size + 1 + 1) 0 (by omega) (hne _ (by omega))).trans fz0
      have fy1 := (gbr_frozen hgb (w.heap.size + 1 + 1) 1 (by omega) (hne _ (by omega))).trans fz1
      have hsr := hgb.size
      have hbR : Below w.heap.size w wr := hbY.grown hgb (by omega) (fun g hg => by have := (hfr g hg).1; omega)
      have HM2 := Lib.hid (made_any n Av vc (cbP 2 xs ys n) wr hRB (by omega))
      clear hgb hownk hown1 hRB az0 az1 fz0 fz1 hfr
      go_wp2_with fail
      refine HM2.out.mono ?_
      rintro e w5 ⟨g, rfl, hg, hR5, hb5⟩
      have hs5 := bsz hb5
      have ey0 := (hb5.cell (p := ⟨w.heap.size + 1 + 1, 0, none⟩) (by simp only []; omega)).trans cy0
      have ey1 := (hb5.cell (p := ⟨w.heap.size + 1 + 1, 1, none⟩) (by simp only []; omega)).trans cy1
      have ez0 := (hb5.frozen (p := ⟨w.heap.size + 1 + 1, 0, none⟩) (by simp only []; omega)).trans fy0
      have ez1 := (hb5.frozen (p := ⟨w.heap.size + 1 + 1, 1, none⟩) (by simp only []; omega)).trans fy1
      go_wp2
      have hF5 : ∀ a, some (⟨g, 0, none⟩ : Addr) = some a → a.block ≠ w.heap.size + 1 + 1 := fun a h => by rw [← Option.some.inj h]; simp only []; omega
      refine bodyPost_ret (v := .tuple #[.agg #[.int .i64 (n : Int), .slice (some ⟨g, 0, none⟩) (nw n) (nw n)], .int .i64 0]) (by simp [results, Tryd.results30, go_sem, ey0, ey1]) rfl ⟨some ⟨g, 0, none⟩, nw n, by rw [pack_len], nil0_some _, from_some (by omega), (hR5.setCell hF5 _).setCell hF5 _, ?_⟩
      exact ((hbR.trans (hb5.mono (by omega))).setCell (by simp only []; omega) _).setCell (by simp only []; omega) _
set_option maxRecDepth 100000 in
set_option maxHeartbeats 1000000 in
theorem rcomb3 (n : Nat) (A B : Option Addr) (c d : Nat) (xs ys : List Nat) (w : World) (hx : Rd w A xs) (hy : Rd w B ys) (h0 : chkI n xs = 0) (h1 : chkI n ys = 0) :
    Calls Tryd.prog 30 #[.agg #[.int .i64 (n : Int), .slice A xs.length c], .agg #[.int .i64 (n : Int), .slice B ys.length d], .int .i64 3] w (RetS w n (pack (cbP 3 xs ys n) n) 0) := by
  obtain ⟨g1, g2, _, g4⟩ := chk_good h0
  obtain ⟨_, _, _, g5⟩ := chk_good h1
  have K1 := fun W hR => rcheck_any n A c xs W hR
  have K2 := fun W hR => rcheck_any n B d ys W hR
  have M1 := fun W hR => members_any n A c xs W hR (by omega) g4
  have M2 := fun W hR => members_any n B d ys W hR (by omega) g5
  rw [h0] at K1
  rw [h1] at K2
  have HK1 := Lib.hid K1
  have HK2 := Lib.hid K2
  have HM1 := Lib.hid M1
  have HM2 := Lib.hid M2
  clear K1 K2 M1 M2 h0 h1 g4 g5
  go_enter Tryd.func30, Tryd.ntmps30
  go_wp2_with fail
  refine (HK1.out _ (((hx.alloc _).alloc _).alloc _)).mono ?_
  rintro e w1 ⟨rfl, hb⟩
  have hs1 : w.heap.size + 1 + 1 + 1 ≤ w1.heap.size := by have := bsz hb; simpa using this
  have hb1 : Below (w.heap.size + 1 + 1 + 1) (((w.alloc (.cells #[.int .i64 (n : Int), .slice A xs.length c] 24)).alloc (.cells #[.int .i64 (n : Int), .slice B ys.length d] 24)).alloc (.cells #[.int .i64 0, .slice none 0 0] 24)) w1 := by simpa using hb
  have hbW := ((((Below.refl _ _).alloc (Nat.le_refl _) _).alloc (by simp) _).alloc (by simp; omega) _).trans (hb1.mono (B' := w.heap.size) (by omega))
  clear hb
  obtain ⟨ax0, ax1, ay0, ay1, _, _, _, _⟩ := box33 hb1
  go_wp2_with fail
  refine (HK2.out _ (hy.below hbW)).mono ?_
  rintro e w2 ⟨rfl, hb2⟩
  have hs2 := bsz hb2
  have hb3 := hb1.trans (hb2.mono (by omega))
  have hbX := hbW.trans (hb2.mono (by omega))
  clear hb1 hb2 hbW ax0 ax1 ay0 ay1
  obtain ⟨ax0, ax1, ay0, ay1, _, _, _, _⟩ := box33 hb3
  have l0 : w.heap.size < w2.heap.size := by omega
  have l1 : w.heap.size + 1 < w2.heap.size := by omega
  have l2 : w.heap.size + 1 + 1 < w2.heap.size := by omega
  go_wp2
  have hev : Ev w2 w2 := Ev.refl w2
  have N1 : ∀ W, Ev w2 W → Calls Tryd.prog 51 #[.agg #[.int .i64 (n : Int), .slice A xs.length c]] W fun e w' => ∃ v, e = .returned v ∧ w'.ownsRow (W.heap.size + 1) 4 1 v n (BL (bit xs) n) ∧ Below W.heap.size W w' ∧ Ev w2 w' := fun W h => (HM1.out W ((hx.below hbX).below h)).mono fun e w' ⟨v, he, ho, hb⟩ => ⟨v, he, ho, hb, Ev.step h hb⟩
  have N2 : ∀ W, Ev w2 W → Calls Tryd.prog 51 #[.agg #[.int .i64 (n : Int), .slice B ys.length d]] W fun e w' => ∃ v, e = .returned v ∧ w'.ownsRow (W.heap.size + 1) 4 1 v n (BL (bit ys) n) ∧ Below W.heap.size W w' ∧ Ev w2 w' := fun W h => (HM2.out W ((hy.below hbX).below h)).mono fun e w' ⟨v, he, ho, hb⟩ => ⟨v, he, ho, hb, Ev.step h hb⟩
  have HY : Hid (∀ W, Ev w2 W → (W.cell? ⟨w.heap.size, 0, none⟩ = some (.int .i64 n) ∧ W.cell? ⟨w.heap.size, 1, none⟩ = some (.slice A xs.length c) ∧ W.cell? ⟨w.heap.size + 1, 0, none⟩ = some (.int .i64 n) ∧ W.cell? ⟨w.heap.size + 1, 1, none⟩ = some (.slice B ys.length d)) ∧ Ev w2 W) := Lib.hid fun W h => by
    obtain ⟨hc, _⟩ := bc h
    rw [hc _ _ (by omega), hc _ _ (by omega), hc _ _ (by omega), hc _ _ (by omega)]
    exact ⟨⟨ax0, ax1, ay0, ay1⟩, h⟩
  have HN1 := Lib.hid N1
  have HN2 := Lib.hid N2
  clear HM1 HM2 N1 N2 HK1 HK2
  go_region_held3 (fun w' => (w'.cell? ⟨w.heap.size, 0, none⟩ = some (.int .i64 n) ∧ w'.cell? ⟨w.heap.size, 1, none⟩ = some (.slice A xs.length c) ∧ w'.cell? ⟨w.heap.size + 1, 0, none⟩ = some (.int .i64 n) ∧ w'.cell? ⟨w.heap.size + 1, 1, none⟩ = some (.slice B ys.length d)) ∧ Ev w2 w')
    (first | exact HY.out _ (by assumption) | exact HY.out _ (Ev.drew (by assumption)))
    (first | (go_at_call 51; refine (HN1.out _ (by first | assumption | exact Ev.drew (by assumption))).mono ?_; rintro e w3 ⟨v1, rfl, hown1, hb4, hev3⟩; clear HN1; have O1 := Lib.hid hown1; clear hown1) | (go_at_call 51; refine (HN2.out _ (by first | assumption | exact Ev.drew (by assumption))).mono ?_; rintro e w4 ⟨v2, rfl, hown2, hb5, hev4⟩; have O2 := Lib.hid hown2; clear hown2))
  have hdr : w2.drew.heap.size = w2.heap.size := rfl
  have hs3 : w2.heap.size ≤ w3.heap.size := bsz hev3
  have hs4 := bsz hb5
  have hown1 := own_below O1.out hb5
  have hfr : ∀ g, v1.ownBlock = some g → w2.heap.size + 1 ≤ g ∧ g < w3.heap.size := fun g h => O1.out.lt g h
  have hb6 := hb3.trans (hev4.mono (by omega))
  have hbY := hbX.trans (hev4.mono (by omega))
  obtain ⟨_, _, _, _, az0, az1, fz0, fz1⟩ := box33 hb6
  obtain ⟨Av, vc, hv, _, hFv, _⟩ := RdB.of_own hown1
  subst hv
  obtain ⟨Bv, uc, hv, _, hFu, hRu⟩ := RdB.of_own O2.out
  subst hv
  have HRU := Lib.hid hRu
  clear ax0 ax1 ay0 ay1 O2 O1 HY HN2 hb3 hb4 hb5 hb6 hev hev3 hev4 hbX hRu hx hy
  go_wp2
  go_loopw [11] (fun i wr => ∃ k : Nat, k ≤ n ∧ i = .int .i64 k ∧ w4.grownBy wr (Value.slice Av n vc).ownBlock ∧ wr.ownsRow (w2.heap.size + 1) 4 1 (.slice Av n vc) n (BL (cbP 3 xs ys k) n)) (fun i _ => n - (intOf i).toNat)
  case atStart => exact ⟨0, Nat.zero_le _, rfl, World.grownBy.refl _ _, by
    have e : cbP 3 xs ys 0 = bit xs := by
      funext i
      unfold cbP
      rw [if_neg (by omega)]
    rw [e]
    exact hown1⟩
  case round =>
    obtain ⟨k, hk1, rfl, hgb, hownk⟩ := hrel
    by_cases hlt : k < n
    · obtain ⟨g, vc', hv, hbg, _⟩ := hownk.form (by omega)
      injection hv with hv1 _ hv2
      subst hv1
      subst hv2
      obtain ⟨b2, o2, rfl, hbl2, hcell2⟩ := HRU.out k hlt
      have hfg := hfr g rfl
      have hgb' : w4.grownBy wr (some g) := hgb
      have hb2 : w3.heap.size + 1 ≤ b2 := hFu _ rfl
      have cc2 := (gb_cell hgb' b2 (o2 + k) (by omega) (by omega)).trans hcell2
      have cg : wr.cell? ⟨g, k, none⟩ = some (.bool (bit xs k)) := by
        rw [hownk.cellAt k (by omega)]
        unfold BL cbP
        simp [hlt]
      have cf := hownk.frozenAt k
      have hk0 : 0 ≤ (k : Int) := by omega
      have hltn : (k : Int) < (n : Int) := by omega
      have hst := hownk.stored k (.bool (cb 3 (bit xs k) (bit ys k)))
      have hgb2 : w4.grownBy (wr.setCell ⟨g, k, none⟩ (.bool (cb 3 (bit xs k) (bit ys k)))) (Value.slice (some ⟨g, 0, none⟩) n vc).ownBlock := gb_set hgb' k _
      have hnew : (BL (cbP 3 xs ys k) n).set k (.bool (cb 3 (bit xs k) (bit ys k))) = BL (cbP 3 xs ys (k + 1)) n := BL_set _ _ _ _ _ fun i => by
        unfold cbP
        by_cases e : i = k
        · rw [if_pos e, if_pos (by omega), e]
        · rw [if_neg e]
          by_cases c : i < k
          · rw [if_pos c, if_pos (by omega)]
          · rw [if_neg c, if_neg (by omega)]
      have HS := Lib.hid hst.1
      have HN := Lib.hid hnew
      have HG := Lib.hid hgb2
      clear hnew hgb hgb' hgb2 hownk hown1 hst hcell2 az0 az1 fz0 fz1
      generalize bit xs k = x at *
      generalize bit ys k = y at *
      cases x <;> cases y
      all_goals
        go_wp2
        go_roundw
        case rel => exact ⟨k + 1, by omega, by go_num, HG.out, by rw [← HN.out]; exact HS.out⟩
        case measure => simp [intOf]; omega
    · have hkn : n = k := by omega
      subst hkn
      have hRB : RdB wr Av n (cbP 3 xs ys n) := by
        obtain ⟨A2, c2, hv, _, _, h⟩ := RdB.of_own hownk
        injection hv with hv1
        rw [hv1]
        exact h
      have hne : ∀ b, b < w2.heap.size → ∀ g, (Value.slice Av n vc).ownBlock = some g → b ≠ g := fun b hb g hg => by have := (hfr g hg).1; omega
      have cy0 := (gbr_cell hgb (w.heap.size + 1 + 1) 0 (by omega) (hne _ (by omega))).trans az0
      have cy1 := (gbr_cell hgb (w.heap.size + 1 + 1) 1 (by omega) (hne _ (by omega))).trans az1
      have fy0 := (gbr_frozen hgb (w.heap.size + 1 + 1) 0 (by omega) (hne _ (by omega))).trans fz0
      have fy1 := (gbr_frozen hgb (w.heap.size + 1 + 1) 1 (by omega) (hne _ (by omega))).trans fz1
      have hsr := hgb.size
      have hbR : Below w.heap.size w wr := hbY.grown hgb (by omega) (fun g hg => by have := (hfr g hg).1; omega)
      have HM2 := Lib.hid (made_any n Av vc (cbP 3 xs ys n) wr hRB (by omega))
      clear hgb hownk hown1 hRB az0 az1 fz0 fz1 hfr
      go_wp2_with fail
      refine HM2.out.mono ?_
      rintro e w5 ⟨g, rfl, hg, hR5, hb5⟩
      have hs5 := bsz hb5
      have ey0 := (hb5.cell (p := ⟨w.heap.size + 1 + 1, 0, none⟩) (by simp only []; omega)).trans cy0
      have ey1 := (hb5.cell (p := ⟨w.heap.size + 1 + 1, 1, none⟩) (by simp only []; omega)).trans cy1
      have ez0 := (hb5.frozen (p := ⟨w.heap.size + 1 + 1, 0, none⟩) (by simp only []; omega)).trans fy0
      have ez1 := (hb5.frozen (p := ⟨w.heap.size + 1 + 1, 1, none⟩) (by simp only []; omega)).trans fy1
      go_wp2
      have hF5 : ∀ a, some (⟨g, 0, none⟩ : Addr) = some a → a.block ≠ w.heap.size + 1 + 1 := fun a h => by rw [← Option.some.inj h]; simp only []; omega
      refine bodyPost_ret (v := .tuple #[.agg #[.int .i64 (n : Int), .slice (some ⟨g, 0, none⟩) (nw n) (nw n)], .int .i64 0]) (by simp [results, Tryd.results30, go_sem, ey0, ey1]) rfl ⟨some ⟨g, 0, none⟩, nw n, by rw [pack_len], nil0_some _, from_some (by omega), (hR5.setCell hF5 _).setCell hF5 _, ?_⟩
      exact ((hbR.trans (hb5.mono (by omega))).setCell (by simp only []; omega) _).setCell (by simp only []; omega) _
set_option maxRecDepth 100000 in
set_option maxHeartbeats 1000000 in
theorem rcomb4 (n : Nat) (A B : Option Addr) (c d : Nat) (xs ys : List Nat) (w : World) (hx : Rd w A xs) (hy : Rd w B ys) (h0 : chkI n xs = 0) (h1 : chkI n ys = 0) :
    Calls Tryd.prog 30 #[.agg #[.int .i64 (n : Int), .slice A xs.length c], .agg #[.int .i64 (n : Int), .slice B ys.length d], .int .i64 4] w (RetS w n (pack (cbP 4 xs ys n) n) 0) := by
  obtain ⟨g1, g2, _, g4⟩ := chk_good h0
  obtain ⟨_, _, _, g5⟩ := chk_good h1
  have K1 := fun W hR => rcheck_any n A c xs W hR
  have K2 := fun W hR => rcheck_any n B d ys W hR
  have M1 := fun W hR => members_any n A c xs W hR (by omega) g4
  have M2 := fun W hR => members_any n B d ys W hR (by omega) g5
  rw [h0] at K1
  rw [h1] at K2
  have HK1 := Lib.hid K1
  have HK2 := Lib.hid K2
  have HM1 := Lib.hid M1
  have HM2 := Lib.hid M2
  clear K1 K2 M1 M2 h0 h1 g4 g5
  go_enter Tryd.func30, Tryd.ntmps30
  go_wp2_with fail
  refine (HK1.out _ (((hx.alloc _).alloc _).alloc _)).mono ?_
  rintro e w1 ⟨rfl, hb⟩
  have hs1 : w.heap.size + 1 + 1 + 1 ≤ w1.heap.size := by have := bsz hb; simpa using this
  have hb1 : Below (w.heap.size + 1 + 1 + 1) (((w.alloc (.cells #[.int .i64 (n : Int), .slice A xs.length c] 24)).alloc (.cells #[.int .i64 (n : Int), .slice B ys.length d] 24)).alloc (.cells #[.int .i64 0, .slice none 0 0] 24)) w1 := by simpa using hb
  have hbW := ((((Below.refl _ _).alloc (Nat.le_refl _) _).alloc (by simp) _).alloc (by simp; omega) _).trans (hb1.mono (B' := w.heap.size) (by omega))
  clear hb
  obtain ⟨ax0, ax1, ay0, ay1, _, _, _, _⟩ := box33 hb1
  go_wp2_with fail
  refine (HK2.out _ (hy.below hbW)).mono ?_
  rintro e w2 ⟨rfl, hb2⟩
  have hs2 := bsz hb2
  have hb3 := hb1.trans (hb2.mono (by omega))
  have hbX := hbW.trans (hb2.mono (by omega))
  clear hb1 hb2 hbW ax0 ax1 ay0 ay1
  obtain ⟨ax0, ax1, ay0, ay1, _, _, _, _⟩ := box33 hb3
  have l0 : w.heap.size < w2.heap.size := by omega
  have l1 : w.heap.size + 1 < w2.heap.size := by omega
  have l2 : w.heap.size + 1 + 1 < w2.heap.size := by omega
  go_wp2
  have hev : Ev w2 w2 := Ev.refl w2
  have N1 : ∀ W, Ev w2 W → Calls Tryd.prog 51 #[.agg #[.int .i64 (n : Int), .slice A xs.length c]] W fun e w' => ∃ v, e = .returned v ∧ w'.ownsRow (W.heap.size + 1) 4 1 v n (BL (bit xs) n) ∧ Below W.heap.size W w' ∧ Ev w2 w' := fun W h => (HM1.out W ((hx.below hbX).below h)).mono fun e w' ⟨v, he, ho, hb⟩ => ⟨v, he, ho, hb, Ev.step h hb⟩
  have N2 : ∀ W, Ev w2 W → Calls Tryd.prog 51 #[.agg #[.int .i64 (n : Int), .slice B ys.length d]] W fun e w' => ∃ v, e = .returned v ∧ w'.ownsRow (W.heap.size + 1) 4 1 v n (BL (bit ys) n) ∧ Below W.heap.size W w' ∧ Ev w2 w' := fun W h => (HM2.out W ((hy.below hbX).below h)).mono fun e w' ⟨v, he, ho, hb⟩ => ⟨v, he, ho, hb, Ev.step h hb⟩
  have HY : Hid (∀ W, Ev w2 W → (W.cell? ⟨w.heap.size, 0, none⟩ = some (.int .i64 n) ∧ W.cell? ⟨w.heap.size, 1, none⟩ = some (.slice A xs.length c) ∧ W.cell? ⟨w.heap.size + 1, 0, none⟩ = some (.int .i64 n) ∧ W.cell? ⟨w.heap.size + 1, 1, none⟩ = some (.slice B ys.length d)) ∧ Ev w2 W) := Lib.hid fun W h => by
    obtain ⟨hc, _⟩ := bc h
    rw [hc _ _ (by omega), hc _ _ (by omega), hc _ _ (by omega), hc _ _ (by omega)]
    exact ⟨⟨ax0, ax1, ay0, ay1⟩, h⟩
  have HN1 := Lib.hid N1
  have HN2 := Lib.hid N2
  clear HM1 HM2 N1 N2 HK1 HK2
  go_region_held3 (fun w' => (w'.cell? ⟨w.heap.size, 0, none⟩ = some (.int .i64 n) ∧ w'.cell? ⟨w.heap.size, 1, none⟩ = some (.slice A xs.length c) ∧ w'.cell? ⟨w.heap.size + 1, 0, none⟩ = some (.int .i64 n) ∧ w'.cell? ⟨w.heap.size + 1, 1, none⟩ = some (.slice B ys.length d)) ∧ Ev w2 w')
    (first | exact HY.out _ (by assumption) | exact HY.out _ (Ev.drew (by assumption)))
    (first | (go_at_call 51; refine (HN1.out _ (by first | assumption | exact Ev.drew (by assumption))).mono ?_; rintro e w3 ⟨v1, rfl, hown1, hb4, hev3⟩; clear HN1; have O1 := Lib.hid hown1; clear hown1) | (go_at_call 51; refine (HN2.out _ (by first | assumption | exact Ev.drew (by assumption))).mono ?_; rintro e w4 ⟨v2, rfl, hown2, hb5, hev4⟩; have O2 := Lib.hid hown2; clear hown2))
  have hdr : w2.drew.heap.size = w2.heap.size := rfl
  have hs3 : w2.heap.size ≤ w3.heap.size := bsz hev3
  have hs4 := bsz hb5
  have hown1 := own_below O1.out hb5
  have hfr : ∀ g, v1.ownBlock = some g → w2.heap.size + 1 ≤ g ∧ g < w3.heap.size := fun g h => O1.out.lt g h
  have hb6 := hb3.trans (hev4.mono (by omega))
  have hbY := hbX.trans (hev4.mono (by omega))
  obtain ⟨_, _, _, _, az0, az1, fz0, fz1⟩ := box33 hb6
  obtain ⟨Av, vc, hv, _, hFv, _⟩ := RdB.of_own hown1
  subst hv
  obtain ⟨Bv, uc, hv, _, hFu, hRu⟩ := RdB.of_own O2.out
  subst hv
  have HRU := Lib.hid hRu
  clear ax0 ax1 ay0 ay1 O2 O1 HY HN2 hb3 hb4 hb5 hb6 hev hev3 hev4 hbX hRu hx hy
  go_wp2
  go_loopw [11] (fun i wr => ∃ k : Nat, k ≤ n ∧ i = .int .i64 k ∧ w4.grownBy wr (Value.slice Av n vc).ownBlock ∧ wr.ownsRow (w2.heap.size + 1) 4 1 (.slice Av n vc) n (BL (cbP 4 xs ys k) n)) (fun i _ => n - (intOf i).toNat)
  case atStart => exact ⟨0, Nat.zero_le _, rfl, World.grownBy.refl _ _, by
    have e : cbP 4 xs ys 0 = bit xs := by
      funext i
      unfold cbP
      rw [if_neg (by omega)]
    rw [e]
    exact hown1⟩
  case round =>
    obtain ⟨k, hk1, rfl, hgb, hownk⟩ := hrel
    by_cases hlt : k < n
    · obtain ⟨g, vc', hv, hbg, _⟩ := hownk.form (by omega)
      injection hv with hv1 _ hv2
      subst hv1
      subst hv2
      obtain ⟨b2, o2, rfl, hbl2, hcell2⟩ := HRU.out k hlt
      have hfg := hfr g rfl
      have hgb' : w4.grownBy wr (some g) := hgb
      have hb2 : w3.heap.size + 1 ≤ b2 := hFu _ rfl
      have cc2 := (gb_cell hgb' b2 (o2 + k) (by omega) (by omega)).trans hcell2
      have cg : wr.cell? ⟨g, k, none⟩ = some (.bool (bit xs k)) := by
        rw [hownk.cellAt k (by omega)]
        unfold BL cbP
        simp [hlt]
      have cf := hownk.frozenAt k
      have hk0 : 0 ≤ (k : Int) := by omega
      have hltn : (k : Int) < (n : Int) := by omega
      have hst := hownk.stored k (.bool (cb 4 (bit xs k) (bit ys k)))
      have hgb2 : w4.grownBy (wr.setCell ⟨g, k, none⟩ (.bool (cb 4 (bit xs k) (bit ys k)))) (Value.slice (some ⟨g, 0, none⟩) n vc).ownBlock := gb_set hgb' k _
      have hnew : (BL (cbP 4 xs ys k) n).set k (.bool (cb 4 (bit xs k) (bit ys k))) = BL (cbP 4 xs ys (k + 1)) n := BL_set _ _ _ _ _ fun i => by
        unfold cbP
        by_cases e : i = k
        · rw [if_pos e, if_pos (by omega), e]
        · rw [if_neg e]
          by_cases c : i < k
          · rw [if_pos c, if_pos (by omega)]
          · rw [if_neg c, if_neg (by omega)]
      have HS := Lib.hid hst.1
      have HN := Lib.hid hnew
      have HG := Lib.hid hgb2
      clear hnew hgb hgb' hgb2 hownk hown1 hst hcell2 az0 az1 fz0 fz1
      generalize bit xs k = x at *
      generalize bit ys k = y at *
      cases x <;> cases y
      all_goals
        go_wp2
        go_region
        go_wp2
        go_roundw
        case rel => exact ⟨k + 1, by omega, by go_num, gb_d HG.out, by rw [← HN.out]; exact HS.out⟩
        case measure => simp [intOf]; omega
    · have hkn : n = k := by omega
      subst hkn
      have hRB : RdB wr Av n (cbP 4 xs ys n) := by
        obtain ⟨A2, c2, hv, _, _, h⟩ := RdB.of_own hownk
        injection hv with hv1
        rw [hv1]
        exact h
      have hne : ∀ b, b < w2.heap.size → ∀ g, (Value.slice Av n vc).ownBlock = some g → b ≠ g := fun b hb g hg => by have := (hfr g hg).1; omega
      have cy0 := (gbr_cell hgb (w.heap.size + 1 + 1) 0 (by omega) (hne _ (by omega))).trans az0
      have cy1 := (gbr_cell hgb (w.heap.size + 1 + 1) 1 (by omega) (hne _ (by omega))).trans az1
      have fy0 := (gbr_frozen hgb (w.heap.size + 1 + 1) 0 (by omega) (hne _ (by omega))).trans fz0
      have fy1 := (gbr_frozen hgb (w.heap.size + 1 + 1) 1 (by omega) (hne _ (by omega))).trans fz1
      have hsr := hgb.size
      have hbR : Below w.heap.size w wr := hbY.grown hgb (by omega) (fun g hg => by have := (hfr g hg).1; omega)
      have HM2 := Lib.hid (made_any n Av vc (cbP 4 xs ys n) wr hRB (by omega))
      clear hgb hownk hown1 hRB az0 az1 fz0 fz1 hfr
      go_wp2_with fail
      refine HM2.out.mono ?_
      rintro e w5 ⟨g, rfl, hg, hR5, hb5⟩
      have hs5 := bsz hb5
      have ey0 := (hb5.cell (p := ⟨w.heap.size + 1 + 1, 0, none⟩) (by simp only []; omega)).trans cy0
      have ey1 := (hb5.cell (p := ⟨w.heap.size + 1 + 1, 1, none⟩) (by simp only []; omega)).trans cy1
      have ez0 := (hb5.frozen (p := ⟨w.heap.size + 1 + 1, 0, none⟩) (by simp only []; omega)).trans fy0
      have ez1 := (hb5.frozen (p := ⟨w.heap.size + 1 + 1, 1, none⟩) (by simp only []; omega)).trans fy1
      go_wp2
      have hF5 : ∀ a, some (⟨g, 0, none⟩ : Addr) = some a → a.block ≠ w.heap.size + 1 + 1 := fun a h => by rw [← Option.some.inj h]; simp only []; omega
      refine bodyPost_ret (v := .tuple #[.agg #[.int .i64 (n : Int), .slice (some ⟨g, 0, none⟩) (nw n) (nw n)], .int .i64 0]) (by simp [results, Tryd.results30, go_sem, ey0, ey1]) rfl ⟨some ⟨g, 0, none⟩, nw n, by rw [pack_len], nil0_some _, from_some (by omega), (hR5.setCell hF5 _).setCell hF5 _, ?_⟩
      exact ((hbR.trans (hb5.mono (by omega))).setCell (by simp only []; omega) _).setCell (by simp only []; omega) _
end Go.Proofs.YtkifcjjnpahdmaaDoor
