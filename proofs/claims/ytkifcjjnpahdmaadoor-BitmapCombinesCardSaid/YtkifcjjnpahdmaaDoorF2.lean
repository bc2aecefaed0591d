import Derived.Test.YtkifcjjnpahdmaaDoorF1
namespace Go.Proofs.YtkifcjjnpahdmaaDoor
open Go.RowKit
open Go.Deep
set_option maxRecDepth 100000 in
set_option maxHeartbeats 1000000 in
theorem comb2 (n : Int) (A B : Option Addr) (c d : Nat) (xs ys : List Nat) (w : World) (hx : Rd w A xs) (hy : Rd w B ys) (h0 : chkI n xs = 0) (h1 : chkI n ys = 0) :
    Calls Tryd.prog 29 #[.agg #[.int .i64 n, .slice A xs.length c], .agg #[.int .i64 n, .slice B ys.length d], .int .i64 2] w (RetS w n (cmW 2 xs ys) 0) := by
  obtain ⟨g1, g2, _, g4⟩ := chk_good h0
  obtain ⟨_, _, _, g5⟩ := chk_good h1
  have hlen : ys.length = xs.length := by omega
  have hnw : nw n ≤ 100 := by unfold nw; omega
  have K1 := fun W hR => check_any n A c xs W hR
  have K2 := fun W hR => check_any n B d ys W hR
  rw [h0] at K1
  rw [h1] at K2
  have HK1 := Lib.hid K1
  have HK2 := Lib.hid K2
  have HL1 := Lib.hid g4
  have HL2 := Lib.hid g5
  clear K1 K2 h0 h1 g4 g5 hlen
  go_enter Tryd.func29, Tryd.ntmps29
  go_wp2_with fail
  refine (HK1.out _ (((hx.alloc _).alloc _).alloc _)).mono ?_
  rintro e w1 ⟨rfl, hb⟩
  have hs1 : w.heap.size + 1 + 1 + 1 ≤ w1.heap.size := by have := bsz hb; simpa using this
  have hb1 : Below (w.heap.size + 1 + 1 + 1) (((w.alloc (.cells #[.int .i64 n, .slice A xs.length c] 24)).alloc (.cells #[.int .i64 n, .slice B ys.length d] 24)).alloc (.cells #[.int .i64 0, .slice none 0 0] 24)) w1 := by simpa using hb
  have hbW := ((((Below.refl _ _).alloc (Nat.le_refl _) _).alloc (by simp) _).alloc (by simp; omega) _).trans (hb1.mono (B' := w.heap.size) (by omega))
  clear hb
  obtain ⟨ax0, ax1, ay0, ay1, _, _, _, _⟩ := box33 hb1
  go_wp2_with fail
  refine (HK2.out _ (hy.below hbW)).mono ?_
  rintro e w2 ⟨rfl, hb2⟩
  have hs2 := bsz hb2
  have hb3 := hb1.trans (hb2.mono (by omega))
  have hbX := hbW.trans (hb2.mono (by omega))
  clear hb1 hb2 hbW ax0 ax1 ay0 ay1
  obtain ⟨ax0, ax1, ay0, ay1, _, _, _, _⟩ := box33 hb3
  have l0 : w.heap.size < w2.heap.size := by omega
  have l1 : w.heap.size + 1 < w2.heap.size := by omega
  have l2 : w.heap.size + 1 + 1 < w2.heap.size := by omega
  go_wp2_with fail
  refine (empty_any _ _ (by omega) (by omega)).mono ?_
  rintro e w3 ⟨g, hg, rfl, hrow, hb4⟩
  have hs3 : w2.heap.size + 1 ≤ w3.heap.size := by have := bsz hb4; simpa using this
  have hgl := hrow.lt
  have hg' : w2.heap.size + 1 ≤ g := by simpa using hg
  go_wp2
  have hb5 := (nxt hb3 (by omega) hb4).alloc (by omega) (.cells #[.int .i64 n, .slice (some ⟨g, 0, none⟩) (nw n) (nw n)] 24)
  have hbY := (nxt hbX (by omega) hb4).alloc (by omega) (.cells #[.int .i64 n, .slice (some ⟨g, 0, none⟩) (nw n) (nw n)] 24)
  have hbF := (sz1 hb4).alloc hs3 (.cells #[.int .i64 n, .slice (some ⟨g, 0, none⟩) (nw n) (nw n)] 24)
  have tf := hbF.cell (p := ⟨w2.heap.size, 1, none⟩) (by simp only []; omega)
  obtain ⟨q1, q2⟩ := box2 (refl1 w3 (.cells #[.int .i64 n, .slice (some ⟨g, 0, none⟩) (nw n) (nw n)] 24))
  have hrow3 := hrow.alloc (.cells #[.int .i64 n, .slice (some ⟨g, 0, none⟩) (nw n) (nw n)] 24)
  have hs4 : (w3.alloc (.cells #[.int .i64 n, .slice (some ⟨g, 0, none⟩) (nw n) (nw n)] 24)).heap.size = w3.heap.size + 1 := by simp
  clear hb3 hb4 hbX hbF hrow hg ax0 ax1 ay0 ay1
  generalize w3.alloc (.cells #[.int .i64 n, .slice (some ⟨g, 0, none⟩) (nw n) (nw n)] 24) = w4 at *
  obtain ⟨ax0, ax1, ay0, ay1, az0, az1, fz0, fz1⟩ := box33 hb5
  simp at tf
  clear hb5
  go_loopw [46] (fun i wr => ∃ k : Nat, k ≤ nw n ∧ i = .int .i64 k ∧ w4.grownBy wr (some g) ∧ wr.rowIs g 61 (nw n) (cmC 2 xs ys k)) (fun i _ => nw n - (intOf i).toNat)
  case atStart => exact ⟨0, Nat.zero_le _, rfl, World.grownBy.refl _ _, hrow3.congr fun j _ => by simp [cmC]⟩
  case round =>
    obtain ⟨k, hk, rfl, hgb, hrow⟩ := hrel
    have hsr := hgb.size
    have cx1 := (gb_cell hgb w.heap.size 1 (by omega) (by omega)).trans ax1
    have cy1 := (gb_cell hgb (w.heap.size + 1) 1 (by omega) (by omega)).trans ay1
    have cf1 := (gb_cell hgb w2.heap.size 1 (by omega) (by omega)).trans tf
    have cn1 := (gb_cell hgb w3.heap.size 1 (by omega) (by omega)).trans q2
    have cn0 := (gb_cell hgb w3.heap.size 0 (by omega) (by omega)).trans q1
    by_cases hlt : k < nw n
    · obtain ⟨b, o, rfl, hbl, hcell⟩ := hx.2.2 k (by rw [HL1.out]; exact hlt)
      obtain ⟨b2, o2, rfl, hbl2, hcell2⟩ := hy.2.2 k (by rw [HL2.out]; exact hlt)
      rw [← hbY.cell (p := ⟨b, o + k, none⟩) hbl] at hcell
      rw [← hbY.cell (p := ⟨b2, o2 + k, none⟩) hbl2] at hcell2
      have cc := (gb_cell hgb b (o + k) (by omega) (by omega)).trans hcell
      have cc2 := (gb_cell hgb b2 (o2 + k) (by omega) (by omega)).trans hcell2
      have cg := hrow.cell hlt
      have cf := hrow.frozen k
      have hcm := cmW_at 2 xs ys k (by rw [HL1.out]; exact hlt)
      have hlx : (k : Int) < (xs.length : Int) := by rw [HL1.out]; omega
      have hly : (k : Int) < (ys.length : Int) := by rw [HL2.out]; omega
      have hlt' : (k : Int) < (nw n : Int) := by omega
      have hk0 : 0 ≤ (k : Int) := by omega
      have hC := fun W => c54 (xs.getD k 0) (ys.getD k 0) W (hx.lt k) (hy.lt k)
      rw [← hcm] at hC
      have HC := Lib.hid hC
      generalize hv : (cmW 2 xs ys).getD k 0 = v at *
      have HV := Lib.hid hv
      generalize xs.getD k 0 = x at *
      generalize ys.getD k 0 = y at *
      have HS := Lib.hid (show ∀ w', w4.grownBy w' (some g) → w'.cell? ⟨w3.heap.size, 1, none⟩ = some (.slice (some ⟨g, 0, none⟩) (nw n) (nw n)) ∧ w'.cell? ⟨w2.heap.size, 1, none⟩ = some (.func (Fn.func 54) #[] #[]) ∧ w'.cell? ⟨w.heap.size, 1, none⟩ = some (.slice (some ⟨b, o, none⟩) xs.length c) ∧ w'.cell? ⟨w.heap.size + 1, 1, none⟩ = some (.slice (some ⟨b2, o2, none⟩) ys.length d) ∧ w'.cell? ⟨b, o + k, none⟩ = some (.int .u64 (x : Int)) ∧ w'.cell? ⟨b2, o2 + k, none⟩ = some (.int .u64 (y : Int)) from fun w' hW => ⟨(gb_cell hW w3.heap.size 1 (by omega) (by omega)).trans q2, (gb_cell hW w2.heap.size 1 (by omega) (by omega)).trans tf, (gb_cell hW w.heap.size 1 (by omega) (by omega)).trans ax1, (gb_cell hW (w.heap.size + 1) 1 (by omega) (by omega)).trans ay1, (gb_cell hW b (o + k) (by omega) (by omega)).trans hcell, (gb_cell hW b2 (o2 + k) (by omega) (by omega)).trans hcell2⟩)
      have hi0 : IntKind.i64.wrap (2 - 1) = 1 := by decide
      have hi1 : IntKind.i64.wrap 1 = 1 := by decide
      clear hv hC hcm hcell hcell2 ax0 ax1 ay0 ay1 az0 az1 fz0 fz1 q1 q2 tf hrow3
      go_wp2
      go_region_held3 (fun w' => w'.cell? ⟨w3.heap.size, 1, none⟩ = some (.slice (some ⟨g, 0, none⟩) (nw n) (nw n)) ∧ w'.cell? ⟨w2.heap.size, 1, none⟩ = some (.func (Fn.func 54) #[] #[]) ∧ w'.cell? ⟨w.heap.size, 1, none⟩ = some (.slice (some ⟨b, o, none⟩) xs.length c) ∧ w'.cell? ⟨w.heap.size + 1, 1, none⟩ = some (.slice (some ⟨b2, o2, none⟩) ys.length d) ∧ w'.cell? ⟨b, o + k, none⟩ = some (.int .u64 (x : Int)) ∧ w'.cell? ⟨b2, o2 + k, none⟩ = some (.int .u64 (y : Int))) (first | exact HS.out _ (gb_d (gb_set hgb _ _)) | exact HS.out _ (gb_d hgb) | exact HS.out _ (gb_d (gb_d hgb)) | exact HS.out _ hgb)
        (first | (go_at_call 54; refine (HC.out _).mono ?_; rintro e w' ⟨rfl, rfl⟩))
      go_wp2
      go_roundw
      case rel => exact ⟨k + 1, by omega, by go_num, gb_d (gb_set hgb _ _), (hrow.set k _).congr fun j hj => by
        unfold cmC
        by_cases e : j = k
        · subst e
          rw [if_pos rfl, if_pos (by omega), HV.out]
        · rw [if_neg e]
          by_cases e2 : j < k
          · rw [if_pos e2, if_pos (by omega)]
          · rw [if_neg e2, if_neg (by omega)]⟩
      case measure => simp [intOf]; omega
    · obtain rfl : k = nw n := by omega
      have cz0 := (gb_cell hgb (w.heap.size + 1 + 1) 0 (by omega) (by omega)).trans az0
      have cz1 := (gb_cell hgb (w.heap.size + 1 + 1) 1 (by omega) (by omega)).trans az1
      have cfz0 := (gb_frozen hgb (w.heap.size + 1 + 1) 0 (by omega) (by omega)).trans fz0
      have cfz1 := (gb_frozen hgb (w.heap.size + 1 + 1) 1 (by omega) (by omega)).trans fz1
      clear ax0 ax1 ay0 ay1 az0 az1 fz0 fz1 q1 q2 tf hrow3
      go_wp2
      have hlen : (cmW 2 xs ys).length = nw n := by rw [← HL1.out]; simp [cmW]
      refine bodyPost_ret (v := .tuple #[.agg #[.int .i64 n, .slice (some ⟨g, 0, none⟩) (nw n) (nw n)], .int .i64 0]) (by simp [results, Tryd.results29, go_sem, cz0, cz1]) rfl ⟨some ⟨g, 0, none⟩, nw n, by rw [hlen], nil0_some _, from_some (by omega), ?_, ?_⟩
      · refine Rd.of_row (len := 0) _ ((hrow.setOther (a := ⟨w.heap.size + 1 + 1, 0, none⟩) (by simp only []; omega) _).setOther (a := ⟨w.heap.size + 1 + 1, 1, none⟩) (by simp only []; omega) _) (by omega) ?_ (by omega) fun j hj => by
          unfold cmC
          rw [if_pos (by omega)]
        exact cmW_lt 2 xs ys hx.lt hy.lt
      · exact (((hbY.grown hgb (by omega) (fun k hk => by injection hk with hk; omega)).setCell (by simp only []; omega) _).setCell (by simp only []; omega) _)
set_option maxRecDepth 100000 in
set_option maxHeartbeats 1000000 in
theorem comb3 (n : Int) (A B : Option Addr) (c d : Nat) (xs ys : List Nat) (w : World) (hx : Rd w A xs) (hy : Rd w B ys) (h0 : chkI n xs = 0) (h1 : chkI n ys = 0) :
    Calls Tryd.prog 29 #[.agg #[.int .i64 n, .slice A xs.length c], .agg #[.int .i64 n, .slice B ys.length d], .int .i64 3] w (RetS w n (cmW 3 xs ys) 0) := by
  obtain ⟨g1, g2, _, g4⟩ := chk_good h0
  obtain ⟨_, _, _, g5⟩ := chk_good h1
  have hlen : ys.length = xs.length := by omega
  have hnw : nw n ≤ 100 := by unfold nw; omega
  have K1 := fun W hR => check_any n A c xs W hR
  have K2 := fun W hR => check_any n B d ys W hR
  rw [h0] at K1
  rw [h1] at K2
  have HK1 := Lib.hid K1
  have HK2 := Lib.hid K2
  have HL1 := Lib.hid g4
  have HL2 := Lib.hid g5
  clear K1 K2 h0 h1 g4 g5 hlen
  go_enter Tryd.func29, Tryd.ntmps29
  go_wp2_with fail
  refine (HK1.out _ (((hx.alloc _).alloc _).alloc _)).mono ?_
  rintro e w1 ⟨rfl, hb⟩
  have hs1 : w.heap.size + 1 + 1 + 1 ≤ w1.heap.size := by have := bsz hb; simpa using this
  have hb1 : Below (w.heap.size + 1 + 1 + 1) (((w.alloc (.cells #[.int .i64 n, .slice A xs.length c] 24)).alloc (.cells #[.int .i64 n, .slice B ys.length d] 24)).alloc (.cells #[.int .i64 0, .slice none 0 0] 24)) w1 := by simpa using hb
  have hbW := ((((Below.refl _ _).alloc (Nat.le_refl _) _).alloc (by simp) _).alloc (by simp; omega) _).trans (hb1.mono (B' := w.heap.size) (by omega))
  clear hb
  obtain ⟨ax0, ax1, ay0, ay1, _, _, _, _⟩ := box33 hb1
  go_wp2_with fail
  refine (HK2.out _ (hy.below hbW)).mono ?_
  rintro e w2 ⟨rfl, hb2⟩
  have hs2 := bsz hb2
  have hb3 := hb1.trans (hb2.mono (by omega))
  have hbX := hbW.trans (hb2.mono (by omega))
  clear hb1 hb2 hbW ax0 ax1 ay0 ay1
  obtain ⟨ax0, ax1, ay0, ay1, _, _, _, _⟩ := box33 hb3
  have l0 : w.heap.size < w2.heap.size := by omega
  have l1 : w.heap.size + 1 < w2.heap.size := by omega
  have l2 : w.heap.size + 1 + 1 < w2.heap.size := by omega
  go_wp2_with fail
  refine (empty_any _ _ (by omega) (by omega)).mono ?_
  rintro e w3 ⟨g, hg, rfl, hrow, hb4⟩
  have hs3 : w2.heap.size + 1 ≤ w3.heap.size := by have := bsz hb4; simpa using this
  have hgl := hrow.lt
  have hg' : w2.heap.size + 1 ≤ g := by simpa using hg
  go_wp2
  have hb5 := (nxt hb3 (by omega) hb4).alloc (by omega) (.cells #[.int .i64 n, .slice (some ⟨g, 0, none⟩) (nw n) (nw n)] 24)
  have hbY := (nxt hbX (by omega) hb4).alloc (by omega) (.cells #[.int .i64 n, .slice (some ⟨g, 0, none⟩) (nw n) (nw n)] 24)
  have hbF := (sz1 hb4).alloc hs3 (.cells #[.int .i64 n, .slice (some ⟨g, 0, none⟩) (nw n) (nw n)] 24)
  have tf := hbF.cell (p := ⟨w2.heap.size, 2, none⟩) (by simp only []; omega)
  obtain ⟨q1, q2⟩ := box2 (refl1 w3 (.cells #[.int .i64 n, .slice (some ⟨g, 0, none⟩) (nw n) (nw n)] 24))
  have hrow3 := hrow.alloc (.cells #[.int .i64 n, .slice (some ⟨g, 0, none⟩) (nw n) (nw n)] 24)
  have hs4 : (w3.alloc (.cells #[.int .i64 n, .slice (some ⟨g, 0, none⟩) (nw n) (nw n)] 24)).heap.size = w3.heap.size + 1 := by simp
  clear hb3 hb4 hbX hbF hrow hg ax0 ax1 ay0 ay1
  generalize w3.alloc (.cells #[.int .i64 n, .slice (some ⟨g, 0, none⟩) (nw n) (nw n)] 24) = w4 at *
  obtain ⟨ax0, ax1, ay0, ay1, az0, az1, fz0, fz1⟩ := box33 hb5
  simp at tf
  clear hb5
  go_loopw [46] (fun i wr => ∃ k : Nat, k ≤ nw n ∧ i = .int .i64 k ∧ w4.grownBy wr (some g) ∧ wr.rowIs g 61 (nw n) (cmC 3 xs ys k)) (fun i _ => nw n - (intOf i).toNat)
  case atStart => exact ⟨0, Nat.zero_le _, rfl, World.grownBy.refl _ _, hrow3.congr fun j _ => by simp [cmC]⟩
  case round =>
    obtain ⟨k, hk, rfl, hgb, hrow⟩ := hrel
    have hsr := hgb.size
    have cx1 := (gb_cell hgb w.heap.size 1 (by omega) (by omega)).trans ax1
    have cy1 := (gb_cell hgb (w.heap.size + 1) 1 (by omega) (by omega)).trans ay1
    have cf1 := (gb_cell hgb w2.heap.size 2 (by omega) (by omega)).trans tf
    have cn1 := (gb_cell hgb w3.heap.size 1 (by omega) (by omega)).trans q2
    have cn0 := (gb_cell hgb w3.heap.size 0 (by omega) (by omega)).trans q1
    by_cases hlt : k < nw n
    · obtain ⟨b, o, rfl, hbl, hcell⟩ := hx.2.2 k (by rw [HL1.out]; exact hlt)
      obtain ⟨b2, o2, rfl, hbl2, hcell2⟩ := hy.2.2 k (by rw [HL2.out]; exact hlt)
      rw [← hbY.cell (p := ⟨b, o + k, none⟩) hbl] at hcell
      rw [← hbY.cell (p := ⟨b2, o2 + k, none⟩) hbl2] at hcell2
      have cc := (gb_cell hgb b (o + k) (by omega) (by omega)).trans hcell
      have cc2 := (gb_cell hgb b2 (o2 + k) (by omega) (by omega)).trans hcell2
      have cg := hrow.cell hlt
      have cf := hrow.frozen k
      have hcm := cmW_at 3 xs ys k (by rw [HL1.out]; exact hlt)
      have hlx : (k : Int) < (xs.length : Int) := by rw [HL1.out]; omega
      have hly : (k : Int) < (ys.length : Int) := by rw [HL2.out]; omega
      have hlt' : (k : Int) < (nw n : Int) := by omega
      have hk0 : 0 ≤ (k : Int) := by omega
      have hC := fun W => c55 (xs.getD k 0) (ys.getD k 0) W (hx.lt k) (hy.lt k)
      rw [← hcm] at hC
      have HC := Lib.hid hC
      generalize hv : (cmW 3 xs ys).getD k 0 = v at *
      have HV := Lib.hid hv
      generalize xs.getD k 0 = x at *
      generalize ys.getD k 0 = y at *
      have HS := Lib.hid (show ∀ w', w4.grownBy w' (some g) → w'.cell? ⟨w3.heap.size, 1, none⟩ = some (.slice (some ⟨g, 0, none⟩) (nw n) (nw n)) ∧ w'.cell? ⟨w2.heap.size, 2, none⟩ = some (.func (Fn.func 55) #[] #[]) ∧ w'.cell? ⟨w.heap.size, 1, none⟩ = some (.slice (some ⟨b, o, none⟩) xs.length c) ∧ w'.cell? ⟨w.heap.size + 1, 1, none⟩ = some (.slice (some ⟨b2, o2, none⟩) ys.length d) ∧ w'.cell? ⟨b, o + k, none⟩ = some (.int .u64 (x : Int)) ∧ w'.cell? ⟨b2, o2 + k, none⟩ = some (.int .u64 (y : Int)) from fun w' hW => ⟨(gb_cell hW w3.heap.size 1 (by omega) (by omega)).trans q2, (gb_cell hW w2.heap.size 2 (by omega) (by omega)).trans tf, (gb_cell hW w.heap.size 1 (by omega) (by omega)).trans ax1, (gb_cell hW (w.heap.size + 1) 1 (by omega) (by omega)).trans ay1, (gb_cell hW b (o + k) (by omega) (by omega)).trans hcell, (gb_cell hW b2 (o2 + k) (by omega) (by omega)).trans hcell2⟩)
      have hi0 : IntKind.i64.wrap (3 - 1) = 2 := by decide
      have hi1 : IntKind.i64.wrap 2 = 2 := by decide
      clear hv hC hcm hcell hcell2 ax0 ax1 ay0 ay1 az0 az1 fz0 fz1 q1 q2 tf hrow3
      go_wp2
      go_region_held3 (fun w' => w'.cell? ⟨w3.heap.size, 1, none⟩ = some (.slice (some ⟨g, 0, none⟩) (nw n) (nw n)) ∧ w'.cell? ⟨w2.heap.size, 2, none⟩ = some (.func (Fn.func 55) #[] #[]) ∧ w'.cell? ⟨w.heap.size, 1, none⟩ = some (.slice (some ⟨b, o, none⟩) xs.length c) ∧ w'.cell? ⟨w.heap.size + 1, 1, none⟩ = some (.slice (some ⟨b2, o2, none⟩) ys.length d) ∧ w'.cell? ⟨b, o + k, none⟩ = some (.int .u64 (x : Int)) ∧ w'.cell? ⟨b2, o2 + k, none⟩ = some (.int .u64 (y : Int))) (first | exact HS.out _ (gb_d (gb_set hgb _ _)) | exact HS.out _ (gb_d hgb) | exact HS.out _ (gb_d (gb_d hgb)) | exact HS.out _ hgb)
        (first | (go_at_call 55; refine (HC.out _).mono ?_; rintro e w' ⟨rfl, rfl⟩))
      go_wp2
      go_roundw
      case rel => exact ⟨k + 1, by omega, by go_num, gb_d (gb_set hgb _ _), (hrow.set k _).congr fun j hj => by
        unfold cmC
        by_cases e : j = k
        · subst e
          rw [if_pos rfl, if_pos (by omega), HV.out]
        · rw [if_neg e]
          by_cases e2 : j < k
          · rw [if_pos e2, if_pos (by omega)]
          · rw [if_neg e2, if_neg (by omega)]⟩
      case measure => simp [intOf]; omega
    · obtain rfl : k = nw n := by omega
      have cz0 := (gb_cell hgb (w.heap.size + 1 + 1) 0 (by omega) (by omega)).trans az0
      have cz1 := (gb_cell hgb (w.heap.size + 1 + 1) 1 (by omega) (by omega)).trans az1
      have cfz0 := (gb_frozen hgb (w.heap.size + 1 + 1) 0 (by omega) (by omega)).trans fz0
      have cfz1 := (gb_frozen hgb (w.heap.size + 1 + 1) 1 (by omega) (by omega)).trans fz1
      clear ax0 ax1 ay0 ay1 az0 az1 fz0 fz1 q1 q2 tf hrow3
      go_wp2
      have hlen : (cmW 3 xs ys).length = nw n := by rw [← HL1.out]; simp [cmW]
      refine bodyPost_ret (v := .tuple #[.agg #[.int .i64 n, .slice (some ⟨g, 0, none⟩) (nw n) (nw n)], .int .i64 0]) (by simp [results, Tryd.results29, go_sem, cz0, cz1]) rfl ⟨some ⟨g, 0, none⟩, nw n, by rw [hlen], nil0_some _, from_some (by omega), ?_, ?_⟩
      · refine Rd.of_row (len := 0) _ ((hrow.setOther (a := ⟨w.heap.size + 1 + 1, 0, none⟩) (by simp only []; omega) _).setOther (a := ⟨w.heap.size + 1 + 1, 1, none⟩) (by simp only []; omega) _) (by omega) ?_ (by omega) fun j hj => by
          unfold cmC
          rw [if_pos (by omega)]
        exact cmW_lt 3 xs ys hx.lt hy.lt
      · exact (((hbY.grown hgb (by omega) (fun k hk => by injection hk with hk; omega)).setCell (by simp only []; omega) _).setCell (by simp only []; omega) _)
set_option maxRecDepth 100000 in
set_option maxHeartbeats 1000000 in
theorem comb4 (n : Int) (A B : Option Addr) (c d : Nat) (xs ys : List Nat) (w : World) (hx : Rd w A xs) (hy : Rd w B ys) (h0 : chkI n xs = 0) (h1 : chkI n ys = 0) :
    Calls Tryd.prog 29 #[.agg #[.int .i64 n, .slice A xs.length c], .agg #[.int .i64 n, .slice B ys.length d], .int .i64 4] w (RetS w n (cmW 4 xs ys) 0) := by
  obtain ⟨g1, g2, _, g4⟩ := chk_good h0
  obtain ⟨_, _, _, g5⟩ := chk_good h1
  have hlen : ys.length = xs.length := by omega
  have hnw : nw n ≤ 100 := by unfold nw; omega
  have K1 := fun W hR => check_any n A c xs W hR
  have K2 := fun W hR => check_any n B d ys W hR
  rw [h0] at K1
  rw [h1] at K2
  have HK1 := Lib.hid K1
  have HK2 := Lib.hid K2
  have HL1 := Lib.hid g4
  have HL2 := Lib.hid g5
  clear K1 K2 h0 h1 g4 g5 hlen
  go_enter Tryd.func29, Tryd.ntmps29
  go_wp2_with fail
  refine (HK1.out _ (((hx.alloc _).alloc _).alloc _)).mono ?_
  rintro e w1 ⟨rfl, hb⟩
  have hs1 : w.heap.size + 1 + 1 + 1 ≤ w1.heap.size := by have := bsz hb; simpa using this
  have hb1 : Below (w.heap.size + 1 + 1 + 1) (((w.alloc (.cells #[.int .i64 n, .slice A xs.length c] 24)).alloc (.cells #[.int .i64 n, .slice B ys.length d] 24)).alloc (.cells #[.int .i64 0, .slice none 0 0] 24)) w1 := by simpa using hb
  have hbW := ((((Below.refl _ _).alloc (Nat.le_refl _) _).alloc (by simp) _).alloc (by simp; omega) _).trans (hb1.mono (B' := w.heap.size) (by omega))
  clear hb
  obtain ⟨ax0, ax1, ay0, ay1, _, _, _, _⟩ := box33 hb1
  go_wp2_with fail
  refine (HK2.out _ (hy.below hbW)).mono ?_
  rintro e w2 ⟨rfl, hb2⟩
  have hs2 := bsz hb2
  have hb3 := hb1.trans (hb2.mono (by omega))
  have hbX := hbW.trans (hb2.mono (by omega))
  clear hb1 hb2 hbW ax0 ax1 ay0 ay1
  obtain ⟨ax0, ax1, ay0, ay1, _, _, _, _⟩ := box33 hb3
  have l0 : w.heap.size < w2.heap.size := by omega
  have l1 : w.heap.size + 1 < w2.heap.size := by omega
  have l2 : w.heap.size + 1 + 1 < w2.heap.size := by omega
  go_wp2_with fail
  refine (empty_any _ _ (by omega) (by omega)).mono ?_
  rintro e w3 ⟨g, hg, rfl, hrow, hb4⟩
  have hs3 : w2.heap.size + 1 ≤ w3.heap.size := by have := bsz hb4; simpa using this
  have hgl := hrow.lt
  have hg' : w2.heap.size + 1 ≤ g := by simpa using hg
  go_wp2
  have hb5 := (nxt hb3 (by omega) hb4).alloc (by omega) (.cells #[.int .i64 n, .slice (some ⟨g, 0, none⟩) (nw n) (nw n)] 24)
  have hbY := (nxt hbX (by omega) hb4).alloc (by omega) (.cells #[.int .i64 n, .slice (some ⟨g, 0, none⟩) (nw n) (nw n)] 24)
  have hbF := (sz1 hb4).alloc hs3 (.cells #[.int .i64 n, .slice (some ⟨g, 0, none⟩) (nw n) (nw n)] 24)
  have tf := hbF.cell (p := ⟨w2.heap.size, 3, none⟩) (by simp only []; omega)
  obtain ⟨q1, q2⟩ := box2 (refl1 w3 (.cells #[.int .i64 n, .slice (some ⟨g, 0, none⟩) (nw n) (nw n)] 24))
  have hrow3 := hrow.alloc (.cells #[.int .i64 n, .slice (some ⟨g, 0, none⟩) (nw n) (nw n)] 24)
  have hs4 : (w3.alloc (.cells #[.int .i64 n, .slice (some ⟨g, 0, none⟩) (nw n) (nw n)] 24)).heap.size = w3.heap.size + 1 := by simp
  clear hb3 hb4 hbX hbF hrow hg ax0 ax1 ay0 ay1
  generalize w3.alloc (.cells #[.int .i64 n, .slice (some ⟨g, 0, none⟩) (nw n) (nw n)] 24) = w4 at *
  obtain ⟨ax0, ax1, ay0, ay1, az0, az1, fz0, fz1⟩ := box33 hb5
  simp at tf
  clear hb5
  go_loopw [46] (fun i wr => ∃ k : Nat, k ≤ nw n ∧ i = .int .i64 k ∧ w4.grownBy wr (some g) ∧ wr.rowIs g 61 (nw n) (cmC 4 xs ys k)) (fun i _ => nw n - (intOf i).toNat)
  case atStart => exact ⟨0, Nat.zero_le _, rfl, World.grownBy.refl _ _, hrow3.congr fun j _ => by simp [cmC]⟩
  case round =>
    obtain ⟨k, hk, rfl, hgb, hrow⟩ := hrel
    have hsr := hgb.size
    have cx1 := (gb_cell hgb w.heap.size 1 (by omega) (by omega)).trans ax1
    have cy1 := (gb_cell hgb (w.heap.size + 1) 1 (by omega) (by omega)).trans ay1
    have cf1 := (gb_cell hgb w2.heap.size 3 (by omega) (by omega)).trans tf
    have cn1 := (gb_cell hgb w3.heap.size 1 (by omega) (by omega)).trans q2
    have cn0 := (gb_cell hgb w3.heap.size 0 (by omega) (by omega)).trans q1
    by_cases hlt : k < nw n
    · obtain ⟨b, o, rfl, hbl, hcell⟩ := hx.2.2 k (by rw [HL1.out]; exact hlt)
      obtain ⟨b2, o2, rfl, hbl2, hcell2⟩ := hy.2.2 k (by rw [HL2.out]; exact hlt)
      rw [← hbY.cell (p := ⟨b, o + k, none⟩) hbl] at hcell
      rw [← hbY.cell (p := ⟨b2, o2 + k, none⟩) hbl2] at hcell2
      have cc := (gb_cell hgb b (o + k) (by omega) (by omega)).trans hcell
      have cc2 := (gb_cell hgb b2 (o2 + k) (by omega) (by omega)).trans hcell2
      have cg := hrow.cell hlt
      have cf := hrow.frozen k
      have hcm := cmW_at 4 xs ys k (by rw [HL1.out]; exact hlt)
      have hlx : (k : Int) < (xs.length : Int) := by rw [HL1.out]; omega
      have hly : (k : Int) < (ys.length : Int) := by rw [HL2.out]; omega
      have hlt' : (k : Int) < (nw n : Int) := by omega
      have hk0 : 0 ≤ (k : Int) := by omega
      have hC := fun W => c56 (xs.getD k 0) (ys.getD k 0) W (hx.lt k) (hy.lt k)
      rw [← hcm] at hC
      have HC := Lib.hid hC
      generalize hv : (cmW 4 xs ys).getD k 0 = v at *
      have HV := Lib.hid hv
      generalize xs.getD k 0 = x at *
      generalize ys.getD k 0 = y at *
      have HS := Lib.hid (show ∀ w', w4.grownBy w' (some g) → w'.cell? ⟨w3.heap.size, 1, none⟩ = some (.slice (some ⟨g, 0, none⟩) (nw n) (nw n)) ∧ w'.cell? ⟨w2.heap.size, 3, none⟩ = some (.func (Fn.func 56) #[] #[]) ∧ w'.cell? ⟨w.heap.size, 1, none⟩ = some (.slice (some ⟨b, o, none⟩) xs.length c) ∧ w'.cell? ⟨w.heap.size + 1, 1, none⟩ = some (.slice (some ⟨b2, o2, none⟩) ys.length d) ∧ w'.cell? ⟨b, o + k, none⟩ = some (.int .u64 (x : Int)) ∧ w'.cell? ⟨b2, o2 + k, none⟩ = some (.int .u64 (y : Int)) from fun w' hW => ⟨(gb_cell hW w3.heap.size 1 (by omega) (by omega)).trans q2, (gb_cell hW w2.heap.size 3 (by omega) (by omega)).trans tf, (gb_cell hW w.heap.size 1 (by omega) (by omega)).trans ax1, (gb_cell hW (w.heap.size + 1) 1 (by omega) (by omega)).trans ay1, (gb_cell hW b (o + k) (by omega) (by omega)).trans hcell, (gb_cell hW b2 (o2 + k) (by omega) (by omega)).trans hcell2⟩)
      have hi0 : IntKind.i64.wrap (4 - 1) = 3 := by decide
      have hi1 : IntKind.i64.wrap 3 = 3 := by decide
      clear hv hC hcm hcell hcell2 ax0 ax1 ay0 ay1 az0 az1 fz0 fz1 q1 q2 tf hrow3
      go_wp2
      go_region_held3 (fun w' => w'.cell? ⟨w3.heap.size, 1, none⟩ = some (.slice (some ⟨g, 0, none⟩) (nw n) (nw n)) ∧ w'.cell? ⟨w2.heap.size, 3, none⟩ = some (.func (Fn.func 56) #[] #[]) ∧ w'.cell? ⟨w.heap.size, 1, none⟩ = some (.slice (some ⟨b, o, none⟩) xs.length c) ∧ w'.cell? ⟨w.heap.size + 1, 1, none⟩ = some (.slice (some ⟨b2, o2, none⟩) ys.length d) ∧ w'.cell? ⟨b, o + k, none⟩ = some (.int .u64 (x : Int)) ∧ w'.cell? ⟨b2, o2 + k, none⟩ = some (.int .u64 (y : Int))) (first | exact HS.out _ (gb_d (gb_set hgb _ _)) | exact HS.out _ (gb_d hgb) | exact HS.out _ (gb_d (gb_d hgb)) | exact HS.out _ hgb)
        (first | (go_at_call 56; refine (HC.out _).mono ?_; rintro e w' ⟨rfl, rfl⟩))
      go_wp2
      go_roundw
      case rel => exact ⟨k + 1, by omega, by go_num, gb_d (gb_set hgb _ _), (hrow.set k _).congr fun j hj => by
        unfold cmC
        by_cases e : j = k
        · subst e
          rw [if_pos rfl, if_pos (by omega), HV.out]
        · rw [if_neg e]
          by_cases e2 : j < k
          · rw [if_pos e2, if_pos (by omega)]
          · rw [if_neg e2, if_neg (by omega)]⟩
      case measure => simp [intOf]; omega
    · obtain rfl : k = nw n := by omega
      have cz0 := (gb_cell hgb (w.heap.size + 1 + 1) 0 (by omega) (by omega)).trans az0
      have cz1 := (gb_cell hgb (w.heap.size + 1 + 1) 1 (by omega) (by omega)).trans az1
      have cfz0 := (gb_frozen hgb (w.heap.size + 1 + 1) 0 (by omega) (by omega)).trans fz0
      have cfz1 := (gb_frozen hgb (w.heap.size + 1 + 1) 1 (by omega) (by omega)).trans fz1
      clear ax0 ax1 ay0 ay1 az0 az1 fz0 fz1 q1 q2 tf hrow3
      go_wp2
      have hlen : (cmW 4 xs ys).length = nw n := by rw [← HL1.out]; simp [cmW]
      refine bodyPost_ret (v := .tuple #[.agg #[.int .i64 n, .slice (some ⟨g, 0, none⟩) (nw n) (nw n)], .int .i64 0]) (by simp [results, Tryd.results29, go_sem, cz0, cz1]) rfl ⟨some ⟨g, 0, none⟩, nw n, by rw [hlen], nil0_some _, from_some (by omega), ?_, ?_⟩
      · refine Rd.of_row (len := 0) _ ((hrow.setOther (a := ⟨w.heap.size + 1 + 1, 0, none⟩) (by simp only []; omega) _).setOther (a := ⟨w.heap.size + 1 + 1, 1, none⟩) (by simp only []; omega) _) (by omega) ?_ (by omega) fun j hj => by
          unfold cmC
          rw [if_pos (by omega)]
        exact cmW_lt 4 xs ys hx.lt hy.lt
      · exact (((hbY.grown hgb (by omega) (fun k hk => by injection hk with hk; omega)).setCell (by simp only []; omega) _).setCell (by simp only []; omega) _)
end Go.Proofs.YtkifcjjnpahdmaaDoor
