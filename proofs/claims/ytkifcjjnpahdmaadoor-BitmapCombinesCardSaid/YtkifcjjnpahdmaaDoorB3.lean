import Derived.Test.YtkifcjjnpahdmaaDoorB2
namespace Go.Proofs.YtkifcjjnpahdmaaDoor
open Go.RowKit
open Go.Deep

set_option maxHeartbeats 400000 in
theorem rnx_bad (n : Int) (A : Option Addr) (cap : Nat) (ws : List Nat) (f : Int) (inn : Bool) (w : World) (hr : Rd w A ws) (hne : chkI n ws ≠ 0) :
    Calls Tryd.prog 24 #[.agg #[.int .i64 n, .slice A ws.length cap], .int .i64 f, .bool inn] w fun e w' => e = .returned (.tuple #[.int .i64 0, .int .i64 (chkI n ws)]) ∧ Below w.heap.size w w' := by
  have hC := rcheck_any n A cap ws _ (hr.alloc (.cells #[.int .i64 n, .slice A ws.length cap] 24))
  have hb0 : (chkI n ws != 0) = true := by simpa using hne
  have HC := Lib.hid hC
  clear hC
  go_enter Tryd.func24, Tryd.ntmps24
  go_wp2_with fail
  refine HC.out.mono ?_
  rintro e w1 ⟨rfl, hb⟩
  go_wp2
  go_ret2
  exact ⟨rfl, ((Below.refl _ _).alloc (Nat.le_refl _) _).trans (hb.mono (by simp))⟩
set_option maxHeartbeats 400000 in
theorem rnx_out (n : Int) (A : Option Addr) (cap : Nat) (ws : List Nat) (f : Int) (inn : Bool) (w : World) (hr : Rd w A ws) (h0 : chkI n ws = 0) (hi : f < 0 ∨ n < f) :
    Calls Tryd.prog 24 #[.agg #[.int .i64 n, .slice A ws.length cap], .int .i64 f, .bool inn] w fun e w' => e = .returned (.tuple #[.int .i64 0, .int .i64 2]) ∧ Below w.heap.size w w' := by
  have hC := rcheck_any n A cap ws _ (hr.alloc (.cells #[.int .i64 n, .slice A ws.length cap] 24))
  rw [h0] at hC
  have HC := Lib.hid hC
  clear hC h0
  rcases Int.lt_or_le f 0 with c1 | c1
  · clear hi
    go_enter Tryd.func24, Tryd.ntmps24
    go_wp2_with fail
    refine HC.out.mono ?_
    rintro e w1 ⟨rfl, hb⟩
    obtain ⟨hc1, hf1⟩ := bc hb
    go_wp2
    go_ret2
    exact ⟨rfl, ((Below.refl _ _).alloc (Nat.le_refl _) _).trans (hb.mono (by simp))⟩
  have c3 : n < f := by omega
  clear hi
  go_enter Tryd.func24, Tryd.ntmps24
  go_wp2_with fail
  refine HC.out.mono ?_
  rintro e w1 ⟨rfl, hb⟩
  obtain ⟨hc1, hf1⟩ := bc hb
  go_wp2
  go_ret2
  exact ⟨rfl, ((Below.refl _ _).alloc (Nat.le_refl _) _).trans (hb.mono (by simp))⟩
set_option maxHeartbeats 400000 in
theorem rnx_ok (n : Nat) (A : Option Addr) (cap : Nat) (ws : List Nat) (f : Nat) (inn : Bool) (w : World) (hr : Rd w A ws) (h0 : chkI n ws = 0) (hfn : f ≤ n) :
    Calls Tryd.prog 24 #[.agg #[.int .i64 (n : Int), .slice A ws.length cap], .int .i64 (f : Int), .bool inn] w fun e w' => e = .returned (.tuple #[.int .i64 (if nxF n ws f inn = n then 0 else nxF n ws f inn), .int .i64 (if nxF n ws f inn = n then 6 else 0)]) ∧ Below w.heap.size w w' := by
  obtain ⟨g1, g2, _, g4⟩ := chk_good h0
  have hC := rcheck_any n A cap ws _ (hr.alloc (.cells #[.int .i64 (n : Int), .slice A ws.length cap] 24))
  have hr1 := hr.alloc (.cells #[.int .i64 (n : Int), .slice A ws.length cap] 24)
  rw [h0] at hC
  have HC := Lib.hid hC
  have hl : ws.length ≤ 100 := by rw [g4]; unfold nw; omega
  have hlt : n ≤ 64 * ws.length := by rw [g4]; unfold nw; omega
  obtain ⟨V, hV⟩ : ∃ V, V = (if nxF n ws f inn = n then 0 else nxF n ws f inn) := ⟨_, rfl⟩
  obtain ⟨E, hE⟩ : ∃ E : Int, E = (if nxF n ws f inn = n then 6 else 0) := ⟨_, rfl⟩
  have hvE : ∀ k : Nat, nxF n ws f inn = k → k < n → V = k ∧ E = 0 := fun k hk hn => by rw [hV, hE, hk, if_neg (by omega), if_neg (by omega)]; exact ⟨rfl, rfl⟩
  have hvN : nxF n ws f inn = n → V = 0 ∧ E = 6 := fun hk => by rw [hV, hE, hk, if_pos rfl, if_pos rfl]; exact ⟨rfl, rfl⟩
  rw [← hV, ← hE]
  have H1 := Lib.hid hvE
  have H2 := Lib.hid hvN
  clear hC h0 g4 hV hE hvE hvN
  have d1 : decide ((f : Int) < 0) = false := by simp
  have d2 : decide (n < f) = false := by simp; omega
  go_enter Tryd.func24, Tryd.ntmps24
  go_wp2_with fail
  refine HC.out.mono ?_
  rintro e w1 ⟨rfl, hb⟩
  clear HC
  have hR1 := hr1.below hb
  have hs := bsz hb
  obtain ⟨hc1, hf1⟩ := bc hb
  have hx0 : w1.cell? ⟨w.heap.size, 0, none⟩ = some (.int .i64 (n : Int)) := by rw [hc1 _ _ (by simp)]; simp
  have hx1 : w1.cell? ⟨w.heap.size, 1, none⟩ = some (.slice A ws.length cap) := by rw [hc1 _ _ (by simp)]; simp
  have hs1 : w.heap.size + 1 ≤ w1.heap.size := by simpa using hs
  have hbW := ((Below.refl _ _).alloc (Nat.le_refl _) _).trans (hb.mono (B' := w.heap.size) (by simp))
  clear hc1 hf1 hs hb
  go_wp2
  go_loopw [9] (fun i wr => ∃ k : Nat, f ≤ k ∧ k ≤ n ∧ i = .int .i64 k ∧ (∀ j, j < k → inNext ws f n inn j = false) ∧ Below w1.heap.size w1 wr) (fun i _ => n - (intOf i).toNat)
  case atStart => exact ⟨f, Nat.le_refl _, hfn, rfl, fun j hj => inNext_false (by omega), Below.refl _ _⟩
  case round =>
    obtain ⟨k, hk0, hk1, rfl, hno, hb⟩ := hrel
    have hsz := bsz hb
    have cx0 := (hb.cell (p := ⟨w.heap.size, 0, none⟩) (by simp only []; omega)).trans hx0
    have cx1 := (hb.cell (p := ⟨w.heap.size, 1, none⟩) (by simp only []; omega)).trans hx1
    have hR := hR1.below hb
    have HN := Lib.hid hno
    clear hno
    by_cases hlt2 : k < n
    · have hh := rhas_any n A cap ws (k : Int) wr hR (by omega) (by omega) (by omega)
      rw [Int.toNat_natCast] at hh
      have hin : inNext ws f n inn k = (bit ws k == inn) := by
        unfold inNext
        rw [decide_eq_true ⟨by omega, by omega⟩, Bool.true_and]
      have hlt3 : (k : Int) < (n : Int) := by omega
      have HH := Lib.hid hh
      generalize bit ws k = B at *
      cases hbb : (B == inn) with
      | true =>
        have hfin : nxF n ws f inn = k := by
          unfold nxF
          rw [fs_at _ _ _ k (by omega) (by rw [hin, hbb]) HN.out]
        obtain ⟨v1, v2⟩ := H1.out k hfin hlt2
        have HV1 := Lib.hid v1
        have HV2 := Lib.hid v2
        clear hh hin hfin v1 v2
        go_wp2_with fail
        refine HH.out.mono ?_
        rintro e w2 ⟨rfl, hb2⟩
        go_wp2
        go_ret2
        exact ⟨ret2_i64 HV1.out.symm HV2.out.symm, hbW.trans ((hb.trans (hb2.mono hsz)).mono (by omega))⟩
      | false =>
        rw [hbb] at hin
        have HI := Lib.hid hin
        clear hh hin
        go_wp2_with fail
        refine HH.out.mono ?_
        rintro e w2 ⟨rfl, hb2⟩
        go_wp2
        go_roundw
        case rel => exact ⟨k + 1, by omega, by omega, by go_num, fun j hj => by
          by_cases e : j = k
          · subst e; exact HI.out
          · exact HN.out j (by omega), hb.trans (hb2.mono hsz)⟩
        case measure => simp [intOf]; omega
    · obtain rfl : k = n := by omega
      have hfin : nxF k ws f inn = k := by
        unfold nxF
        rw [fs_none _ _ _ fun i hi => ?_]
        · simp
        · by_cases e : i < k
          · exact HN.out i e
          · exact inNext_false (by omega)
      obtain ⟨v1, v2⟩ := H2.out hfin
      have HV1 := Lib.hid v1
      have HV2 := Lib.hid v2
      clear hfin v1 v2
      go_wp2
      go_ret2
      exact ⟨ret2_i64 HV1.out.symm HV2.out.symm, hbW.trans (hb.mono (by omega))⟩
theorem rnx_any (n : Int) (A : Option Addr) (cap : Nat) (ws : List Nat) (f : Int) (inn : Bool) (w : World) (hr : Rd w A ws) :
    Calls Tryd.prog 24 #[.agg #[.int .i64 n, .slice A ws.length cap], .int .i64 f, .bool inn] w fun e w' => e = .returned (.tuple #[.int .i64 (nxVal n ws f inn), .int .i64 (nxErr n ws f inn)]) ∧ Below w.heap.size w w' := by
  unfold nxVal nxErr
  by_cases h0 : chkI n ws = 0
  · by_cases h1 : f < 0 ∨ n < f
    · have e : chpI n ws f n = 2 := by unfold chpI; rw [if_neg (by simp [h0]), if_pos (by omega)]
      rw [e, if_neg (by omega), if_neg (by omega)]
      exact rnx_out n A cap ws f inn w hr h0 h1
    · have e : chpI n ws f n = 0 := by unfold chpI; rw [if_neg (by simp [h0]), if_neg (by omega)]
      rw [e, if_pos rfl, if_pos rfl]
      obtain ⟨f', rfl⟩ := Int.eq_ofNat_of_zero_le (a := f) (by omega)
      obtain ⟨n', rfl⟩ := Int.eq_ofNat_of_zero_le (a := n) (by omega)
      exact rnx_ok n' A cap ws f' inn w hr h0 (by omega)
  · have e : chpI n ws f n = chkI n ws := by unfold chpI; rw [if_pos h0]
    rw [e, if_neg h0, if_neg h0]
    exact rnx_bad n A cap ws f inn w hr h0
end Go.Proofs.YtkifcjjnpahdmaaDoor
