import Derived.Test.YtkifcjjnpahdmaaDoorB1
namespace Go.Proofs.YtkifcjjnpahdmaaDoor
open Go.RowKit
open Go.Deep

set_option maxHeartbeats 400000 in
theorem rnew_bad (n : Int) (w : World) (h : n < 0 ∨ 1024 < n) :
    Calls Tryd.prog 15 #[.int .i64 n] w fun e w' => e = .returned (.tuple #[.agg #[.int .i64 0, .slice none 0 0], .int .i64 2]) ∧ Below w.heap.size w w' := by
  rcases Int.lt_or_le n 0 with h0 | h0
  · clear h
    go_enter Tryd.func15, Tryd.ntmps15
    go_wp2
    exact bodyPost_ret (v := .tuple #[.agg #[.int .i64 0, .slice none 0 0], .int .i64 2]) (by simp [results, Tryd.results15, go_sem]) rfl ⟨rfl, (Below.refl _ _).alloc (Nat.le_refl _) _⟩
  · have h1 : 1024 < n := by omega
    clear h
    go_enter Tryd.func15, Tryd.ntmps15
    go_wp2
    exact bodyPost_ret (v := .tuple #[.agg #[.int .i64 0, .slice none 0 0], .int .i64 2]) (by simp [results, Tryd.results15, go_sem]) rfl ⟨rfl, (Below.refl _ _).alloc (Nat.le_refl _) _⟩
set_option maxHeartbeats 400000 in
theorem rnew_ok (n : Int) (w : World) (h0 : 0 ≤ n) (h1 : n ≤ 1024) :
    Calls Tryd.prog 15 #[.int .i64 n] w fun e w' => ∃ g, e = .returned (.tuple #[.agg #[.int .i64 n, .slice (some ⟨g, 0, none⟩) (nw n) (nw n)], .int .i64 0]) ∧ w.heap.size ≤ g ∧ w'.rowIs g 61 (nw n) (fun _ => .int .u64 0) ∧ Below w.heap.size w w' := by
  have hn : nw n ≤ 10000 := by unfold nw; omega
  have hmk := fun W => run_make_row' (P := Tryd.prog) 22 61 (.int .u64 0) 8 Tryd.underlying22 info61 rfl .i64 .i64 (nw n) (by omega) (by omega) W
  have h64 : (n + 63) / 64 = (nw n : Int) := by unfold nw; omega
  go_enter Tryd.func15, Tryd.ntmps15
  go_wp2
  refine bodyPost_ret (v := .tuple #[.agg #[.int .i64 n, .slice (some ⟨w.heap.size + 1, 0, none⟩) (nw n) (nw n)], .int .i64 0]) (by simp [results, Tryd.results15, go_sem]) rfl ⟨w.heap.size + 1, rfl, by omega, ?_, ?_⟩
  · have := World.rowIs_made (w.alloc (.cells #[.int .i64 n, .slice (some ⟨w.heap.size + 1, 0, none⟩) (nw n) (nw n)] 24)) (.int .u64 0) (nw n) 61
    simpa using this
  · exact ((Below.refl _ _).alloc (Nat.le_refl _) _).alloc (by simp) _
theorem rnew_any (n : Int) (w : World) : Calls Tryd.prog 15 #[.int .i64 n] w (RetS w (newN n) (newW n) (newE n)) := by
  unfold newE newN newW
  by_cases h : n < 0 ∨ 1024 < n
  · rw [if_pos h, if_pos h, if_pos h]
    exact (rnew_bad n w h).mono fun e w' ⟨he, hb⟩ => ⟨none, 0, he, fun _ => rfl, from_none _, Rd.zero, hb⟩
  · rw [if_neg h, if_neg h, if_neg h]
    refine (rnew_ok n w (by omega) (by omega)).mono fun e w' ⟨g, he, hg, hr, hb⟩ => ⟨some ⟨g, 0, none⟩, nw n, by rw [he]; simp, nil0_some _, from_some hg, ?_, hb⟩
    exact Rd.of_row (len := 0) _ hr (by simp) (by simp) (by simp; unfold nw; omega) fun j _ => by rw [getD_rep]; rfl

/-! Has of the reference -/
set_option maxHeartbeats 400000 in
theorem rHas_bad (n : Int) (A : Option Addr) (cap : Nat) (ws : List Nat) (i : Int) (w : World) (hr : Rd w A ws) (hne : chkI n ws ≠ 0) :
    Calls Tryd.prog 20 #[.agg #[.int .i64 n, .slice A ws.length cap], .int .i64 i] w fun e w' => e = .returned (.tuple #[.bool false, .int .i64 (chkI n ws)]) ∧ Below w.heap.size w w' := by
  have hC := rcheck_any n A cap ws _ (hr.alloc (.cells #[.int .i64 n, .slice A ws.length cap] 24))
  have hb0 : (chkI n ws != 0) = true := by simpa using hne
  have HC := Lib.hid hC
  clear hC
  go_enter Tryd.func20, Tryd.ntmps20
  go_wp2_with fail
  refine HC.out.mono ?_
  rintro e w1 ⟨rfl, hb⟩
  go_wp2
  go_ret2
  exact ⟨rfl, ((Below.refl _ _).alloc (Nat.le_refl _) _).trans (hb.mono (by simp))⟩
set_option maxHeartbeats 400000 in
theorem rHas_out (n : Int) (A : Option Addr) (cap : Nat) (ws : List Nat) (i : Int) (w : World) (hr : Rd w A ws) (h0 : chkI n ws = 0) (hi : i < 0 ∨ n ≤ i) :
    Calls Tryd.prog 20 #[.agg #[.int .i64 n, .slice A ws.length cap], .int .i64 i] w fun e w' => e = .returned (.tuple #[.bool false, .int .i64 2]) ∧ Below w.heap.size w w' := by
  have hC := rcheck_any n A cap ws _ (hr.alloc (.cells #[.int .i64 n, .slice A ws.length cap] 24))
  rw [h0] at hC
  have HC := Lib.hid hC
  clear hC h0
  rcases Int.lt_or_le i 0 with h1 | h1
  · clear hi
    go_enter Tryd.func20, Tryd.ntmps20
    go_wp2_with fail
    refine HC.out.mono ?_
    rintro e w1 ⟨rfl, hb⟩
    obtain ⟨hc1, hf1⟩ := bc hb
    go_wp2
    go_ret2
    exact ⟨rfl, ((Below.refl _ _).alloc (Nat.le_refl _) _).trans (hb.mono (by simp))⟩
  · have h2 : n ≤ i := by omega
    clear hi
    go_enter Tryd.func20, Tryd.ntmps20
    go_wp2_with fail
    refine HC.out.mono ?_
    rintro e w1 ⟨rfl, hb⟩
    obtain ⟨hc1, hf1⟩ := bc hb
    go_wp2
    go_ret2
    exact ⟨rfl, ((Below.refl _ _).alloc (Nat.le_refl _) _).trans (hb.mono (by simp))⟩
set_option maxHeartbeats 400000 in
theorem rHas_in (n : Int) (A : Option Addr) (cap : Nat) (ws : List Nat) (i : Int) (w : World) (hr : Rd w A ws) (h0 : chkI n ws = 0) (hi0 : 0 ≤ i) (hi1 : i < n) :
    Calls Tryd.prog 20 #[.agg #[.int .i64 n, .slice A ws.length cap], .int .i64 i] w fun e w' => e = .returned (.tuple #[.bool (bit ws i.toNat), .int .i64 0]) ∧ Below w.heap.size w w' := by
  obtain ⟨g1, g2, _, g4⟩ := chk_good h0
  have hC := rcheck_any n A cap ws _ (hr.alloc (.cells #[.int .i64 n, .slice A ws.length cap] 24))
  have hr1 := hr.alloc (.cells #[.int .i64 n, .slice A ws.length cap] 24)
  rw [h0] at hC
  have HC := Lib.hid hC
  have hl : ws.length ≤ 100 := by rw [g4]; unfold nw; omega
  have hlt : i < 64 * (ws.length : Int) := by rw [g4]; unfold nw; omega
  clear hC h0 g4
  have k1 : ¬ i < 0 := by omega
  have k2 : ¬ n ≤ i := by omega
  go_enter Tryd.func20, Tryd.ntmps20
  go_wp2_with fail
  refine HC.out.mono ?_
  rintro e w1 ⟨rfl, hb⟩
  have hR := hr1.below hb
  have hs := bsz hb
  obtain ⟨hc1, hf1⟩ := bc hb
  go_wp2_with fail
  refine (rhas_any n A cap ws i w1 hR hi0 hlt (by omega)).mono ?_
  rintro e w2 ⟨rfl, hb2⟩
  go_wp2
  go_ret2
  exact ⟨rfl, (((Below.refl _ _).alloc (Nat.le_refl _) _).trans (hb.mono (by simp))).trans (hb2.mono (by simp at hs; omega))⟩
theorem rHas_any (n : Int) (A : Option Addr) (cap : Nat) (ws : List Nat) (i : Int) (w : World) (hr : Rd w A ws) :
    Calls Tryd.prog 20 #[.agg #[.int .i64 n, .slice A ws.length cap], .int .i64 i] w fun e w' => e = .returned (.tuple #[.bool (hasVal n ws i), .int .i64 (hasErr n ws i)]) ∧ Below w.heap.size w w' := by
  unfold hasVal hasErr
  by_cases h0 : chkI n ws = 0
  · rw [if_pos h0]
    by_cases h1 : i < 0 ∨ n ≤ i
    · rw [if_pos h1]
      exact rHas_out n A cap ws i w hr h0 h1
    · rw [if_neg h1, if_pos rfl]
      exact rHas_in n A cap ws i w hr h0 (by omega) (by omega)
  · rw [if_neg h0, if_neg h0]
    exact rHas_bad n A cap ws i w hr h0

/-! Count of the reference -/
set_option maxHeartbeats 400000 in
theorem rcount_bad (n : Int) (A : Option Addr) (cap : Nat) (ws : List Nat) (f t : Int) (w : World) (hr : Rd w A ws) (hne : chkI n ws ≠ 0) :
    Calls Tryd.prog 22 #[.agg #[.int .i64 n, .slice A ws.length cap], .int .i64 f, .int .i64 t] w fun e w' => e = .returned (.tuple #[.int .i64 0, .int .i64 (chkI n ws)]) ∧ Below w.heap.size w w' := by
  have hC := rcheck_any n A cap ws _ (hr.alloc (.cells #[.int .i64 n, .slice A ws.length cap] 24))
  have hb0 : (chkI n ws != 0) = true := by simpa using hne
  have HC := Lib.hid hC
  clear hC
  go_enter Tryd.func22, Tryd.ntmps22
  go_wp2_with fail
  refine HC.out.mono ?_
  rintro e w1 ⟨rfl, hb⟩
  go_wp2
  go_ret2
  exact ⟨rfl, ((Below.refl _ _).alloc (Nat.le_refl _) _).trans (hb.mono (by simp))⟩
set_option maxHeartbeats 400000 in
theorem rcount_out (n : Int) (A : Option Addr) (cap : Nat) (ws : List Nat) (f t : Int) (w : World) (hr : Rd w A ws) (h0 : chkI n ws = 0) (hi : f < 0 ∨ t < f ∨ n < t) :
    Calls Tryd.prog 22 #[.agg #[.int .i64 n, .slice A ws.length cap], .int .i64 f, .int .i64 t] w fun e w' => e = .returned (.tuple #[.int .i64 0, .int .i64 2]) ∧ Below w.heap.size w w' := by
  have hC := rcheck_any n A cap ws _ (hr.alloc (.cells #[.int .i64 n, .slice A ws.length cap] 24))
  rw [h0] at hC
  have HC := Lib.hid hC
  clear hC h0
  rcases Int.lt_or_le f 0 with c1 | c1
  · clear hi
    go_enter Tryd.func22, Tryd.ntmps22
    go_wp2_with fail
    refine HC.out.mono ?_
    rintro e w1 ⟨rfl, hb⟩
    obtain ⟨hc1, hf1⟩ := bc hb
    go_wp2
    go_ret2
    exact ⟨rfl, ((Below.refl _ _).alloc (Nat.le_refl _) _).trans (hb.mono (by simp))⟩
  rcases Int.lt_or_le t f with c2 | c2
  · clear hi
    go_enter Tryd.func22, Tryd.ntmps22
    go_wp2_with fail
    refine HC.out.mono ?_
    rintro e w1 ⟨rfl, hb⟩
    obtain ⟨hc1, hf1⟩ := bc hb
    go_wp2
    go_ret2
    exact ⟨rfl, ((Below.refl _ _).alloc (Nat.le_refl _) _).trans (hb.mono (by simp))⟩
  have c3 : n < t := by omega
  clear hi
  go_enter Tryd.func22, Tryd.ntmps22
  go_wp2_with fail
  refine HC.out.mono ?_
  rintro e w1 ⟨rfl, hb⟩
  obtain ⟨hc1, hf1⟩ := bc hb
  go_wp2
  go_ret2
  exact ⟨rfl, ((Below.refl _ _).alloc (Nat.le_refl _) _).trans (hb.mono (by simp))⟩
theorem part_begin (ws : List Nat) (f : Nat) (t : Int) : cn (inPart ws f t) f = 0 := by
  apply cn_zero
  intro i hi
  unfold inPart
  have : decide ((f : Int) ≤ (i : Int) ∧ (i : Int) < t) = false := by simp only [decide_eq_false_iff_not]; omega
  rw [this]
  rfl
theorem part_step (ws : List Nat) (f t : Int) (k : Nat) (h0 : f ≤ k) (h1 : (k : Int) < t) : cn (inPart ws f t) (k + 1) = cn (inPart ws f t) k + (if bit ws k = true then 1 else 0) := by
  have e : inPart ws f t k = bit ws k := by
    unfold inPart
    rw [decide_eq_true ⟨h0, h1⟩, Bool.true_and]
  rw [cn, e]
theorem part_end (ws : List Nat) (f t : Int) (k m : Nat) (hk : t ≤ k) (hm : k ≤ m) : cn (inPart ws f t) m = cn (inPart ws f t) k := by
  obtain ⟨d, rfl⟩ : ∃ d, m = k + d := ⟨m - k, by omega⟩
  rw [cn_add, cn_zero _ d]
  · rfl
  · intro i _
    unfold inPart
    have : decide (f ≤ ((k + i : Nat) : Int) ∧ ((k + i : Nat) : Int) < t) = false := by simp only [decide_eq_false_iff_not]; omega
    rw [this]
    rfl
set_option maxHeartbeats 400000 in
theorem rcount_ok (n : Int) (A : Option Addr) (cap : Nat) (ws : List Nat) (f t : Nat) (w : World) (hr : Rd w A ws) (h0 : chkI n ws = 0) (hft : f ≤ t) (htn : (t : Int) ≤ n) :
    Calls Tryd.prog 22 #[.agg #[.int .i64 n, .slice A ws.length cap], .int .i64 (f : Int), .int .i64 (t : Int)] w fun e w' => e = .returned (.tuple #[.int .i64 (cn (inPart ws f t) (64 * ws.length) : Nat), .int .i64 0]) ∧ Below w.heap.size w w' := by
  obtain ⟨g1, g2, _, g4⟩ := chk_good h0
  have hC := rcheck_any n A cap ws _ (hr.alloc (.cells #[.int .i64 n, .slice A ws.length cap] 24))
  have hr1 := hr.alloc (.cells #[.int .i64 n, .slice A ws.length cap] 24)
  rw [h0] at hC
  have HC := Lib.hid hC
  have hl : ws.length ≤ 100 := by rw [g4]; unfold nw; omega
  have hlt : (t : Int) ≤ 64 * (ws.length : Int) := by rw [g4]; unfold nw; omega
  have hend := part_end ws f t t (64 * ws.length) (Int.le_refl _) (by omega)
  have HE := Lib.hid hend
  clear hC h0 g4 hend
  have k1 : ¬ (f : Int) < 0 := by omega
  have k2 : ¬ (t : Int) < (f : Int) := by omega
  have d2 : decide (t < f) = false := by simp; omega
  have d1 : decide ((f : Int) < 0) = false := by simp
  have d3 : decide (n < (t : Int)) = false := by simp; omega
  have k3 : ¬ n < (t : Int) := by omega
  go_enter Tryd.func22, Tryd.ntmps22
  go_wp2_with fail
  refine HC.out.mono ?_
  rintro e w1 ⟨rfl, hb⟩
  clear HC
  have hR1 := hr1.below hb
  have hs := bsz hb
  obtain ⟨hc1, hf1⟩ := bc hb
  have hx0 : w1.cell? ⟨w.heap.size, 0, none⟩ = some (.int .i64 n) := by rw [hc1 _ _ (by simp)]; simp
  have hx1 : w1.cell? ⟨w.heap.size, 1, none⟩ = some (.slice A ws.length cap) := by rw [hc1 _ _ (by simp)]; simp
  have hs1 : w.heap.size + 1 ≤ w1.heap.size := by simpa using hs
  have hbW := ((Below.refl _ _).alloc (Nat.le_refl _) _).trans (hb.mono (B' := w.heap.size) (by simp))
  clear hc1 hf1 hs hb
  go_wp2
  go_loopw [9, 10] (fun c i wr => ∃ k : Nat, f ≤ k ∧ k ≤ t ∧ i = .int .i64 k ∧ c = .int .i64 (cn (inPart ws f t) k : Nat) ∧ Below w1.heap.size w1 wr) (fun _ i _ => t - (intOf i).toNat)
  case atStart => exact ⟨f, Nat.le_refl _, hft, rfl, by rw [part_begin]; rfl, Below.refl _ _⟩
  case round =>
    obtain ⟨k, hk0, hk1, rfl, rfl, hb⟩ := hrel
    have hcb := cn_le (inPart ws f t) k
    have hsz := bsz hb
    have cx0 := (hb.cell (p := ⟨w.heap.size, 0, none⟩) (by simp only []; omega)).trans hx0
    have cx1 := (hb.cell (p := ⟨w.heap.size, 1, none⟩) (by simp only []; omega)).trans hx1
    have hR := hR1.below hb
    by_cases hlt2 : k < t
    · have hh := rhas_any n A cap ws (k : Int) wr hR (by omega) (by omega) (by omega)
      rw [Int.toNat_natCast] at hh
      have hst := part_step ws f t k (by omega) (by omega)
      generalize hc0 : cn (inPart ws f t) k = c at *
      have H0 := Lib.hid hc0
      have hlt3 : (k : Int) < (t : Int) := by omega
      clear hc0
      cases hbit : bit ws k with
      | true =>
        rw [hbit] at hh
        rw [hbit, if_pos rfl] at hst
        have HH := Lib.hid hh
        have HS := Lib.hid hst
        clear hh hst hbit
        go_wp2_with fail
        refine HH.out.mono ?_
        rintro e w2 ⟨rfl, hb2⟩
        go_wp2
        go_roundw
        case rel => exact ⟨k + 1, by omega, by omega, by go_num, by rw [HS.out]; go_num, hb.trans (hb2.mono hsz)⟩
        case measure => simp [intOf]; omega
      | false =>
        rw [hbit] at hh
        rw [hbit, if_neg (by simp)] at hst
        have HH := Lib.hid hh
        have HS := Lib.hid hst
        clear hh hst hbit
        go_wp2_with fail
        refine HH.out.mono ?_
        rintro e w2 ⟨rfl, hb2⟩
        go_wp2
        go_roundw
        case rel => exact ⟨k + 1, by omega, by omega, by go_num, by rw [HS.out]; go_num, hb.trans (hb2.mono hsz)⟩
        case measure => simp [intOf]; omega
    · obtain rfl : k = t := by omega
      go_wp2
      go_ret2
      exact ⟨ret2_i64 (by rw [HE.out]) rfl, hbW.trans (hb.mono (by omega))⟩
theorem rcount_any (n : Int) (A : Option Addr) (cap : Nat) (ws : List Nat) (f t : Int) (w : World) (hr : Rd w A ws) :
    Calls Tryd.prog 22 #[.agg #[.int .i64 n, .slice A ws.length cap], .int .i64 f, .int .i64 t] w fun e w' => e = .returned (.tuple #[.int .i64 (cntVal n ws f t), .int .i64 (chpI n ws f t)]) ∧ Below w.heap.size w w' := by
  unfold cntVal
  by_cases h0 : chkI n ws = 0
  · by_cases h1 : f < 0 ∨ t < f ∨ n < t
    · have e : chpI n ws f t = 2 := by unfold chpI; rw [if_neg (by simp [h0]), if_pos h1]
      rw [e, if_neg (by omega)]
      exact rcount_out n A cap ws f t w hr h0 h1
    · have e : chpI n ws f t = 0 := by unfold chpI; rw [if_neg (by simp [h0]), if_neg h1]
      rw [e, if_pos rfl]
      obtain ⟨f', rfl⟩ := Int.eq_ofNat_of_zero_le (a := f) (by omega)
      obtain ⟨t', rfl⟩ := Int.eq_ofNat_of_zero_le (a := t) (by omega)
      exact rcount_ok n A cap ws f' t' w hr h0 (by omega) (by omega)
  · have e : chpI n ws f t = chkI n ws := by unfold chpI; rw [if_pos h0]
    rw [e, if_neg h0]
    exact rcount_bad n A cap ws f t w hr h0
end Go.Proofs.YtkifcjjnpahdmaaDoor
