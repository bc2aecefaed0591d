import Derived.Test.YtkifcjjnpahdmaaDoorA10
namespace Go.Proofs.YtkifcjjnpahdmaaDoor
open Go.RowKit
open Go.Deep

set_option maxHeartbeats 400000 in
theorem rhas_step (n : Int) (b o cap len : Nat) (k j r x : Nat) (B : Bool) (w : World) (hk : (k : Int) ≤ 1000000) 
    (hj : (k : Int) / 64 = (j : Int)) (hr : (k : Int) % 64 = (r : Int)) (hr2 : r < 64) (hj2 : (j : Int) < (len : Int)) (hb0 : b < w.heap.size) (hc : w.cell? ⟨b, o + j, none⟩ = some (.int .u64 (x : Int)))
    (hB : (bits .and .u64 ((x : Int) / 2 ^ r) 1 == 1) = B) :
    Calls Tryd.prog 46 #[.agg #[.int .i64 n, .slice (some ⟨b, o, none⟩) len cap], .int .i64 (k : Int)] w fun e w' => e = .returned (.bool B) ∧ Below w.heap.size w w' := by
  go_enter Tryd.func46, Tryd.ntmps46
  go_wp2
  go_ret
  exact ⟨rfl, (Below.refl _ _).alloc (Nat.le_refl _) _⟩
theorem low_bit (x r : Nat) (hx : x < 18446744073709551616) : (bits .and .u64 ((x : Int) / 2 ^ r) 1 == 1) = x.testBit r := by
  have e : (x : Int) / 2 ^ r = ((x / 2 ^ r : Nat) : Int) := by simp
  have hl : x / 2 ^ r < 18446744073709551616 := Nat.lt_of_le_of_lt (Nat.div_le_self _ _) hx
  rw [e, show (1 : Int) = ((1 : Nat) : Int) from rfl, bits_and_u64_nat _ 1 hl (by omega), Nat.and_one_is_mod, Nat.testBit_eq_decide_div_mod_eq]
  generalize x / 2 ^ r = y
  rw [Bool.eq_iff_iff]
  simp
  omega
theorem rhas_any (n : Int) (A : Option Addr) (cap : Nat) (ws : List Nat) (i : Int) (w : World) (hr : Rd w A ws) (h0 : 0 ≤ i) (h1 : i < 64 * (ws.length : Int)) (hl : ws.length ≤ 1000) :
    Calls Tryd.prog 46 #[.agg #[.int .i64 n, .slice A ws.length cap], .int .i64 i] w fun e w' => e = .returned (.bool (bit ws i.toNat)) ∧ Below w.heap.size w w' := by
  obtain ⟨k, rfl⟩ := Int.eq_ofNat_of_zero_le h0
  obtain ⟨b, o, rfl, hb, hc⟩ := hr.2.2 (k / 64) (by omega)
  exact rhas_step n b o cap ws.length k (k / 64) (k % 64) _ _ w (by omega) (by omega) (by omega) (by omega) (by omega) hb hc (low_bit _ _ (hr.lt _))

theorem fitB_iff (n : Int) (ws : List Nat) (h0 : 0 ≤ n) (hx : ∀ j, ws.getD j 0 < 18446744073709551616) : fitB n ws = true ↔ ws.length = nw n ∧ ∀ i : Nat, n ≤ i → i < 64 * ws.length → bit ws i = false := by
  unfold fitB
  by_cases hl : ws.length = nw n
  · rw [if_pos hl]
    by_cases hz : ws.length = 0
    · rw [if_pos hz]
      exact ⟨fun _ => ⟨hl, fun i _ hi => by omega⟩, fun _ => rfl⟩
    · rw [if_neg hz]
      have hb : ∀ j, j < 64 → (andn (ws.getD (ws.length - 1) 0) (maskI ((ws.length - 1 : Nat) : Int) 0 n)).testBit j = ((ws.getD (ws.length - 1) 0).testBit j && decide (n ≤ 64 * ((ws.length - 1 : Nat) : Int) + j)) := by
        intro j hj
        rw [testBit_andn _ _ _ (maskI_lt _ _ _) hj, testBit_maskI _ _ _ _ hj]
        congr 1
        rw [Bool.eq_iff_iff]
        simp only [Bool.not_eq_true', decide_eq_true_eq, decide_eq_false_iff_not]
        omega
      have hnl : 64 * ((ws.length - 1 : Nat) : Int) < n := by unfold nw at hl; omega
      constructor
      · intro h
        have h' : andn (ws.getD (ws.length - 1) 0) (maskI ((ws.length - 1 : Nat) : Int) 0 n) = 0 := by simpa using h
        refine ⟨hl, fun i hi hi2 => ?_⟩
        have e : i = 64 * (ws.length - 1) + (i - 64 * (ws.length - 1)) := by omega
        have g := hb (i - 64 * (ws.length - 1)) (by omega)
        rw [h', Nat.zero_testBit] at g
        rw [e, bit_at _ _ _ (by omega)]
        have d : decide (n ≤ 64 * ((ws.length - 1 : Nat) : Int) + ((i - 64 * (ws.length - 1) : Nat) : Int)) = true := by
          simp only [decide_eq_true_eq]
          omega
        rw [d, Bool.and_true] at g
        exact g.symm
      · rintro ⟨_, h⟩
        have h' : andn (ws.getD (ws.length - 1) 0) (maskI ((ws.length - 1 : Nat) : Int) 0 n) = 0 := by
          apply Nat.eq_of_testBit_eq
          intro j
          rw [Nat.zero_testBit]
          rcases Nat.lt_or_ge j 64 with hj | hj
          · rw [hb j hj]
            by_cases hd : n ≤ 64 * ((ws.length - 1 : Nat) : Int) + j
            · have := h (64 * (ws.length - 1) + j) (by omega) (by omega)
              rw [bit_at _ _ _ hj] at this
              rw [this]
              rfl
            · simp only [decide_eq_false hd, Bool.and_false]
          · exact testBit_big _ _ (andn_lt _ _ (hx _)) hj
        rw [h']
        rfl
  · rw [if_neg hl]
    simp [hl]

set_option maxHeartbeats 400000 in
theorem rcheck_any (n : Int) (A : Option Addr) (cap : Nat) (ws : List Nat) (w : World) (hr : Rd w A ws) :
    Calls Tryd.prog 18 #[.agg #[.int .i64 n, .slice A ws.length cap]] w fun e w' => e = .returned (.int .i64 (chkI n ws)) ∧ Below w.heap.size w w' := by
  have hlen := hr.2.1
  rcases Int.lt_or_le n 0 with h0 | h0
  · have e : chkI n ws = 2 := by unfold chkI; rw [if_pos (.inl h0)]
    rw [e]
    go_enter Tryd.func18, Tryd.ntmps18
    go_wp2
    go_ret
    exact ⟨rfl, (Below.refl _ _).alloc (Nat.le_refl _) _⟩
  rcases Int.lt_or_le 1024 n with h1 | h1
  · have e : chkI n ws = 2 := by unfold chkI; rw [if_pos (.inr h1)]
    rw [e]
    go_enter Tryd.func18, Tryd.ntmps18
    go_wp2
    go_ret
    exact ⟨rfl, (Below.refl _ _).alloc (Nat.le_refl _) _⟩
  have hiff := fitB_iff n ws h0 hr.lt
  by_cases hl : ws.length = nw n
  · have hq : ((ws.length : Int) != (n + 63) / 64) = false := by simp; rw [hl]; unfold nw; omega
    have hcv : chkI n ws = if fitB n ws = true then 0 else 3 := by unfold chkI; rw [if_neg (by omega)]
    have hll : ws.length ≤ 100 := by rw [hl]; unfold nw; omega
    have HI := Lib.hid hiff
    have HC := Lib.hid hcv
    have HL := Lib.hid hl
    have hr1 := hr.alloc (.cells #[.int .i64 n, .slice A ws.length cap] 24)
    clear hiff hcv hl hlen
    obtain ⟨k0, rfl⟩ := Int.eq_ofNat_of_zero_le h0
    generalize chkI (k0 : Int) ws = R at *
    go_enter Tryd.func18, Tryd.ntmps18
    go_wp2
    go_loopw [3] (fun i wr => ∃ k : Nat, k0 ≤ k ∧ i = .int .i64 k ∧ (∀ j : Nat, k0 ≤ j → j < k → bit ws j = false) ∧ Below (w.heap.size + 1) (w.alloc (.cells #[.int .i64 (k0 : Int), .slice A ws.length cap] 24)) wr) (fun i _ => 64 * ws.length - (intOf i).toNat)
    case atStart => exact ⟨k0, Nat.le_refl _, rfl, fun j h1 h2 => by omega, by have := Below.refl (w.heap.size + 1) (w.alloc (.cells #[.int .i64 (k0 : Int), .slice A ws.length cap] 24)); simpa using this⟩
    case round =>
      obtain ⟨k, hk0, rfl, hno, hb⟩ := hrel
      obtain ⟨hc1, hf1⟩ := bc hb
      have hsz := bsz hb
      have hx0 : wr.cell? ⟨w.heap.size, 0, none⟩ = some (.int .i64 (k0 : Int)) := by rw [hc1 _ _ (by omega)]; simp
      have hx1 : wr.cell? ⟨w.heap.size, 1, none⟩ = some (.slice A ws.length cap) := by rw [hc1 _ _ (by omega)]; simp
      have hR : Rd wr A ws := hr1.below (by simpa using hb)
      have HN := Lib.hid hno
      clear hc1 hf1 hno
      by_cases hlt : (k : Int) < 64 * (ws.length : Int)
      · have hh := rhas_any (k0 : Int) A cap ws (k : Int) wr hR (by omega) hlt (by omega)
        rw [Int.toNat_natCast] at hh
        cases hbit : bit ws k with
        | true =>
          rw [hbit] at hh
          have hR3 : R = 3 := by
            rw [HC.out, if_neg]
            intro hf
            have := (HI.out.1 hf).2 k (by omega) (by omega)
            rw [hbit] at this
            cases this
          have HH := Lib.hid hh
          have H3 := Lib.hid hR3
          clear hh hbit hR3
          go_wp2_with fail
          refine HH.out.mono ?_
          rintro e w2 ⟨rfl, hb2⟩
          go_wp2
          go_ret
          exact ⟨ret_i64 H3.out.symm, ((Below.refl _ _).alloc (Nat.le_refl _) _).trans ((hb.trans (hb2.mono (by simpa using hsz))).mono (by omega))⟩
        | false =>
          rw [hbit] at hh
          have HH := Lib.hid hh
          have HB := Lib.hid hbit
          clear hh hbit
          go_wp2_with fail
          refine HH.out.mono ?_
          rintro e w2 ⟨rfl, hb2⟩
          go_wp2
          go_roundw
          case rel => exact ⟨k + 1, by omega, by go_num, fun j h1 h2 => by
            by_cases e : j = k
            · subst e; exact HB.out
            · exact HN.out j h1 (by omega), hb.trans (hb2.mono (by simpa using hsz))⟩
          case measure => simp [intOf]; omega
      · have hR0 : R = 0 := by
          rw [HC.out, if_pos (HI.out.2 ⟨HL.out, fun i h1 h2 => HN.out i (by omega) (by omega)⟩)]
        have H0 := Lib.hid hR0
        clear hR0
        go_wp2
        go_ret
        exact ⟨ret_i64 H0.out.symm, ((Below.refl _ _).alloc (Nat.le_refl _) _).trans (hb.mono (by omega))⟩
  · have hq : ((ws.length : Int) != (n + 63) / 64) = true := by simp; unfold nw at hl; omega
    have e : chkI n ws = 3 := by
      unfold chkI
      rw [if_neg (by omega), if_neg]
      intro hf
      exact hl (hiff.1 hf).1
    rw [e]
    have HE := Lib.hid e
    clear e hiff hl
    go_enter Tryd.func18, Tryd.ntmps18
    go_wp2
    go_ret
    exact ⟨rfl, (Below.refl _ _).alloc (Nat.le_refl _) _⟩
end Go.Proofs.YtkifcjjnpahdmaaDoor
