import Derived.Test.YtkifcjjnpahdmaaDoorB9
namespace Go.Proofs.YtkifcjjnpahdmaaDoor
open Go.RowKit
open Go.Deep

theorem run_skip (ws : List Nat) (n : Int) (m al a : Nat) (inn : Bool) (hmod : a % al = 0) (hno : ∀ i, i < a → runP ws n m al inn i = false) (hna : runP ws n m al inn a = false) : ∀ i, i < a + al → runP ws n m al inn i = false := by
  intro i hi
  rcases Nat.lt_trichotomy i a with h | h | h
  · exact hno i h
  · rw [h]; exact hna
  · unfold runP
    simp only [decide_eq_false_iff_not]
    rintro ⟨h1, _⟩
    obtain ⟨d, rfl⟩ : ∃ d, i = a + d := ⟨i - a, by omega⟩
    have h2 : (a + d) % al = d % al := by rw [Nat.add_mod, hmod, Nat.zero_add, Nat.mod_mod]
    rw [h2, Nat.mod_eq_of_lt (by omega)] at h1
    omega

theorem vadd (a k : Nat) : Value.int .i64 ((a : Int) + (k : Int) + 1) = .int .i64 ((a : Int) + ((k + 1 : Nat) : Int)) := by
  rw [show (a : Int) + (k : Int) + 1 = (a : Int) + ((k + 1 : Nat) : Int) from by omega]
theorem all_yes {ws : List Nat} {a k : Nat} {inn : Bool} (h : ∀ i, i < k → bit ws (a + i) = inn) : (bit ws (a + k) == inn) = true ↔ ∀ i, i < k + 1 → bit ws (a + i) = inn := by
  constructor
  · intro e i hi
    by_cases c : i = k
    · subst c; simpa using e
    · exact h i (by omega)
  · intro g
    simpa using g k (by omega)
theorem all_no {ws : List Nat} {a k : Nat} {inn : Bool} (h : false = true ↔ ∀ i, i < k → bit ws (a + i) = inn) : false = true ↔ ∀ i, i < k + 1 → bit ws (a + i) = inn :=
  ⟨(fun e => by cases e), fun g => h.2 fun i hi => g i (by omega)⟩
set_option maxRecDepth 100000 in
set_option maxHeartbeats 1000000 in
theorem rrun_loop (n : Int) (A : Option Addr) (cap : Nat) (ws : List Nat) (m al : Nat) (inn : Bool) (w : World) (hr : Rd w A ws) (hC0 : chkI n ws = 0) (hn0 : 0 ≤ n) (hn1 : n ≤ 1024) (hl : ws.length = nw n) (hm0 : 1 ≤ m) (hm1 : m ≤ 1024) (ha0 : 1 ≤ al) (ha1 : al ≤ 1024) :
    Calls Tryd.prog 28 #[.agg #[.int .i64 n, .slice A ws.length cap], .int .i64 (m : Int), .int .i64 (al : Int), .bool inn] w fun e w' =>
      e = .returned (.tuple #[.int .i64 (runV ws n m al inn), .int .i64 (runX ws n m al inn)]) ∧ Below w.heap.size w w' := by
  have hC := rcheck_any n A cap ws _ (hr.alloc (.cells #[.int .i64 n, .slice A ws.length cap] 24))
  rw [hC0] at hC
  have HC := Lib.hid hC
  have hll : ws.length ≤ 100 := by rw [hl]; unfold nw; omega
  have hll2 : n ≤ 64 * (ws.length : Int) := by rw [hl]; unfold nw; omega
  clear hC hC0 hl
  have b1 : decide ((m : Int) < 1) = false := by simp; omega
  have b2 : decide ((1024 : Int) < (m : Int)) = false := by simp; omega
  have b3 : decide ((al : Int) < 1) = false := by simp; omega
  have b4 : decide ((1024 : Int) < (al : Int)) = false := by simp; omega
  go_enter Tryd.func28, Tryd.ntmps28
  go_wp2_with fail
  refine HC.out.mono ?_
  rintro e w1 ⟨rfl, hb⟩
  clear HC
  have hs1 : w.heap.size + 1 ≤ w1.heap.size := by have := bsz hb; simpa using this
  have hr1 : Rd w1 A ws := (hr.alloc (.cells #[.int .i64 n, .slice A ws.length cap] 24)).below hb
  obtain ⟨hx0, hx1⟩ := box2 (sz1 hb)
  have hbW := ((Below.refl _ _).alloc (Nat.le_refl _) _).trans (hb.mono (B' := w.heap.size) (by simp))
  clear hb
  go_wp2
  go_loopw [11] (fun i wr => ∃ a : Nat, a ≤ 2048 ∧ i = .int .i64 a ∧ a % al = 0 ∧ (∀ i, i < a → runP ws n m al inn i = false) ∧ Below w1.heap.size w1 wr) (fun i _ => 5000 - (intOf i).toNat)
  case atStart => exact ⟨0, by omega, rfl, Nat.zero_mod _, fun i hi => by omega, Below.refl _ _⟩
  case round =>
    obtain ⟨a, ha2, rfl, hmod, hno, hbr⟩ := hrel
    obtain ⟨wo, rfl⟩ : ∃ wo : World, wo = wr := ⟨_, rfl⟩
    have hmodH := Lib.hid hmod
    have hnoH := Lib.hid hno
    have hso := bsz hbr
    have cx0 := (hbr.cell (p := ⟨w.heap.size, 0, none⟩) (by simp only []; omega)).trans hx0
    have cx1 := (hbr.cell (p := ⟨w.heap.size, 1, none⟩) (by simp only []; omega)).trans hx1
    by_cases h1 : (a : Int) + m ≤ n
    · clear hmod hno
      go_wp2
      go_loopw [12, 13] (fun q i wr => ∃ (k : Nat) (B : Bool), k ≤ m ∧ i = .int .i64 ((a : Int) + k) ∧ q = .bool B ∧ (B = true ↔ ∀ i, i < k → bit ws (a + i) = inn) ∧ Below w1.heap.size w1 wr) (fun _ i _ => 5000 - (intOf i).toNat)
      case atStart => exact ⟨0, true, Nat.zero_le _, by simp, rfl, ⟨fun _ i hi => by omega, fun _ => rfl⟩, hbr⟩
      case round =>
        obtain ⟨k, B, hk, rfl, rfl, hB, hbk⟩ := hrel
        have hsk := bsz hbk
        have dx0 := (hbk.cell (p := ⟨w.heap.size, 0, none⟩) (by simp only []; omega)).trans hx0
        have dx1 := (hbk.cell (p := ⟨w.heap.size, 1, none⟩) (by simp only []; omega)).trans hx1
        have hRk := hr1.below hbk
        by_cases h2 : k < m
        · have h2' : (a : Int) + (k : Int) < (a : Int) + (m : Int) := by omega
          cases B with
          | true =>
            have hh := rhas_any n A cap ws ((a : Int) + (k : Int)) wr hRk (by omega) (by omega) (by omega)
            rw [show ((a : Int) + (k : Int)).toNat = a + k from by omega] at hh
            have hall : ∀ i, i < k → bit ws (a + i) = inn := hB.1 rfl
            have HH := Lib.hid hh
            have HA := Lib.hid hall
            clear hh hall hB
            go_wp2_with fail
            refine HH.out.mono ?_
            rintro e w3 ⟨rfl, hb3⟩
            go_wp2
            go_roundw
            case rel => exact ⟨k + 1, _, by omega, vadd a k, rfl, all_yes HA.out, hbk.trans (hb3.mono hsk)⟩
            case measure => simp [intOf]; omega
          | false =>
            have HB := Lib.hid hB
            clear hB
            go_wp2
            go_roundw
            case rel => exact ⟨k + 1, false, by omega, vadd a k, rfl, all_no HB.out, hbk⟩
            case measure => simp [intOf]; omega
        · obtain rfl : k = m := by omega
          cases B with
          | true =>
            have hrun : runP ws n k al inn a = true := by
              unfold runP
              simp only [decide_eq_true_eq]
              exact ⟨hmodH.out, h1, hB.1 rfl⟩
            have hfin : runF ws n k al inn = a := run_found ws n k al a inn hm0 hrun hnoH.out
            have hv1 : (a : Int) = runV ws n k al inn := by unfold runV; rw [hfin, if_pos (by omega)]
            have hv2 : (0 : Int) = runX ws n k al inn := by unfold runX; rw [hfin, if_pos (by omega)]
            have HV1 := Lib.hid hv1
            have HV2 := Lib.hid hv2
            clear hB hrun hfin hv1 hv2
            go_wp2
            go_ret2
            exact ⟨ret2_i64 HV1.out HV2.out, hbW.trans (hbk.mono (by omega))⟩
          | false =>
            have hna : runP ws n k al inn a = false := by
              unfold runP
              simp only [decide_eq_false_iff_not]
              rintro ⟨_, _, h⟩
              have := hB.2 h
              cases this
            have hst := run_skip ws n k al a inn hmodH.out hnoH.out hna
            have HS := Lib.hid hst
            clear hB hna hst
            go_wp2
            go_roundw
            case rel => exact ⟨a + al, by omega, by go_num, by rw [Nat.add_mod_right]; exact hmodH.out, HS.out, hbk⟩
            case measure => simp [intOf]; omega
    · have hfin : runF ws n m al inn = n.toNat + 1 := run_none ws n m al a inn hn0 hno (by omega)
      have hv1 : (0 : Int) = runV ws n m al inn := by unfold runV; rw [hfin, if_neg (by omega)]
      have hv2 : (6 : Int) = runX ws n m al inn := by unfold runX; rw [hfin, if_neg (by omega)]
      have HV1 := Lib.hid hv1
      have HV2 := Lib.hid hv2
      clear hfin hv1 hv2 hmod hno
      go_wp2
      go_ret2
      exact ⟨ret2_i64 HV1.out HV2.out, hbW.trans (hbr.mono (by omega))⟩
end Go.Proofs.YtkifcjjnpahdmaaDoor
