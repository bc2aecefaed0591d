import Derived.Test.YtkifcjjnpahdmaaDoorA8
namespace Go.Proofs.YtkifcjjnpahdmaaDoor
open Go.RowKit
open Go.Deep

theorem inNext_false {ws : List Nat} {f n : Int} {inn : Bool} {i : Nat} (h : (i : Int) < f ∨ n ≤ (i : Int)) : inNext ws f n inn i = false := by
  unfold inNext
  have : decide (f ≤ (i : Int) ∧ (i : Int) < n) = false := by simp only [decide_eq_false_iff_not]; omega
  rw [this]
  rfl

/-- what Run says of a good set -/
def runV (ws : List Nat) (n : Int) (m al : Nat) (inn : Bool) : Int := if runF ws n m al inn ≤ n.toNat then (runF ws n m al inn : Int) else 0
def runX (ws : List Nat) (n : Int) (m al : Nat) (inn : Bool) : Int := if runF ws n m al inn ≤ n.toNat then 0 else 6
theorem ret2_i64 {a b c d : Int} (h : a = c) (k : b = d) : Ending.returned (.tuple #[.int .i64 a, .int .i64 b]) = .returned (.tuple #[.int .i64 c, .int .i64 d]) := by rw [h, k]
set_option maxHeartbeats 400000 in
theorem run_loop (n : Int) (A : Option Addr) (cap : Nat) (ws : List Nat) (m al : Nat) (inn : Bool) (w : World) (hr : Rd w A ws) (hC0 : chkI n ws = 0) (hn0 : 0 ≤ n) (hn1 : n ≤ 1024) (hl : ws.length = nw n) (hm0 : 1 ≤ m) (hm1 : m ≤ 1024) (ha0 : 1 ≤ al) (ha1 : al ≤ 1024)
    (hT : Tab w) (hz0 : 0 < w.heap.size) :
    Calls Tryd.prog 27 #[.agg #[.int .i64 n, .slice A ws.length cap], .int .i64 (m : Int), .int .i64 (al : Int), .bool inn] w fun e w' =>
      e = .returned (.tuple #[.int .i64 (runV ws n m al inn), .int .i64 (runX ws n m al inn)]) ∧ Below w.heap.size w w' := by
  have hC := check_any n A cap ws _ (hr.alloc (.cells #[.int .i64 n, .slice A ws.length cap] 24))
  rw [hC0] at hC
  have HC := Lib.hid hC
  have hll : ws.length ≤ 100 := by rw [hl]; unfold nw; omega
  have hll2 : n ≤ 64 * (ws.length : Int) := by rw [hl]; unfold nw; omega
  clear hC hC0 hl
  have b1 : ¬ (m : Int) < 1 := by omega
  have b2 : ¬ (1024 : Int) < (m : Int) := by omega
  have b3 : ¬ (al : Int) < 1 := by omega
  have b4 : ¬ (1024 : Int) < (al : Int) := by omega
  go_enter Tryd.func27, Tryd.ntmps27
  go_wp2_with fail
  refine HC.out.mono ?_
  rintro e w1 ⟨rfl, hb⟩
  clear HC
  obtain ⟨hc1, hf1'⟩ := bc hb
  have hs1 : w.heap.size + 1 ≤ w1.heap.size := by have := bsz hb; simpa using this
  have hr1 : Rd w1 A ws := (hr.alloc (.cells #[.int .i64 n, .slice A ws.length cap] 24)).below hb
  have hT1 : Tab w1 := (hT.alloc hz0 (.cells #[.int .i64 n, .slice A ws.length cap] 24)).below (by simp) hb
  have hx0 : w1.cell? ⟨w.heap.size, 0, none⟩ = some (.int .i64 n) := by rw [hc1 _ _ (by simp)]; simp
  have hx1 : w1.cell? ⟨w.heap.size, 1, none⟩ = some (.slice A ws.length cap) := by rw [hc1 _ _ (by simp)]; simp
  have hbW := ((Below.refl _ _).alloc (Nat.le_refl _) _).trans (hb.mono (B' := w.heap.size) (by simp))
  clear hc1 hf1' hb
  go_wp2
  go_loopw [11] (fun i wr => ∃ a : Nat, a ≤ 2048 ∧ i = .int .i64 a ∧ a % al = 0 ∧ (∀ i, i < a → runP ws n m al inn i = false) ∧ Below w1.heap.size w1 wr) (fun i _ => 5000 - (intOf i).toNat)
  case atStart => exact ⟨0, by omega, rfl, Nat.zero_mod _, fun i hi => by omega, Below.refl _ _⟩
  case round =>
    obtain ⟨a, ha2, rfl, hmod, hno, hbr⟩ := hrel
    have hR := hr1.below hbr
    have hTR := hT1.below (by omega) hbr
    have hsr := bsz hbr
    have cx0 := (hbr.cell (p := ⟨w.heap.size, 0, none⟩) (by simp only []; omega)).trans hx0
    have cx1 := (hbr.cell (p := ⟨w.heap.size, 1, none⟩) (by simp only []; omega)).trans hx1
    by_cases h1 : (a : Int) + m ≤ n
    · have hN := next_any n A cap ws (a : Int) (!inn) wr hR (by omega) (by omega) hn0 hn1 hll hTR (by omega)
      obtain ⟨e, he⟩ : ∃ e, e = fs (inNext ws (a : Int) n (!inn)) (64 * ws.length) n.toNat := ⟨_, rfl⟩
      rw [← he] at hN
      have HN := Lib.hid hN
      have hmodH := Lib.hid hmod
      have hnoH := Lib.hid hno
      have heH := Lib.hid he
      have hae : a ≤ e ∧ (e : Int) ≤ n := by
        rcases fs_cases (inNext ws (a : Int) n (!inn)) (64 * ws.length) n.toNat with ⟨g1, g2⟩ | ⟨g1, g2, g3⟩
        · rw [he, g1]; omega
        · rw [← he] at g2
          unfold inNext at g2
          simp only [Bool.and_eq_true, decide_eq_true_eq] at g2
          omega
      clear hN hmod hno he
      by_cases h2 : (m : Int) ≤ (e : Int) - (a : Int)
      · have hfin : runF ws n m al inn = a := run_found ws n m al a inn hm0 (run_here ws n m al a e inn (by omega) hmodH.out h1 heH.out (by omega)) hnoH.out
        have hv1 : (a : Int) = runV ws n m al inn := by unfold runV; rw [hfin, if_pos (by omega)]
        have hv2 : (0 : Int) = runX ws n m al inn := by unfold runX; rw [hfin, if_pos (by omega)]
        have HV1 := Lib.hid hv1
        have HV2 := Lib.hid hv2
        clear hfin hv1 hv2
        go_wp2_with fail
        refine HN.out.mono ?_
        rintro e' w2 ⟨rfl, hb2⟩
        go_wp2
        go_ret2
        exact ⟨ret2_i64 HV1.out HV2.out, (hbW.trans (hbr.mono (by omega))).trans (hb2.mono (by omega))⟩
      · have hj := run_jump ws n m al a e inn hn0 h1 ha0 heH.out (by omega) hnoH.out
        have j1 := jump_le e al
        have j2 := jump_gt e al ha0
        have j3 := jump_mod e al
        have q1 : (e : Int) / (al : Int) = ((e / al : Nat) : Int) := by simp
        have q2 : (((e / al : Nat) : Int) + 1) * (al : Int) = (((e / al + 1) * al : Nat) : Int) := by simp
        generalize hd : (e / al + 1) * al = d at *
        have hdq : e / al ≤ e := Nat.div_le_self _ _
        generalize e / al = q at *
        have HJ := Lib.hid hj.2
        have H3 := Lib.hid j3
        have hen := hj.1.2
        have hal1 : (1 : Int) ≤ (al : Int) := by omega
        clear hj j3 hd
        go_wp2_with fail
        refine HN.out.mono ?_
        rintro e' w2 ⟨rfl, hb2⟩
        go_wp2
        go_roundw
        case rel => exact ⟨d, by omega, rfl, H3.out, HJ.out, hbr.trans (hb2.mono hsr)⟩
        case measure => simp [intOf]; omega
    · have hfin : runF ws n m al inn = n.toNat + 1 := run_none ws n m al a inn hn0 hno (by omega)
      have hv1 : (0 : Int) = runV ws n m al inn := by unfold runV; rw [hfin, if_neg (by omega)]
      have hv2 : (6 : Int) = runX ws n m al inn := by unfold runX; rw [hfin, if_neg (by omega)]
      have HV1 := Lib.hid hv1
      have HV2 := Lib.hid hv2
      have hmodH := Lib.hid hmod
      clear hfin hv1 hv2 hmod hno
      go_wp2
      go_ret2
      exact ⟨ret2_i64 HV1.out HV2.out, hbW.trans (hbr.mono (by omega))⟩
end Go.Proofs.YtkifcjjnpahdmaaDoor
