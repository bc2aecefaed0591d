import Derived.Test.YtkifcjjnpahdmaaDoorA4
namespace Go.Proofs.YtkifcjjnpahdmaaDoor
open Go.RowKit
open Go.Deep

/-- i is from f to t - 1 and among the words -/
def inPart (ws : List Nat) (f t : Int) (i : Nat) : Bool := decide (f ≤ i ∧ (i : Int) < t) && bit ws i
theorem part_word (ws : List Nat) (f t : Int) (k : Nat) : cn (inPart ws f t) (64 * k + 64) = cn (inPart ws f t) (64 * k) + pc 64 (ws.getD k 0 &&& maskI (k : Int) f t) := by
  rw [cn_add, pc_cn]
  congr 1
  apply cn_congr
  intro j hj
  unfold inPart
  rw [bit_at _ _ _ hj, Nat.testBit_and, testBit_maskI _ _ _ _ hj, Bool.and_comm]
  congr 1
  rw [Bool.eq_iff_iff]
  simp only [decide_eq_true_eq]
  omega

set_option maxHeartbeats 400000 in
theorem count_ok (n : Int) (A : Option Addr) (cap : Nat) (ws : List Nat) (f t : Int) (w : World) (hr : Rd w A ws) (h0 : chpI n ws f t = 0) (hf0 : 0 ≤ f) (hf1 : f ≤ 1024) (ht0 : 0 ≤ t) (ht1 : t ≤ 1024) (hl : ws.length ≤ 100) :
    Calls Tryd.prog 21 #[.agg #[.int .i64 n, .slice A ws.length cap], .int .i64 f, .int .i64 t] w fun e w' => e = .returned (.tuple #[.int .i64 (cn (inPart ws f t) (64 * ws.length) : Nat), .int .i64 0]) ∧ Below w.heap.size w w' := by
  have hC := checkPart_any n A cap ws f t _ (hr.alloc (.cells #[.int .i64 n, .slice A ws.length cap] 24))
  rw [h0] at hC
  have HC := Lib.hid hC
  clear hC h0
  go_enter Tryd.func21, Tryd.ntmps21
  go_wp2_with fail
  refine HC.out.mono ?_
  rintro e w1 ⟨rfl, hb⟩
  obtain ⟨hc1, hf1'⟩ := bc hb
  have hs1 := bsz hb
  have hr1 : Rd w1 A ws := (hr.alloc (.cells #[.int .i64 n, .slice A ws.length cap] 24)).below hb
  have hx0 : w1.cell? ⟨w.heap.size, 0, none⟩ = some (.int .i64 n) := by rw [hc1 _ _ (by simp)]; simp
  have hx1 : w1.cell? ⟨w.heap.size, 1, none⟩ = some (.slice A ws.length cap) := by rw [hc1 _ _ (by simp)]; simp
  clear hc1 hf1'
  go_wp2
  go_loopw [9, 21] (fun c i wr => ∃ k m : Nat, k ≤ ws.length ∧ i = .int .i64 k ∧ c = .int .i64 (cn (inPart ws f t) (64 * k) : Nat) ∧ wr = w1.drewN m) (fun _ i _ => ws.length - (intOf i).toNat)
  case atStart => exact ⟨0, 0, Nat.zero_le _, rfl, rfl, rfl⟩
  case round =>
    obtain ⟨k, m, hk, rfl, rfl, rfl⟩ := hrel
    have hcb := cn_le (inPart ws f t) (64 * k)
    by_cases hlt : k < ws.length
    · obtain ⟨b, o, rfl, hbl, hcell⟩ := hr1.2.2 k hlt
      have hp := part_word ws f t k
      have hz : bits .and .u64 ((ws.getD k 0 : Nat) : Int) (maskI (k : Int) f t : Int) = ((ws.getD k 0 &&& maskI (k : Int) f t : Nat) : Int) := bits_and_u64_nat _ _ (hr1.lt k) (maskI_lt _ _ _)
      have hzb : ws.getD k 0 &&& maskI (k : Int) f t < 18446744073709551616 := Nat.lt_of_le_of_lt Nat.and_le_left (hr1.lt k)
      have hpb : pc 64 (ws.getD k 0 &&& maskI (k : Int) f t) ≤ 64 := by rw [pc_cn]; exact cn_le _ _
      generalize ws.getD k 0 &&& maskI (k : Int) f t = z at *
      generalize ws.getD k 0 = x at *
      generalize hc0 : cn (inPart ws f t) (64 * k) = c at *
      have HP := Lib.hid hp
      have H0 := Lib.hid hc0
      clear hp hc0
      have hlt' : (k : Int) < (ws.length : Int) := by omega
      have hk0 : 0 ≤ (k : Int) := by omega
      go_wp2
      go_quiet ((first | (go_at_call 47; exact q2 fun W => mask_any _ _ _ W (by omega) (by omega) (by omega) (by omega) (by omega) (by omega)) | (go_at_call 49; exact q2 fun W => ones_any _ W hzb)))
      go_wp2
      go_roundw
      case rel => exact ⟨k + 1, m + nq, by omega, by go_num, by rw [show 64 * (k + 1) = 64 * k + 64 from by omega, HP.out]; go_num, rfl⟩
      case measure => simp [intOf]; omega
    · obtain rfl : k = ws.length := by omega
      go_wp2
      go_ret2
      exact ⟨rfl, below_drewN (((Below.refl _ _).alloc (Nat.le_refl _) _).trans (hb.mono (by simp))) _⟩
end Go.Proofs.YtkifcjjnpahdmaaDoor
