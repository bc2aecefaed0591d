import Derived.Test.YtkifcjjnpahdmaaDoorA5
namespace Go.Proofs.YtkifcjjnpahdmaaDoor
open Go.RowKit
open Go.Deep

theorem Rd.zero {w : World} {A : Option Addr} : Rd w A [] := ⟨by simp, by simp, by simp⟩
theorem Tab.below {w w' : World} (h : Tab w) (h0 : 0 < w.heap.size) (hb : Below w.heap.size w w') : Tab w' := fun j hj => by rw [hb.cell (p := ⟨0, j, none⟩) h0]; exact h j hj
theorem Tab.alloc {w : World} (h : Tab w) (h0 : 0 < w.heap.size) (o : Obj) : Tab (w.alloc o) := h.below h0 ((Below.refl _ _).alloc (Nat.le_refl _) o)

theorem xor_ones (x : Nat) (h : x < 18446744073709551616) : bits .xor .u64 18446744073709551615 (x : Int) = ((18446744073709551615 - x : Nat) : Int) := by
  show IntKind.u64.wrap ((BitVec.ofInt 64 18446744073709551615 ^^^ BitVec.ofInt 64 (x : Int)).toNat : Int) = _
  have h1 : BitVec.ofInt 64 18446744073709551615 = BitVec.allOnes 64 := by decide
  rw [h1, BitVec.allOnes_xor, BitVec.toNat_not, ofInt_nat x h, IntKind.wrap_u64]
  omega
set_option maxHeartbeats 400000 in
theorem next_out (n : Int) (A : Option Addr) (cap : Nat) (ws : List Nat) (f : Nat) (w : World) (hr : Rd w A ws) (hf1 : f ≤ 1024) (hn0 : 0 ≤ n) (hn1 : n ≤ 1024) (hl : ws.length ≤ 100) (hT : Tab w) (hz0 : 0 < w.heap.size) :
    Calls Tryd.prog 50 #[.agg #[.int .i64 n, .slice A ws.length cap], .int .i64 (f : Int), .bool false] w fun e w' => e = .returned (.int .i64 (fs (inNext ws f n false) (64 * ws.length) n.toNat : Nat)) ∧ Below w.heap.size w w' := by
  have hT1 := hT.alloc hz0 (.cells #[.int .i64 n, .slice A ws.length cap] 24)
  have hr1 := hr.alloc (.cells #[.int .i64 n, .slice A ws.length cap] 24)
  obtain ⟨g, hg⟩ : ∃ g, g = f / 64 := ⟨_, rfl⟩
  have hg1 : (f : Int) / 64 = (g : Int) := by omega
  have hg2 : g * 64 ≤ f := by omega
  have hg3 : f < g * 64 + 64 := by omega
  clear hg
  go_enter Tryd.func50, Tryd.ntmps50
  go_wp2
  go_loop [7] (fun i => ∃ k : Nat, (g ≤ k) ∧ k ≤ ws.length + g ∧ i = .int .i64 k ∧ ∀ j, j < 64 * k → inNext ws f n false j = false) (fun i => ws.length - (intOf i).toNat)
  case atStart => exact ⟨g, Nat.le_refl _, by omega, rfl, fun j hj => by unfold inNext; simp; omega⟩
  case round =>
    obtain ⟨k, hgk, hk, rfl, hno⟩ := hrel
    by_cases hlt : k < ws.length
    · obtain ⟨b, o, rfl, hbl, hcell⟩ := hr1.2.2 k hlt
      have HB := fun j hj => look_bit ws f n false k j hj (hr1.lt k)
      have hx := hr1.lt k
      have hlk := look_lt _ _ false hx (maskI_lt (k : Int) f n)
      have e1 : bits .xor .u64 18446744073709551615 ((ws.getD k 0 : Nat) : Int) = ((18446744073709551615 - ws.getD k 0 : Nat) : Int) := xor_ones _ hx
      have e2 : bits .and .u64 ((18446744073709551615 - ws.getD k 0 : Nat) : Int) (maskI (k : Int) f n : Int) = ((look (ws.getD k 0) (maskI (k : Int) f n) false : Nat) : Int) := by
        rw [bits_and_u64_nat _ _ (by omega) (maskI_lt _ _ _), Nat.and_comm]
        rfl
      have sg : (if IntKind.u64.signed = true then (-1 : Int) else IntKind.u64.max) = 18446744073709551615 := rfl
      generalize look (ws.getD k 0) (maskI (k : Int) f n) false = z at *
      generalize 18446744073709551615 - ws.getD k 0 = y at *
      generalize ws.getD k 0 = x at *
      have HN := Lib.hid hno
      have HK := Lib.hid HB
      have hlt' : (k : Int) < (ws.length : Int) := by omega
      have hk0 : 0 ≤ (k : Int) := by omega
      by_cases hz : z = 0
      · have hzz : ((z : Int) != 0) = false := by simpa using hz
        have HZ := Lib.hid hz
        clear hno HB hz
        go_wp2_with (go_at_call 47; refine (mask_any _ _ _ _ (by omega) (by omega) (by omega) (by omega) (by omega) (by omega)).mono ?_; rintro e w' ⟨rfl, rfl⟩)
        go_round
        case rel => exact ⟨k + 1, by omega, by omega, by go_num, fun j hj => by
          by_cases hjk : j < 64 * k
          · exact HN.out j hjk
          · obtain ⟨d, rfl⟩ : ∃ d, j = 64 * k + d := ⟨j - 64 * k, by omega⟩
            rw [← HK.out d (by omega)]
            exact bits_zero z HZ.out d⟩
        case measure => simp [intOf]; omega
      · have hzz : ((z : Int) != 0) = true := by simpa using hz
        obtain ⟨hc1, hc2, hc3⟩ := ctz_bit z hlk hz
        have hfin : fs (inNext ws f n false) (64 * ws.length) n.toNat = 64 * k + Lib.ctz 64 z := by
          refine fs_at _ _ _ _ (by omega) ?_ fun i hi => ?_
          · rw [← HK.out _ hc1]; exact hc2
          · by_cases hik : i < 64 * k
            · exact hno i hik
            · obtain ⟨d, rfl⟩ : ∃ d, i = 64 * k + d := ⟨i - 64 * k, by omega⟩
              rw [← HK.out d (by omega)]
              exact hc3 d (by omega)
        have HF := Lib.hid hfin
        clear hno HB hz hc2 hc3 hfin
        go_wp2_with (first | (go_at_call 47; refine (mask_any _ _ _ _ (by omega) (by omega) (by omega) (by omega) (by omega) (by omega)).mono ?_; rintro e w' ⟨rfl, rfl⟩) | (go_at_call 66; refine (tz_any _ _ hlk hT1).mono ?_; rintro e w' ⟨rfl, rfl⟩))
        go_ret
        exact ⟨ret_i64 (by rw [HF.out]; omega), (Below.refl _ _).alloc (Nat.le_refl _) _⟩
    · have hfin : fs (inNext ws f n false) (64 * ws.length) n.toNat = n.toNat := fs_none _ _ _ fun i hi => hno i (by omega)
      have HF := Lib.hid hfin
      clear hno hfin
      go_wp2
      go_ret
      exact ⟨ret_i64 (by rw [HF.out]; omega), (Below.refl _ _).alloc (Nat.le_refl _) _⟩
set_option maxHeartbeats 400000 in
theorem next_in (n : Int) (A : Option Addr) (cap : Nat) (ws : List Nat) (f : Nat) (w : World) (hr : Rd w A ws) (hf1 : f ≤ 1024) (hn0 : 0 ≤ n) (hn1 : n ≤ 1024) (hl : ws.length ≤ 100) (hT : Tab w) (hz0 : 0 < w.heap.size) :
    Calls Tryd.prog 50 #[.agg #[.int .i64 n, .slice A ws.length cap], .int .i64 (f : Int), .bool true] w fun e w' => e = .returned (.int .i64 (fs (inNext ws f n true) (64 * ws.length) n.toNat : Nat)) ∧ Below w.heap.size w w' := by
  have hT1 := hT.alloc hz0 (.cells #[.int .i64 n, .slice A ws.length cap] 24)
  have hr1 := hr.alloc (.cells #[.int .i64 n, .slice A ws.length cap] 24)
  obtain ⟨g, hg⟩ : ∃ g, g = f / 64 := ⟨_, rfl⟩
  have hg1 : (f : Int) / 64 = (g : Int) := by omega
  have hg2 : g * 64 ≤ f := by omega
  have hg3 : f < g * 64 + 64 := by omega
  clear hg
  go_enter Tryd.func50, Tryd.ntmps50
  go_wp2
  go_loop [7] (fun i => ∃ k : Nat, (g ≤ k) ∧ k ≤ ws.length + g ∧ i = .int .i64 k ∧ ∀ j, j < 64 * k → inNext ws f n true j = false) (fun i => ws.length - (intOf i).toNat)
  case atStart => exact ⟨g, Nat.le_refl _, by omega, rfl, fun j hj => by unfold inNext; simp; omega⟩
  case round =>
    obtain ⟨k, hgk, hk, rfl, hno⟩ := hrel
    by_cases hlt : k < ws.length
    · obtain ⟨b, o, rfl, hbl, hcell⟩ := hr1.2.2 k hlt
      have HB := fun j hj => look_bit ws f n true k j hj (hr1.lt k)
      have hx := hr1.lt k
      have hlk := look_lt _ _ true hx (maskI_lt (k : Int) f n)
      have e2 : bits .and .u64 ((ws.getD k 0 : Nat) : Int) (maskI (k : Int) f n : Int) = ((look (ws.getD k 0) (maskI (k : Int) f n) true : Nat) : Int) := by
        rw [bits_and_u64_nat _ _ hx (maskI_lt _ _ _)]
        rfl
      generalize look (ws.getD k 0) (maskI (k : Int) f n) true = z at *
      generalize ws.getD k 0 = x at *
      have HN := Lib.hid hno
      have HK := Lib.hid HB
      have hlt' : (k : Int) < (ws.length : Int) := by omega
      have hk0 : 0 ≤ (k : Int) := by omega
      by_cases hz : z = 0
      · have hzz : ((z : Int) != 0) = false := by simpa using hz
        have HZ := Lib.hid hz
        clear hno HB hz
        go_wp2_with (go_at_call 47; refine (mask_any _ _ _ _ (by omega) (by omega) (by omega) (by omega) (by omega) (by omega)).mono ?_; rintro e w' ⟨rfl, rfl⟩)
        go_round
        case rel => exact ⟨k + 1, by omega, by omega, by go_num, fun j hj => by
          by_cases hjk : j < 64 * k
          · exact HN.out j hjk
          · obtain ⟨d, rfl⟩ : ∃ d, j = 64 * k + d := ⟨j - 64 * k, by omega⟩
            rw [← HK.out d (by omega)]
            exact bits_zero z HZ.out d⟩
        case measure => simp [intOf]; omega
      · have hzz : ((z : Int) != 0) = true := by simpa using hz
        obtain ⟨hc1, hc2, hc3⟩ := ctz_bit z hlk hz
        have hfin : fs (inNext ws f n true) (64 * ws.length) n.toNat = 64 * k + Lib.ctz 64 z := by
          refine fs_at _ _ _ _ (by omega) ?_ fun i hi => ?_
          · rw [← HK.out _ hc1]; exact hc2
          · by_cases hik : i < 64 * k
            · exact hno i hik
            · obtain ⟨d, rfl⟩ : ∃ d, i = 64 * k + d := ⟨i - 64 * k, by omega⟩
              rw [← HK.out d (by omega)]
              exact hc3 d (by omega)
        have HF := Lib.hid hfin
        clear hno HB hz hc2 hc3 hfin
        go_wp2_with (first | (go_at_call 47; refine (mask_any _ _ _ _ (by omega) (by omega) (by omega) (by omega) (by omega) (by omega)).mono ?_; rintro e w' ⟨rfl, rfl⟩) | (go_at_call 66; refine (tz_any _ _ hlk hT1).mono ?_; rintro e w' ⟨rfl, rfl⟩))
        go_ret
        exact ⟨ret_i64 (by rw [HF.out]; omega), (Below.refl _ _).alloc (Nat.le_refl _) _⟩
    · have hfin : fs (inNext ws f n true) (64 * ws.length) n.toNat = n.toNat := fs_none _ _ _ fun i hi => hno i (by omega)
      have HF := Lib.hid hfin
      clear hno hfin
      go_wp2
      go_ret
      exact ⟨ret_i64 (by rw [HF.out]; omega), (Below.refl _ _).alloc (Nat.le_refl _) _⟩
theorem next_any (n : Int) (A : Option Addr) (cap : Nat) (ws : List Nat) (f : Int) (inn : Bool) (w : World) (hr : Rd w A ws) (hf0 : 0 ≤ f) (hf1 : f ≤ 1024) (hn0 : 0 ≤ n) (hn1 : n ≤ 1024) (hl : ws.length ≤ 100) (hT : Tab w) (hz0 : 0 < w.heap.size) :
    Calls Tryd.prog 50 #[.agg #[.int .i64 n, .slice A ws.length cap], .int .i64 f, .bool inn] w fun e w' => e = .returned (.int .i64 (fs (inNext ws f n inn) (64 * ws.length) n.toNat : Nat)) ∧ Below w.heap.size w w' := by
  obtain ⟨g, rfl⟩ := Int.eq_ofNat_of_zero_le hf0
  cases inn with
  | false => exact next_out n A cap ws g w hr (by omega) hn0 hn1 hl hT hz0
  | true => exact next_in n A cap ws g w hr (by omega) hn0 hn1 hl hT hz0
end Go.Proofs.YtkifcjjnpahdmaaDoor
