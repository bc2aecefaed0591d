import Derived.Test.YtjlgaddnibelfaaZ5
namespace Go.Proofs.Ytjlgaddnibelfaa
open Go.RowKit

def lv (mn lo hi free : Int) : Int := if hi ≤ free then 0 else if lo ≤ free then 1 else if mn < free then 2 else 3
theorem levV_ok {mn lo hi free : Int} (h : chkE mn lo hi 1 free 0 = 0) : levV mn lo hi free = lv mn lo hi free := by unfold levV lv; rw [if_neg (by simp [h])]
theorem levV_no {mn lo hi free : Int} (h : chkE mn lo hi 1 free 0 ≠ 0) : levV mn lo hi free = 0 := by unfold levV; rw [if_pos h]
set_option maxHeartbeats 400000 in
theorem level_any (mn lo hi free : Int) (w : World) : Calls Try.prog 18 #[mk mn lo hi, .int .i64 free] w fun e w' => e = .returned (.tuple #[.int .i64 (levV mn lo hi free), .int .i64 (chkE mn lo hi 1 free 0)]) ∧ Below w.heap.size w w' := by
  have hC := fun W => zchk_any mn lo hi 1 free 0 W
  by_cases h : chkE mn lo hi 1 free 0 = 0
  · rw [levV_ok h, h]
    rw [h] at hC
    have H := Lib.hid hC
    clear h hC
    go_enter Try.func18, Try.ntmps18
    go_wp2_with (go_at_call 35; refine (H.out _).mono ?_; rintro e w' ⟨rfl, hb⟩; obtain ⟨hc1, hf1⟩ := bc hb)
    all_goals
      go_ret2
      exact ⟨ret_2 (by unfold lv; (repeat' split) <;> omega) rfl, nxt0 hb⟩
  · rw [levV_no h]
    have h0 : (chkE mn lo hi 1 free 0 != 0) = true := by simpa using h
    have H := Lib.hid hC
    clear hC h
    go_enter Try.func18, Try.ntmps18
    go_wp2_with (go_at_call 35; refine (H.out _).mono ?_; rintro e w' ⟨rfl, hb⟩; obtain ⟨hc1, hf1⟩ := bc hb)
    go_ret2
    exact ⟨rfl, nxt0 hb⟩
set_option maxHeartbeats 400000 in
theorem awk_any (mn lo hi free : Int) (was : Bool) (w : World) : Calls Try.prog 20 #[mk mn lo hi, .int .i64 free, .bool was] w fun e w' => e = .returned (.tuple #[.bool (awkV mn lo hi free was), .int .i64 (chkE mn lo hi 1 free 0)]) ∧ Below w.heap.size w w' := by
  have hC := fun W => level_any mn lo hi free W
  by_cases h : chkE mn lo hi 1 free 0 = 0
  · rw [h] at hC
    have e1 : awkV mn lo hi free was = (decide (1 < levV mn lo hi free) || (decide (levV mn lo hi free = 1) && was)) := by unfold awkV; simp [h]
    rw [e1, h]
    have H := Lib.hid hC
    clear h hC e1
    generalize levV mn lo hi free = l at *
    rcases (show l = 1 ∨ 1 < l ∨ l < 1 by omega) with rfl | hl | hl
    · go_enter Try.func20, Try.ntmps20
      go_wp2_with (go_at_call 18; refine (H.out _).mono ?_; rintro e w' ⟨rfl, hb⟩; obtain ⟨hc1, hf1⟩ := bc hb)
      all_goals
        go_ret2
        exact ⟨ret_b2 (by simp) rfl, nxt0 hb⟩
    · go_enter Try.func20, Try.ntmps20
      go_wp2_with (go_at_call 18; refine (H.out _).mono ?_; rintro e w' ⟨rfl, hb⟩; obtain ⟨hc1, hf1⟩ := bc hb)
      all_goals
        go_ret2
        exact ⟨ret_b2 (by simp [hl]) rfl, nxt0 hb⟩
    · have h1 : (l == 1) = false := by simp; omega
      go_enter Try.func20, Try.ntmps20
      go_wp2_with (go_at_call 18; refine (H.out _).mono ?_; rintro e w' ⟨rfl, hb⟩; obtain ⟨hc1, hf1⟩ := bc hb)
      all_goals
        go_ret2
        exact ⟨ret_b2 (by simp; omega) rfl, nxt0 hb⟩
  · have e1 : awkV mn lo hi free was = false := by unfold awkV; simp [h]
    rw [e1]
    rw [levV_no h] at hC
    have h0 : (chkE mn lo hi 1 free 0 != 0) = true := by simpa using h
    have H := Lib.hid hC
    clear hC h e1
    go_enter Try.func20, Try.ntmps20
    go_wp2_with (go_at_call 18; refine (H.out _).mono ?_; rintro e w' ⟨rfl, hb⟩; obtain ⟨hc1, hf1⟩ := bc hb)
    go_ret2
    exact ⟨rfl, nxt0 hb⟩
/-! the reference -/
set_option maxHeartbeats 400000 in
theorem rcheck_any (mn lo hi fr : Int) (w : World) : Calls Try.prog 12 #[mk mn lo hi, .int .i64 fr] w fun e w' => e = .returned (.int .i64 (mkE mn lo hi fr)) ∧ Below w.heap.size w w' := by
  go_enter Try.func12, Try.ntmps12
  go_wp2
  all_goals
    go_ret
    exact ⟨ret_i64 (by unfold mkE; (repeat' split) <;> omega), al1 _ _⟩
set_option maxHeartbeats 400000 in
theorem asked_any (mn lo hi c free n : Int) (w : World) : Calls Try.prog 32 #[mk mn lo hi, .int .i64 c, .int .i64 free, .int .i64 n] w fun e w' => e = .returned (.int .i64 (chkE mn lo hi c free n)) ∧ Below w.heap.size w w' := by
  have hC := rcheck_any mn lo hi 256
  by_cases h : mkE mn lo hi 256 = 0
  · rw [h] at hC
    have H := Lib.hid hC
    have e1 : chkE mn lo hi c free n = if c < 1 ∨ 3 < c then 16 else if free < 0 ∨ 256 < free ∨ n < 0 ∨ 256 < n then 2 else 0 := by unfold chkE; rw [if_neg (by simp [h])]
    rw [e1]
    clear h hC e1
    go_enter Try.func32, Try.ntmps32
    go_wp2_with (go_at_call 12; refine (H.out _).mono ?_; rintro e w' ⟨rfl, hb⟩; obtain ⟨hc1, hf1⟩ := bc hb)
    all_goals
      go_ret
      exact ⟨ret_i64 (by (repeat' split) <;> omega), nxt0 hb⟩
  · have e1 : chkE mn lo hi c free n = mkE mn lo hi 256 := by unfold chkE; rw [if_pos h]
    rw [e1]
    have h0 : (mkE mn lo hi 256 != 0) = true := by simpa using h
    have H := Lib.hid hC
    clear hC h e1
    go_enter Try.func32, Try.ntmps32
    go_wp2_with (go_at_call 12; refine (H.out _).mono ?_; rintro e w' ⟨rfl, hb⟩; obtain ⟨hc1, hf1⟩ := bc hb)
    go_ret
    exact ⟨rfl, nxt0 hb⟩
set_option maxHeartbeats 400000 in
theorem least_any (mn lo hi c : Int) (w : World) : Calls Try.prog 33 #[mk mn lo hi, .int .i64 c] w fun e w' => e = .returned (.int .i64 (flr mn hi c)) ∧ Below w.heap.size w w' := by
  rcases (show c = 1 ∨ c = 3 ∨ (c ≠ 1 ∧ c ≠ 3) by omega) with rfl | rfl | ⟨h1, h2⟩
  · go_enter Try.func33, Try.ntmps33
    go_wp2
    all_goals
      go_ret
      exact ⟨rfl, al1 _ _⟩
  · go_enter Try.func33, Try.ntmps33
    go_wp2
    all_goals
      go_ret
      exact ⟨rfl, al1 _ _⟩
  · have e1 : flr mn hi c = 0 := by unfold flr; rw [if_neg h1, if_neg h2]
    rw [e1]
    have d1 : (c == 1) = false := by simpa using h1
    have d2 : (c == 3) = false := by simpa using h2
    clear e1 h1 h2
    go_enter Try.func33, Try.ntmps33
    go_wp2
    all_goals
      go_ret
      exact ⟨rfl, al1 _ _⟩
end Go.Proofs.Ytjlgaddnibelfaa
