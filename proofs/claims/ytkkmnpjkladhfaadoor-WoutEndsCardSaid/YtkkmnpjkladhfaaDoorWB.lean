import Derived.Test.YtkkmnpjkladhfaaDoorWA
namespace Go.Proofs.YtkkmnpjkladhfaaDoor
open Go.RowKit
set_option maxHeartbeats 1000000 in
theorem rslot_any (s r c : Int) (w : World) : Calls Tryd.prog 21 #[wt s r c] w fun e w' => e = .returned (.tuple #[.bool (slF s r c), .bool (slB s r c), .int .i64 (oChk s r c)]) ∧ Ev w w' := by
  have hC := fun W => rcheck_any s r c W
  by_cases h : oChk s r c = 0
  · have e : slF s r c = freeB s r := by unfold slF; rw [if_pos h]
    have e2 : slB s r c = busyB s := by unfold slB; rw [if_pos h]
    have a := oChk_ok h
    rw [e, e2, h]
    rw [h] at hC
    have H := Lib.hid hC
    clear hC e e2 h
    obtain ⟨a1, a2, -, -, -, a6, -, -⟩ := a
    rcases six a1 a2 with rfl | rfl | rfl | rfl | rfl | rfl
    · rw [show freeB 1 r = true by simp [freeB], show busyB 1 = false by decide]
      clear a6
      go_enter Tryd.func21, Tryd.ntmps21
      go_wp2_with fail
      refine (H.out _).mono ?_
      rintro e w' ⟨rfl, hb⟩
      have hc1 := (bc hb).1
      go_wp2_with fail
      go_ret3
      exact ⟨rfl, nxt0 hb⟩
    · rw [show freeB 2 r = false by simp [freeB], show busyB 2 = true by decide]
      clear a6
      go_enter Tryd.func21, Tryd.ntmps21
      go_wp2_with fail
      refine (H.out _).mono ?_
      rintro e w' ⟨rfl, hb⟩
      have hc1 := (bc hb).1
      go_wp2_with fail
      go_ret3
      exact ⟨rfl, nxt0 hb⟩
    · rw [show freeB 3 r = false by simp [freeB], show busyB 3 = true by decide]
      clear a6
      go_enter Tryd.func21, Tryd.ntmps21
      go_wp2_with fail
      refine (H.out _).mono ?_
      rintro e w' ⟨rfl, hb⟩
      have hc1 := (bc hb).1
      go_wp2_with fail
      go_ret3
      exact ⟨rfl, nxt0 hb⟩
    · rw [show freeB 4 r = (r == 0) by simp [freeB], show busyB 4 = false by decide]
      clear a6
      go_enter Tryd.func21, Tryd.ntmps21
      go_wp2_with fail
      refine (H.out _).mono ?_
      rintro e w' ⟨rfl, hb⟩
      have hc1 := (bc hb).1
      go_wp2_with fail
      go_ret3
      exact ⟨rfl, nxt0 hb⟩
    · rw [show freeB 5 r = (r == 0) by simp [freeB], show busyB 5 = false by decide]
      clear a6
      go_enter Tryd.func21, Tryd.ntmps21
      go_wp2_with fail
      refine (H.out _).mono ?_
      rintro e w' ⟨rfl, hb⟩
      have hc1 := (bc hb).1
      go_wp2_with fail
      go_ret3
      exact ⟨rfl, nxt0 hb⟩
    · obtain rfl : r = 0 := a6 rfl
      rw [show freeB 6 0 = true by decide, show busyB 6 = false by decide]
      clear a6
      go_enter Tryd.func21, Tryd.ntmps21
      go_wp2_with fail
      refine (H.out _).mono ?_
      rintro e w' ⟨rfl, hb⟩
      have hc1 := (bc hb).1
      go_wp2_with fail
      go_ret3
      exact ⟨rfl, nxt0 hb⟩
  · have e : slF s r c = false := by unfold slF; rw [if_neg h]
    have e2 : slB s r c = false := by unfold slB; rw [if_neg h]
    rw [e, e2]
    have h0 : (oChk s r c != 0) = true := by simpa using h
    have H := Lib.hid hC
    clear hC h e e2
    go_enter Tryd.func21, Tryd.ntmps21
    go_wp2_with fail
    refine (H.out _).mono ?_
    rintro e w' ⟨rfl, hb⟩
    have hc1 := (bc hb).1
    go_wp2_with fail
    go_ret3
    exact ⟨rfl, nxt0 hb⟩
end Go.Proofs.YtkkmnpjkladhfaaDoor
