import Derived.Test.YtkkmnpjkladhfaaDoorW9
namespace Go.Proofs.YtkkmnpjkladhfaaDoor
open Go.RowKit

def roV (s : Int) : Int := if s = 1 ∨ s = 5 then 4 else if s = 2 ∨ s = 3 then 5 else 0
def busyB (s : Int) : Bool := s == 2 || s == 3
def freeB (s r : Int) : Bool := s == 1 || (!(s == 2 || s == 3) && r == 0)
def roR (s r c : Int) : Int := if oChk s r c = 0 then roV s else 0
def slF (s r c : Int) : Bool := if oChk s r c = 0 then freeB s r else false
def slB (s r c : Int) : Bool := if oChk s r c = 0 then busyB s else false
theorem ret_bb {a a' b b' : Bool} {c c' : Int} (h1 : a = a') (h2 : b = b') (h3 : c = c') : Ending.returned (.tuple #[.bool a, .bool b, .int .i64 c]) = .returned (.tuple #[.bool a', .bool b', .int .i64 c']) := by rw [h1, h2, h3]
set_option maxHeartbeats 1000000 in
theorem role_any (s r c : Int) (w : World) : Calls Tryd.prog 18 #[wt s r c] w fun e w' => e = .returned (.tuple #[.int .i64 (roR s r c), .int .i64 (oChk s r c)]) ∧ Ev w w' := by
  have hC := fun W => check_any s r c W
  by_cases h : oChk s r c = 0
  · have e : roR s r c = roV s := by unfold roR; rw [if_pos h]
    have a := oChk_ok h
    rw [e, h]
    rw [h] at hC
    have H := Lib.hid hC
    clear hC e h
    rcases six a.1 a.2.1 with rfl | rfl | rfl | rfl | rfl | rfl
    all_goals
      clear a
      go_enter Tryd.func18, Tryd.ntmps18
      go_wp2_with (go_at_call 14; refine (H.out _).mono ?_; rintro e w' ⟨rfl, hb⟩; obtain ⟨hc1, hf1⟩ := bc hb)
      go_ret2
      exact ⟨rfl, nxt0 hb⟩
  · have e : roR s r c = 0 := by unfold roR; rw [if_neg h]
    rw [e]
    have h0 : (oChk s r c != 0) = true := by simpa using h
    have H := Lib.hid hC
    clear hC h e
    go_enter Tryd.func18, Tryd.ntmps18
    go_wp2_with (go_at_call 14; refine (H.out _).mono ?_; rintro e w' ⟨rfl, hb⟩; obtain ⟨hc1, hf1⟩ := bc hb)
    go_ret2
    exact ⟨rfl, nxt0 hb⟩
set_option maxHeartbeats 1000000 in
theorem rrole_any (s r c : Int) (w : World) : Calls Tryd.prog 19 #[wt s r c] w fun e w' => e = .returned (.tuple #[.int .i64 (roR s r c), .int .i64 (oChk s r c)]) ∧ Ev w w' := by
  have hC := fun W => rcheck_any s r c W
  by_cases h : oChk s r c = 0
  · have e : roR s r c = roV s := by unfold roR; rw [if_pos h]
    have a := oChk_ok h
    rw [e, h]
    rw [h] at hC
    have H := Lib.hid hC
    clear hC e h
    rcases six a.1 a.2.1 with rfl | rfl | rfl | rfl | rfl | rfl
    all_goals
      clear a
      go_enter Tryd.func19, Tryd.ntmps19
      go_wp2_with (go_at_call 15; refine (H.out _).mono ?_; rintro e w' ⟨rfl, hb⟩; obtain ⟨hc1, hf1⟩ := bc hb)
      go_ret2
      exact ⟨rfl, nxt0 hb⟩
  · have e : roR s r c = 0 := by unfold roR; rw [if_neg h]
    rw [e]
    have h0 : (oChk s r c != 0) = true := by simpa using h
    have H := Lib.hid hC
    clear hC h e
    go_enter Tryd.func19, Tryd.ntmps19
    go_wp2_with (go_at_call 15; refine (H.out _).mono ?_; rintro e w' ⟨rfl, hb⟩; obtain ⟨hc1, hf1⟩ := bc hb)
    go_ret2
    exact ⟨rfl, nxt0 hb⟩
set_option maxHeartbeats 1000000 in
theorem slot_any (s r c : Int) (w : World) : Calls Tryd.prog 20 #[wt s r c] w fun e w' => e = .returned (.tuple #[.bool (slF s r c), .bool (slB s r c), .int .i64 (oChk s r c)]) ∧ Ev w w' := by
  have hC := fun W => check_any s r c W
  by_cases h : oChk s r c = 0
  · have e : slF s r c = freeB s r := by unfold slF; rw [if_pos h]
    have e2 : slB s r c = busyB s := by unfold slB; rw [if_pos h]
    have a := oChk_ok h
    rw [e, e2, h]
    rw [h] at hC
    have H := Lib.hid hC
    clear hC e e2 h
    rcases six a.1 a.2.1 with rfl | rfl | rfl | rfl | rfl | rfl
    all_goals
      clear a
      go_enter Tryd.func20, Tryd.ntmps20
      go_wp2_with (go_at_call 14; refine (H.out _).mono ?_; rintro e w' ⟨rfl, hb⟩; obtain ⟨hc1, hf1⟩ := bc hb)
      all_goals
        go_ret3
        exact ⟨ret_bb (by simp [freeB]) (by simp [busyB]) rfl, nxt0 hb⟩
  · have e : slF s r c = false := by unfold slF; rw [if_neg h]
    have e2 : slB s r c = false := by unfold slB; rw [if_neg h]
    rw [e, e2]
    have h0 : (oChk s r c != 0) = true := by simpa using h
    have H := Lib.hid hC
    clear hC h e e2
    go_enter Tryd.func20, Tryd.ntmps20
    go_wp2_with (go_at_call 14; refine (H.out _).mono ?_; rintro e w' ⟨rfl, hb⟩; obtain ⟨hc1, hf1⟩ := bc hb)
    go_ret3
    exact ⟨rfl, nxt0 hb⟩
end Go.Proofs.YtkkmnpjkladhfaaDoor
