import Derived.Test.YtkkmnpjkladhfaaDoorG1
import Derived.Test.YtkkmnpjkladhfaaDoorW0
namespace Go.Proofs.YtkkmnpjkladhfaaDoor
open Go.RowKit

/-- a page on its way, and an event, as the model holds them -/
abbrev wt (s r c : Int) : Value := .agg #[.int .i64 s, .int .i64 r, .int .i64 c]
abbrev ev (k p : Int) : Value := .agg #[.int .i64 k, .int .i64 p]

theorem begin_any (n : Int) (w : World) : Calls Tryd.prog 24 #[.int .i64 n] w fun e w' => e = .returned (.tuple #[wt (if n < 1 ∨ 512 < n then 0 else 1) (if n < 1 ∨ 512 < n then 0 else n) 0, .int .i64 (if n < 1 ∨ 512 < n then 15 else 0)]) ∧ Below w.heap.size w w' := by
  by_cases h : n < 1 ∨ 512 < n
  · rw [if_pos h, if_pos h, if_pos h]
    go_enter Tryd.func24, Tryd.ntmps24
    go_wp2
    all_goals first | (exfalso; omega) | exact bodyPost_ret (v := .tuple #[wt 0 0 0, .int .i64 15]) (by simp [results, Tryd.results24, go_sem]) rfl ⟨rfl, by first | exact al1 _ _ | exact (al1 _ _).setCell (by simp) _⟩
  · rw [if_neg h, if_neg h, if_neg h]
    go_enter Tryd.func24, Tryd.ntmps24
    go_wp2
    all_goals first | (exfalso; omega) | exact bodyPost_ret (v := .tuple #[wt 1 n 0, .int .i64 0]) (by simp [results, Tryd.results24, go_sem]) rfl ⟨rfl, by first | exact al1 _ _ | exact (al1 _ _).setCell (by simp) _⟩
theorem rbegin_any (n : Int) (w : World) : Calls Tryd.prog 25 #[.int .i64 n] w fun e w' => e = .returned (.tuple #[wt (if n < 1 ∨ 512 < n then 0 else 1) (if n < 1 ∨ 512 < n then 0 else n) 0, .int .i64 (if n < 1 ∨ 512 < n then 15 else 0)]) ∧ Below w.heap.size w w' := by
  by_cases h : n < 1 ∨ 512 < n
  · rw [if_pos h, if_pos h, if_pos h]
    go_enter Tryd.func25, Tryd.ntmps25
    go_wp2
    all_goals first | (exfalso; omega) | exact bodyPost_ret (v := .tuple #[wt 0 0 0, .int .i64 15]) (by simp [results, Tryd.results25, go_sem]) rfl ⟨rfl, by first | exact al1 _ _ | exact (al1 _ _).setCell (by simp) _⟩
  · rw [if_neg h, if_neg h, if_neg h]
    go_enter Tryd.func25, Tryd.ntmps25
    go_wp2
    all_goals first | (exfalso; omega) | exact bodyPost_ret (v := .tuple #[wt 1 n 0, .int .i64 0]) (by simp [results, Tryd.results25, go_sem]) rfl ⟨rfl, by first | exact al1 _ _ | exact (al1 _ _).setCell (by simp) _⟩
/-- the least number of entries of a state -/
def lstV (s : Int) : Int := if s = 1 ∨ s = 3 ∨ s = 4 then 1 else 0
set_option maxHeartbeats 400000 in
theorem least_any (s : Int) (w : World) : Calls Tryd.prog 39 #[.int .i64 s] w fun e w' => e = .returned (.int .i64 (lstV s)) ∧ w = w' := by
  rcases (show s = 1 ∨ s = 3 ∨ s = 4 ∨ (s ≠ 1 ∧ s ≠ 3 ∧ s ≠ 4) by omega) with rfl | rfl | rfl | ⟨h1, h2, h3⟩
  · go_enter Tryd.func39, Tryd.ntmps39
    go_wp2
    go_ret
    exact ⟨rfl, rfl⟩
  · go_enter Tryd.func39, Tryd.ntmps39
    go_wp2
    go_ret
    exact ⟨rfl, rfl⟩
  · go_enter Tryd.func39, Tryd.ntmps39
    go_wp2
    go_ret
    exact ⟨rfl, rfl⟩
  · have e : lstV s = 0 := by unfold lstV; rw [if_neg (by omega)]
    rw [e]
    have d1 : (s == 1) = false := by simpa using h1
    have d2 : (s == 3) = false := by simpa using h2
    have d3 : (s == 4) = false := by simpa using h3
    clear e h1 h2 h3
    go_enter Tryd.func39, Tryd.ntmps39
    go_wp2
    go_ret
    exact ⟨rfl, rfl⟩
theorem proc_any (p : Int) (w : World) : Calls Tryd.prog 40 #[.int .i64 p] w fun e w' => e = .returned (.int .i64 (if p < 1 ∨ 8 < p then 2 else 0)) ∧ w = w' := by
  go_enter Tryd.func40, Tryd.ntmps40
  go_wp2
  all_goals
    go_ret
    exact ⟨ret_i64 (by (repeat' split) <;> omega), rfl⟩
set_option maxHeartbeats 1000000 in
theorem check_any (s r c : Int) (w : World) : Calls Tryd.prog 14 #[wt s r c] w fun e w' => e = .returned (.int .i64 (oChk s r c)) ∧ Below w.heap.size w w' := by
  by_cases h1 : s < 1 ∨ 6 < s
  · have e : oChk s r c = 9 := by unfold oChk; rw [if_pos h1]
    rw [e]
    clear e
    go_enter Tryd.func14, Tryd.ntmps14
    go_wp2_with fail
    all_goals first | (exfalso; omega) | (go_ret; exact ⟨rfl, al1 _ _⟩)
  have HL := Lib.hid fun W => least_any s W
  have HP := Lib.hid fun W => proc_any c W
  have HB : Hid (∀ n, Below w.heap.size w ((w.alloc (.cells #[.int .i64 s, .int .i64 r, .int .i64 c] 23)).drewN n)) := Lib.hid fun n => below_drewN (al1 _ _) n
  have hl : lstV s = if s = 1 ∨ s = 3 ∨ s = 4 then 1 else 0 := rfl
  have hlb : 0 ≤ lstV s ∧ lstV s ≤ 1 ∧ ((s = 1 ∨ s = 3 ∨ s = 4) → lstV s = 1) ∧ (¬ (s = 1 ∨ s = 3 ∨ s = 4) → lstV s = 0) := by
    rw [hl]
    split
    · exact ⟨by omega, by omega, fun _ => rfl, fun h => absurd ‹_› h⟩
    · exact ⟨by omega, by omega, fun h => absurd h ‹_›, fun _ => rfl⟩
  clear hl
  obtain ⟨l0, l1, l2, l3⟩ := hlb
  generalize lstV s = l at *
  have s1 : 1 ≤ s := by omega
  have s6 : s ≤ 6 := by omega
  by_cases g1 : r < l
  · have e : oChk s r c = 15 := by unfold oChk; rw [if_neg h1, if_pos (by omega)]
    rw [e]
    clear e h1 l2 l3
    go_enter Tryd.func14, Tryd.ntmps14
    go_wp2_with fail
    go_quiet ((go_at_call 39; first | exact q1 fun W => HL.out W | exact q2 fun W => HL.out W))
    go_wp2_with fail
    go_ret
    exact ⟨rfl, HB.out _⟩
  by_cases g2 : 512 < r
  · have e : oChk s r c = 15 := by unfold oChk; rw [if_neg h1, if_pos (by omega)]
    rw [e]
    have g1' : decide (r < l) = false := decide_eq_false g1
    clear e h1 l2 l3 g1
    go_enter Tryd.func14, Tryd.ntmps14
    go_wp2_with fail
    go_quiet ((go_at_call 39; first | exact q1 fun W => HL.out W | exact q2 fun W => HL.out W))
    go_wp2_with fail
    go_ret
    exact ⟨rfl, HB.out _⟩
  have g1' : decide (r < l) = false := decide_eq_false g1
  have g2' : decide (512 < r) = false := decide_eq_false g2
  rcases (show s = 6 ∨ s = 3 ∨ (s ≠ 6 ∧ s ≠ 3) by omega) with rfl | rfl | ⟨h6, h3⟩
  · by_cases g3 : 0 < r
    · have e : oChk 6 r c = 15 := by unfold oChk; rw [if_neg (by omega), if_pos (by omega)]
      rw [e]
      clear e h1 l2 l3 g1 g2
      go_enter Tryd.func14, Tryd.ntmps14
      go_wp2_with fail
      go_quiet ((go_at_call 39; first | exact q1 fun W => HL.out W | exact q2 fun W => HL.out W))
      go_wp2_with fail
      go_ret
      exact ⟨rfl, HB.out _⟩
    · have e : oChk 6 r c = if c ≠ 0 then 2 else 0 := by unfold oChk; rw [if_neg (by omega), if_neg (by omega), if_neg (by omega)]
      rw [e]
      have g3' : decide (0 < r) = false := decide_eq_false g3
      clear e h1 l2 l3 g1 g2 g3
      by_cases g4 : c = 0
      · subst g4
        go_enter Tryd.func14, Tryd.ntmps14
        go_wp2_with fail
        go_quiet ((go_at_call 39; first | exact q1 fun W => HL.out W | exact q2 fun W => HL.out W))
        go_wp2_with fail
        go_ret
        exact ⟨rfl, HB.out _⟩
      · rw [if_pos g4]
        have g5 : (c != 0) = true := by simpa using g4
        clear g4
        go_enter Tryd.func14, Tryd.ntmps14
        go_wp2_with fail
        go_quiet ((go_at_call 39; first | exact q1 fun W => HL.out W | exact q2 fun W => HL.out W))
        go_wp2_with fail
        go_ret
        exact ⟨rfl, HB.out _⟩
  · have e : oChk 3 r c = if c < 1 ∨ 8 < c then 2 else 0 := by unfold oChk; rw [if_neg (by omega), if_neg (by omega), if_pos rfl]
    rw [e]
    clear e h1 l2 l3 g1 g2
    go_enter Tryd.func14, Tryd.ntmps14
    go_wp2_with fail
    go_quiet ((go_at_call 39; first | exact q1 fun W => HL.out W | exact q2 fun W => HL.out W))
    go_wp2_with (go_at_call 40; refine (HP.out _).mono ?_; rintro e w' ⟨rfl, rfl⟩)
    all_goals
      go_ret
      exact ⟨rfl, HB.out _⟩
  · have e : oChk s r c = if c ≠ 0 then 2 else 0 := by unfold oChk; rw [if_neg (by omega), if_neg (by omega), if_neg h3]
    rw [e]
    have h6' : (s == 6) = false := by simpa using h6
    have h3' : (s == 3) = false := by simpa using h3
    clear e h1 l2 l3 g1 g2 h6 h3
    by_cases g4 : c = 0
    · subst g4
      go_enter Tryd.func14, Tryd.ntmps14
      go_wp2_with fail
      go_quiet ((go_at_call 39; first | exact q1 fun W => HL.out W | exact q2 fun W => HL.out W))
      go_wp2_with fail
      go_ret
      exact ⟨rfl, HB.out _⟩
    · rw [if_pos g4]
      have g5 : (c != 0) = true := by simpa using g4
      clear g4
      go_enter Tryd.func14, Tryd.ntmps14
      go_wp2_with fail
      go_quiet ((go_at_call 39; first | exact q1 fun W => HL.out W | exact q2 fun W => HL.out W))
      go_wp2_with fail
      go_ret
      exact ⟨rfl, HB.out _⟩
end Go.Proofs.YtkkmnpjkladhfaaDoor
