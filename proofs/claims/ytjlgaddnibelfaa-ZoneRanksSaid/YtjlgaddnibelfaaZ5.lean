import Derived.Test.YtjlgaddnibelfaaZ4
namespace Go.Proofs.Ytjlgaddnibelfaa
open Go.RowKit

theorem Ev.sz {w0 W : World} (h : Ev w0 W) : w0.heap.size ≤ W.heap.size := Below.size h
theorem ret_3 {a b c a' b' c' : Int} (h1 : a = a') (h2 : b = b') (h3 : c = c') : Ending.returned (.tuple #[.int .i64 a, .int .i64 b, .int .i64 c]) = .returned (.tuple #[.int .i64 a', .int .i64 b', .int .i64 c']) := by rw [h1, h2, h3]
theorem ret_2 {a b a' b' : Int} (h1 : a = a') (h2 : b = b') : Ending.returned (.tuple #[.int .i64 a, .int .i64 b]) = .returned (.tuple #[.int .i64 a', .int .i64 b']) := by rw [h1, h2]
theorem ret_b2 {a a' : Bool} {b b' : Int} (h1 : a = a') (h2 : b = b') : Ending.returned (.tuple #[.bool a, .int .i64 b]) = .returned (.tuple #[.bool a', .int .i64 b']) := by rw [h1, h2]
set_option maxHeartbeats 400000 in
theorem take_any (mn lo hi c free n : Int) (w : World) : Calls Try.prog 13 #[mk mn lo hi, .int .i64 c, .int .i64 free, .int .i64 n] w fun e w' => e = .returned (.tuple #[.int .i64 (takeG mn lo hi c free n), .int .i64 (takeL mn lo hi c free n), .int .i64 (chkE mn lo hi c free n)]) ∧ Below w.heap.size w w' := by
  have hC := fun W => zchk_any mn lo hi c free n W
  by_cases h : chkE mn lo hi c free n = 0
  · have b := chkE_ok h
    have e1 : takeG mn lo hi c free n = gotV mn hi c free n := by unfold takeG; rw [if_pos h]
    have e2 : takeL mn lo hi c free n = free - gotV mn hi c free n := by unfold takeL; rw [if_pos h]
    rw [e1, e2, h]
    rw [h] at hC
    have H := Lib.hid hC
    have HF := Lib.hid fun W => floor_any mn lo hi c W (by omega)
    have hf : 0 ≤ flr mn hi c ∧ flr mn hi c ≤ 256 := by unfold flr; split <;> (try split) <;> omega
    have eg : gotV mn hi c free n = min n (max (free - flr mn hi c) 0) := rfl
    have hg : 0 ≤ gotV mn hi c free n ∧ gotV mn hi c free n ≤ 256 := by rw [eg]; omega
    have EG := Lib.hid eg
    clear h hC e1 e2 eg
    obtain ⟨b1, b2, b3, b4, b5, b6, b7, b8, b9, b10⟩ := b
    obtain ⟨f1, f2⟩ := hf
    obtain ⟨g1, g2⟩ := hg
    generalize gotV mn hi c free n = g at *
    generalize flr mn hi c = f at *
    go_enter Try.func13, Try.ntmps13
    go_wp2_with fail
    refine (H.out _).mono ?_
    rintro e w1 ⟨rfl, hb1⟩
    obtain ⟨hc1, hf1⟩ := bc hb1
    have z1 : w.heap.size + 1 ≤ w1.heap.size := by have := hb1.size; simpa using this
    go_wp2_with fail
    refine (HF.out _).mono ?_
    rintro e w2 ⟨rfl, hb2⟩
    go_wp2
    all_goals
      have ee := EG.out
      go_ret3
      exact ⟨ret_3 (by (repeat' split) <;> omega) (by (repeat' split) <;> omega) rfl, nxt0 (hb1.trans (hb2.mono (by simp; omega)))⟩
  · have e1 : takeG mn lo hi c free n = 0 := by unfold takeG; rw [if_neg h]
    have e2 : takeL mn lo hi c free n = 0 := by unfold takeL; rw [if_neg h]
    have h0 : (chkE mn lo hi c free n != 0) = true := by simpa using h
    rw [e1, e2]
    have H := Lib.hid hC
    clear hC h e1 e2
    go_enter Try.func13, Try.ntmps13
    go_wp2_with (go_at_call 35; refine (H.out _).mono ?_; rintro e w' ⟨rfl, hb⟩; obtain ⟨hc1, hf1⟩ := bc hb)
    go_ret3
    exact ⟨rfl, nxt0 hb⟩
set_option maxHeartbeats 400000 in
theorem may_any (mn lo hi c free : Int) (w : World) : Calls Try.prog 9 #[mk mn lo hi, .int .i64 c, .int .i64 free] w fun e w' => e = .returned (.tuple #[.bool (takeG mn lo hi c free 1 == 1), .int .i64 (chkE mn lo hi c free 1)]) ∧ Below w.heap.size w w' := by
  have H := Lib.hid fun W => take_any mn lo hi c free 1 W
  go_enter Try.func9, Try.ntmps9
  go_wp2_with (go_at_call 13; refine (H.out _).mono ?_; rintro e w' ⟨rfl, hb⟩; obtain ⟨hc1, hf1⟩ := bc hb)
  go_ret2
  exact ⟨rfl, nxt0 hb⟩
set_option maxHeartbeats 400000 in
theorem needs_any (mn lo hi c free n : Int) (w : World) : Calls Try.prog 15 #[mk mn lo hi, .int .i64 c, .int .i64 free, .int .i64 n] w fun e w' => e = .returned (.tuple #[.int .i64 (needV mn lo hi c free n), .int .i64 (chkE mn lo hi c free n)]) ∧ Below w.heap.size w w' := by
  have hC := fun W => zchk_any mn lo hi c free n W
  by_cases h : chkE mn lo hi c free n = 0
  · have b := chkE_ok h
    have e1 : needV mn lo hi c free n = if n = 0 then 0 else max (flr mn hi c + n - free) 0 := by unfold needV; simp [h]
    rw [e1, h]
    rw [h] at hC
    have H := Lib.hid hC
    have HF := Lib.hid fun W => floor_any mn lo hi c W (by omega)
    have hf : 0 ≤ flr mn hi c ∧ flr mn hi c ≤ 256 := by unfold flr; split <;> (try split) <;> omega
    clear h hC e1
    obtain ⟨b1, b2, b3, b4, b5, b6, b7, b8, b9, b10⟩ := b
    obtain ⟨f1, f2⟩ := hf
    generalize flr mn hi c = f at *
    by_cases hn : n = 0
    · subst hn
      go_enter Try.func15, Try.ntmps15
      go_wp2_with (go_at_call 35; refine (H.out _).mono ?_; rintro e w' ⟨rfl, hb⟩; obtain ⟨hc1, hf1⟩ := bc hb)
      go_ret2
      exact ⟨rfl, nxt0 hb⟩
    · rw [if_neg hn]
      have h0 : (n == 0) = false := by simpa using hn
      have eg : ∃ g, g = max (f + n - free) 0 := ⟨_, rfl⟩
      obtain ⟨g, eg⟩ := eg
      rw [← eg]
      have EG := Lib.hid eg
      clear eg hn
      go_enter Try.func15, Try.ntmps15
      go_wp2_with fail
      refine (H.out _).mono ?_
      rintro e w1 ⟨rfl, hb1⟩
      obtain ⟨hc1, hf1⟩ := bc hb1
      have z1 : w.heap.size + 1 ≤ w1.heap.size := by have := hb1.size; simpa using this
      go_wp2_with fail
      refine (HF.out _).mono ?_
      rintro e w2 ⟨rfl, hb2⟩
      go_wp2
      all_goals
        have ee := EG.out
        go_ret2
        exact ⟨ret_2 (by (repeat' split) <;> omega) rfl, nxt0 (hb1.trans (hb2.mono (by simp; omega)))⟩
  · have e1 : needV mn lo hi c free n = 0 := by unfold needV; simp [h]
    have h0 : (chkE mn lo hi c free n != 0) = true := by simpa using h
    rw [e1]
    have H := Lib.hid hC
    clear hC h e1
    go_enter Try.func15, Try.ntmps15
    go_wp2_with (go_at_call 35; refine (H.out _).mono ?_; rintro e w' ⟨rfl, hb⟩; obtain ⟨hc1, hf1⟩ := bc hb)
    go_ret2
    exact ⟨rfl, nxt0 hb⟩
end Go.Proofs.Ytjlgaddnibelfaa
