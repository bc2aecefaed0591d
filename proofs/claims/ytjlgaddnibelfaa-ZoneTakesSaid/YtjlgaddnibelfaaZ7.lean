import Derived.Test.YtjlgaddnibelfaaZ6
namespace Go.Proofs.Ytjlgaddnibelfaa
open Go.RowKit

set_option maxHeartbeats 400000 in
theorem rtake_any (mn lo hi c free n : Int) (w : World) : Calls Try.prog 14 #[mk mn lo hi, .int .i64 c, .int .i64 free, .int .i64 n] w fun e w' => e = .returned (.tuple #[.int .i64 (takeG mn lo hi c free n), .int .i64 (takeL mn lo hi c free n), .int .i64 (chkE mn lo hi c free n)]) ∧ Below w.heap.size w w' := by
  have hC := fun W => asked_any mn lo hi c free n W
  by_cases h : chkE mn lo hi c free n = 0
  · have b := chkE_ok h
    have e1 : takeG mn lo hi c free n = gotV mn hi c free n := by unfold takeG; rw [if_pos h]
    have e2 : takeL mn lo hi c free n = free - gotV mn hi c free n := by unfold takeL; rw [if_pos h]
    rw [e1, e2, h]
    rw [h] at hC
    have H := Lib.hid hC
    have HF := Lib.hid fun W => least_any mn lo hi c W
    have hf : 0 ≤ flr mn hi c ∧ flr mn hi c ≤ 256 := by unfold flr; split <;> (try split) <;> omega
    have eg : gotV mn hi c free n = min n (max (free - flr mn hi c) 0) := rfl
    have hg : 0 ≤ gotV mn hi c free n ∧ gotV mn hi c free n ≤ 256 := by rw [eg]; omega
    have EG := Lib.hid eg
    clear h hC e1 e2 eg
    obtain ⟨b1, b2, b3, b4, b5, b6, b7, b8, b9, b10⟩ := b
    obtain ⟨f1, f2⟩ := hf
    obtain ⟨g1, g2⟩ := hg
    generalize gotV mn hi c free n = g at *
    generalize flr mn hi c = f at *
    go_enter Try.func14, Try.ntmps14
    go_wp2_with fail
    refine (H.out _).mono ?_
    rintro e w1 ⟨rfl, hb1⟩
    have z1 : w.heap.size + 1 ≤ w1.heap.size := by have := hb1.size; simpa using this
    have bx : Box3 w1 w.heap.size mn lo hi := by
      have := (bc hb1).1
      unfold Box3
      rw [this _ _ (by simp), this _ _ (by simp), this _ _ (by simp)]
      simp
    have HB := Lib.hid (nxt0 hb1)
    clear hb1
    go_wp2
    go_loopw [2, 12] (fun x y wr => ∃ k : Int, 0 ≤ k ∧ k ≤ g ∧ x = .int .i64 (free - k) ∧ y = .int .i64 k ∧ Ev w1 wr) (fun _ y _ => (n - intOf y).toNat)
    case atStart => exact ⟨0, by omega, by omega, by simp, rfl, Ev.refl _⟩
    case round =>
      obtain ⟨k, k0, k1, rfl, rfl, hev⟩ := hrel
      obtain ⟨x0, x1, x2⟩ := bx.ev (by omega) hev
      by_cases hn : k < n
      · go_wp2_with fail
        refine (HF.out _).mono ?_
        rintro e w2 ⟨rfl, hb2⟩
        have hev2 := hev.step hb2
        clear x0 x1 x2 hb2 hev
        go_wp2
        · have hlt : k < g := by have := EG.out; omega
          go_roundw
          case rel => exact ⟨k + 1, by omega, by omega, by congr 1; omega, rfl, hev2⟩
          case measure => simp [intOf]; omega
        · have hk : k = g := by have := EG.out; omega
          go_ret3
          exact ⟨ret_3 (by omega) (by omega) rfl, HB.out.trans (hev2.mono (Below.size HB.out))⟩
      · go_wp2
        have hk : k = g := by have := EG.out; omega
        go_ret3
        exact ⟨ret_3 (by omega) (by omega) rfl, HB.out.trans (hev.mono (Below.size HB.out))⟩
  · have e1 : takeG mn lo hi c free n = 0 := by unfold takeG; rw [if_neg h]
    have e2 : takeL mn lo hi c free n = 0 := by unfold takeL; rw [if_neg h]
    have h0 : (chkE mn lo hi c free n != 0) = true := by simpa using h
    rw [e1, e2]
    have H := Lib.hid hC
    clear hC h e1 e2
    go_enter Try.func14, Try.ntmps14
    go_wp2_with (go_at_call 32; refine (H.out _).mono ?_; rintro e w' ⟨rfl, hb⟩; obtain ⟨hc1, hf1⟩ := bc hb)
    go_ret3
    exact ⟨rfl, nxt0 hb⟩
theorem may_is {mn lo hi c free : Int} (h : chkE mn lo hi c free 1 = 0) : (takeG mn lo hi c free 1 == 1) = decide (flr mn hi c < free) := by
  unfold takeG gotV
  rw [if_pos h, Bool.eq_iff_iff]
  simp
  omega
set_option maxHeartbeats 400000 in
theorem rmay_any (mn lo hi c free : Int) (w : World) : Calls Try.prog 10 #[mk mn lo hi, .int .i64 c, .int .i64 free] w fun e w' => e = .returned (.tuple #[.bool (takeG mn lo hi c free 1 == 1), .int .i64 (chkE mn lo hi c free 1)]) ∧ Below w.heap.size w w' := by
  have hC := fun W => asked_any mn lo hi c free 0 W
  rw [chkE_01] at hC
  by_cases h : chkE mn lo hi c free 1 = 0
  · rw [may_is h, h]
    rw [h] at hC
    have H := Lib.hid hC
    have HF := Lib.hid fun W => least_any mn lo hi c W
    clear h hC
    generalize flr mn hi c = f at *
    go_enter Try.func10, Try.ntmps10
    go_wp2_with fail
    refine (H.out _).mono ?_
    rintro e w1 ⟨rfl, hb1⟩
    obtain ⟨hc1, hf1⟩ := bc hb1
    have z1 : w.heap.size + 1 ≤ w1.heap.size := by have := hb1.size; simpa using this
    go_wp2_with fail
    refine (HF.out _).mono ?_
    rintro e w2 ⟨rfl, hb2⟩
    go_wp2
    all_goals
      go_ret2
      exact ⟨rfl, nxt0 (hb1.trans (hb2.mono (by simp; omega)))⟩
  · have e1 : (takeG mn lo hi c free 1 == 1) = false := by unfold takeG; rw [if_neg h]; rfl
    rw [e1]
    have h0 : (chkE mn lo hi c free 1 != 0) = true := by simpa using h
    have H := Lib.hid hC
    clear hC h e1
    go_enter Try.func10, Try.ntmps10
    go_wp2_with (go_at_call 32; refine (H.out _).mono ?_; rintro e w' ⟨rfl, hb⟩; obtain ⟨hc1, hf1⟩ := bc hb)
    go_ret2
    exact ⟨rfl, nxt0 hb⟩
set_option maxHeartbeats 400000 in
theorem rneeds_any (mn lo hi c free n : Int) (w : World) : Calls Try.prog 16 #[mk mn lo hi, .int .i64 c, .int .i64 free, .int .i64 n] w fun e w' => e = .returned (.tuple #[.int .i64 (needV mn lo hi c free n), .int .i64 (chkE mn lo hi c free n)]) ∧ Below w.heap.size w w' := by
  have hC := fun W => asked_any mn lo hi c free n W
  by_cases h : chkE mn lo hi c free n = 0
  · have b := chkE_ok h
    have e1 : needV mn lo hi c free n = if n = 0 then 0 else max (flr mn hi c + n - free) 0 := by unfold needV; simp [h]
    rw [e1, h]
    rw [h] at hC
    have H := Lib.hid hC
    have HF := Lib.hid fun W => least_any mn lo hi c W
    have hf : 0 ≤ flr mn hi c ∧ flr mn hi c ≤ 256 := by unfold flr; split <;> (try split) <;> omega
    clear h hC e1
    obtain ⟨b1, b2, b3, b4, b5, b6, b7, b8, b9, b10⟩ := b
    obtain ⟨f1, f2⟩ := hf
    generalize flr mn hi c = f at *
    by_cases hn : n = 0
    · subst hn
      go_enter Try.func16, Try.ntmps16
      go_wp2_with (go_at_call 32; refine (H.out _).mono ?_; rintro e w' ⟨rfl, hb⟩; obtain ⟨hc1, hf1⟩ := bc hb)
      go_ret2
      exact ⟨rfl, nxt0 hb⟩
    · rw [if_neg hn]
      have h0 : (n == 0) = false := by simpa using hn
      obtain ⟨g, eg⟩ : ∃ g, g = max (f + n - free) 0 := ⟨_, rfl⟩
      rw [← eg]
      have EG := Lib.hid eg
      clear eg hn
      go_enter Try.func16, Try.ntmps16
      go_wp2_with fail
      refine (H.out _).mono ?_
      rintro e w1 ⟨rfl, hb1⟩
      obtain ⟨hc1, hf1⟩ := bc hb1
      have z1 : w.heap.size + 1 ≤ w1.heap.size := by have := hb1.size; simpa using this
      go_wp2_with fail
      refine (HF.out _).mono ?_
      rintro e w2 ⟨rfl, hb2⟩
      go_wp2
      all_goals
        have ee := EG.out
        go_ret2
        exact ⟨ret_2 (by (repeat' split) <;> omega) rfl, nxt0 (hb1.trans (hb2.mono (by simp; omega)))⟩
  · have e1 : needV mn lo hi c free n = 0 := by unfold needV; simp [h]
    have h0 : (chkE mn lo hi c free n != 0) = true := by simpa using h
    rw [e1]
    have H := Lib.hid hC
    clear hC h e1
    go_enter Try.func16, Try.ntmps16
    go_wp2_with (go_at_call 32; refine (H.out _).mono ?_; rintro e w' ⟨rfl, hb⟩; obtain ⟨hc1, hf1⟩ := bc hb)
    go_ret2
    exact ⟨rfl, nxt0 hb⟩
set_option maxHeartbeats 400000 in
theorem rlevel_any (mn lo hi free : Int) (w : World) : Calls Try.prog 19 #[mk mn lo hi, .int .i64 free] w fun e w' => e = .returned (.tuple #[.int .i64 (levV mn lo hi free), .int .i64 (chkE mn lo hi 1 free 0)]) ∧ Below w.heap.size w w' := by
  have hC := fun W => asked_any mn lo hi 1 free 0 W
  by_cases h : chkE mn lo hi 1 free 0 = 0
  · rw [levV_ok h, h]
    rw [h] at hC
    have H := Lib.hid hC
    clear h hC
    go_enter Try.func19, Try.ntmps19
    go_wp2_with (go_at_call 32; refine (H.out _).mono ?_; rintro e w' ⟨rfl, hb⟩; obtain ⟨hc1, hf1⟩ := bc hb)
    all_goals
      go_ret2
      exact ⟨ret_2 (by unfold lv; (repeat' split) <;> omega) rfl, nxt0 hb⟩
  · rw [levV_no h]
    have h0 : (chkE mn lo hi 1 free 0 != 0) = true := by simpa using h
    have H := Lib.hid hC
    clear hC h
    go_enter Try.func19, Try.ntmps19
    go_wp2_with (go_at_call 32; refine (H.out _).mono ?_; rintro e w' ⟨rfl, hb⟩; obtain ⟨hc1, hf1⟩ := bc hb)
    go_ret2
    exact ⟨rfl, nxt0 hb⟩
theorem awk_is {mn lo hi free : Int} {was : Bool} (h : chkE mn lo hi 1 free 0 = 0) : awkV mn lo hi free was = (decide (free < lo) || (decide (free < hi) && was)) := by
  have b := chkE_ok h
  unfold awkV
  rw [levV_ok h, h]
  unfold lv
  cases was <;> (repeat' split) <;> simp <;> omega
set_option maxHeartbeats 400000 in
theorem rawk_any (mn lo hi free : Int) (was : Bool) (w : World) : Calls Try.prog 21 #[mk mn lo hi, .int .i64 free, .bool was] w fun e w' => e = .returned (.tuple #[.bool (awkV mn lo hi free was), .int .i64 (chkE mn lo hi 1 free 0)]) ∧ Below w.heap.size w w' := by
  have hC := fun W => asked_any mn lo hi 1 free 0 W
  by_cases h : chkE mn lo hi 1 free 0 = 0
  · have b := chkE_ok h
    rw [awk_is h, h]
    rw [h] at hC
    have H := Lib.hid hC
    clear h hC
    obtain ⟨b1, b2, b3, b4, b5, b6, b7, b8, b9, b10⟩ := b
    go_enter Try.func21, Try.ntmps21
    go_wp2_with (go_at_call 32; refine (H.out _).mono ?_; rintro e w' ⟨rfl, hb⟩; obtain ⟨hc1, hf1⟩ := bc hb)
    all_goals
      go_ret2
      exact ⟨ret_b2 (by cases was <;> simp <;> omega) rfl, nxt0 hb⟩
  · have e1 : awkV mn lo hi free was = false := by unfold awkV; simp [h]
    rw [e1]
    have h0 : (chkE mn lo hi 1 free 0 != 0) = true := by simpa using h
    have H := Lib.hid hC
    clear hC h e1
    go_enter Try.func21, Try.ntmps21
    go_wp2_with (go_at_call 32; refine (H.out _).mono ?_; rintro e w' ⟨rfl, hb⟩; obtain ⟨hc1, hf1⟩ := bc hb)
    go_ret2
    exact ⟨rfl, nxt0 hb⟩
end Go.Proofs.Ytjlgaddnibelfaa
