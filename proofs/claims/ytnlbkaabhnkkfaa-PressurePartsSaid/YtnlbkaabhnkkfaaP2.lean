import Derived.Test.YtnlbkaabhnkkfaaP1
namespace Go.Proofs.Ytnlbkaabhnkkfaa
open Go.RowKit
theorem ix0 (x0 x1 x2 : Value) (w : World) : (Instr.index 65 (.agg #[x0, x1, x2]) (.int .i64 0)).run Try.prog w = .ok x0 w := by kernel_rfl
theorem ix1 (x0 x1 x2 : Value) (w : World) : (Instr.index 65 (.agg #[x0, x1, x2]) (.int .i64 1)).run Try.prog w = .ok x1 w := by kernel_rfl
theorem ix2 (x0 x1 x2 : Value) (w : World) : (Instr.index 65 (.agg #[x0, x1, x2]) (.int .i64 2)).run Try.prog w = .ok x2 w := by kernel_rfl
theorem cellA (w : World) (o : Obj) (b i : Nat) (h : b < w.heap.size) : (w.alloc o).cell? ⟨b, i, none⟩ = w.cell? ⟨b, i, none⟩ := (bc (al1 w o)).1 b i h
theorem lvw (w : World) (a b c x : Int) (o : Obj) : ((((w.alloc (mb a b c)).alloc (.cells #[.int .i64 x] 3)).alloc o).cell? ⟨w.heap.size + 1, 0, none⟩ = some (.int .i64 x)) ∧
    ((((w.alloc (mb a b c)).alloc (.cells #[.int .i64 x] 3)).alloc o).cell? ⟨w.heap.size, 0, none⟩ = some (.int .i64 a)) ∧ ((((w.alloc (mb a b c)).alloc (.cells #[.int .i64 x] 3)).alloc o).cell? ⟨w.heap.size, 1, none⟩ = some (.int .i64 b)) ∧ ((((w.alloc (mb a b c)).alloc (.cells #[.int .i64 x] 3)).alloc o).cell? ⟨w.heap.size, 2, none⟩ = some (.int .i64 c)) := by
  refine ⟨?_, ?_, ?_, ?_⟩
  · rw [cellA _ _ _ _ (by simp)]; simp
  · rw [cellA _ _ _ _ (by simp; omega), cellA _ _ _ _ (by simp)]; simp
  · rw [cellA _ _ _ _ (by simp; omega), cellA _ _ _ _ (by simp)]; simp
  · rw [cellA _ _ _ _ (by simp; omega), cellA _ _ _ _ (by simp)]; simp
set_option maxHeartbeats 1000000 in
theorem level_any (a b c x : Int) (w : World) : Calls Try.prog 36 #[mk a b c, .int .i64 x] w fun e w' => e = .returned (.int .i64 (lvV a b c x)) ∧ Ev w w' := by
  have H1 := Lib.hid fun bx bm W hx hc => c1_any bx bm x c W hx hc
  have H2 := Lib.hid fun bx bm W hx hc => c2_any bx bm x b W hx hc
  have H3 := Lib.hid fun bx bm W hx hc => c3_any bx bm x a W hx hc
  rcases lv_cases a b c x with ⟨h1, e⟩ | ⟨h1, h2, e⟩ | ⟨h1, h2, h3, e⟩ | ⟨h1, h2, h3, e⟩
  all_goals
    rw [e]
    clear e
    have HL := Lib.hid (lvw w a b c x)
    have i0 := ix0
    have i1 := ix1
    have i2 := ix2
    have HB : Hid (∀ o1 o2 o3, Ev w (((w.alloc o1).alloc o2).alloc o3)) := Lib.hid fun o1 o2 o3 => (((Ev.refl w).alloc _).alloc _).alloc _
    go_enter Try.func36, Try.ntmps36
    go_wp2_with fail
    refine wp_loop_rounds 4 ?_
    repeat (rw [rounds_succ]; go_wp2_with (first | (go_at_call 43; refine (H1.out _ _ _ (HL.out _).1 (HL.out _).2.2.2).mono ?_; rintro e w' ⟨rfl, rfl⟩) | (go_at_call 44; refine (H2.out _ _ _ (HL.out _).1 (HL.out _).2.2.1).mono ?_; rintro e w' ⟨rfl, rfl⟩) | (go_at_call 45; refine (H3.out _ _ _ (HL.out _).1 (HL.out _).2.1).mono ?_; rintro e w' ⟨rfl, rfl⟩)))
    go_ret
    exact ⟨rfl, HB.out _ _ _⟩
set_option maxHeartbeats 400000 in
theorem rlevel_any (a b c x : Int) (w : World) : Calls Try.prog 38 #[mk a b c, .int .i64 x] w fun e w' => e = .returned (.int .i64 (lvV a b c x)) ∧ Ev w w' := by
  rcases lv_cases a b c x with ⟨h1, e⟩ | ⟨h1, h2, e⟩ | ⟨h1, h2, h3, e⟩ | ⟨h1, h2, h3, e⟩
  all_goals
    rw [e]
    clear e
    go_enter Try.func38, Try.ntmps38
    go_wp2_with fail
    go_ret
    exact ⟨rfl, al1 _ _⟩
theorem nx_cases (a b c x : Int) (aw : Bool) (h : b < c) (_ : a < b) : (lvV a b c x = 0 ∧ nxV b c aw x = false) ∨ (lvV a b c x = 1 ∧ nxV b c aw x = aw) ∨ (2 ≤ lvV a b c x ∧ lvV a b c x ≤ 3 ∧ nxV b c aw x = true) := by
  rcases lv_cases a b c x with ⟨h1, e⟩ | ⟨h1, h2, e⟩ | ⟨h1, h2, h3, e⟩ | ⟨h1, h2, h3, e⟩
  · refine .inl ⟨e, ?_⟩
    unfold nxV
    simp
    exact ⟨by omega, fun _ => h1⟩
  · refine .inr (.inl ⟨e, ?_⟩)
    unfold nxV
    rw [decide_eq_false (by omega), decide_eq_true h1]
    simp
  · refine .inr (.inr ⟨by omega, by omega, ?_⟩)
    unfold nxV
    rw [decide_eq_true h2]
    simp
  · refine .inr (.inr ⟨by omega, by omega, ?_⟩)
    unfold nxV
    rw [decide_eq_true h2]
    simp
set_option maxHeartbeats 400000 in
theorem next1_any (a b c x : Int) (aw : Bool) (w : World) (hab : a < b) (hbc : b < c) : Calls Try.prog 39 #[mk a b c, .bool aw, .int .i64 x] w fun e w' => e = .returned (.bool (nxV b c aw x)) ∧ Ev w w' := by
  have H : Hid (∀ W, Calls Try.prog 36 #[mk a b c, .int .i64 x] W fun e w' => e = .returned (.int .i64 (lvV a b c x)) ∧ Ev W w') := Lib.hid fun W => level_any a b c x W
  rcases nx_cases a b c x aw hbc hab with ⟨h1, e⟩ | ⟨h1, e⟩ | ⟨h1, h2, e⟩
  · rw [e]
    rw [h1] at H
    clear e h1
    go_enter Try.func39, Try.ntmps39
    go_wp2_with fail
    refine (H.out _).mono ?_
    rintro e w1 ⟨rfl, hev⟩
    have he := ((Ev.refl w).alloc (mb a b c)).step hev
    clear hev
    go_wp2_with fail
    go_ret
    exact ⟨rfl, he⟩
  · rw [e]
    rw [h1] at H
    clear e h1
    go_enter Try.func39, Try.ntmps39
    go_wp2_with fail
    refine (H.out _).mono ?_
    rintro e w1 ⟨rfl, hev⟩
    have he := ((Ev.refl w).alloc (mb a b c)).step hev
    clear hev
    go_wp2_with fail
    go_ret
    exact ⟨rfl, he⟩
  · rw [e]
    clear e
    generalize lvV a b c x = l at *
    have g0 : (l == 0) = false := by simp; omega
    have g1 : (l == 1) = false := by simp; omega
    clear h1 h2
    go_enter Try.func39, Try.ntmps39
    go_wp2_with fail
    refine (H.out _).mono ?_
    rintro e w1 ⟨rfl, hev⟩
    have he := ((Ev.refl w).alloc (mb a b c)).step hev
    clear hev
    go_wp2_with fail
    go_ret
    exact ⟨rfl, he⟩
set_option maxHeartbeats 400000 in
theorem rnext1_any (a b c x : Int) (aw : Bool) (w : World) (_hbc : b < c) : Calls Try.prog 40 #[mk a b c, .bool aw, .int .i64 x] w fun e w' => e = .returned (.bool (nxV b c aw x)) ∧ Ev w w' := by
  have hv : nxV b c aw x = (decide (x < b) || (aw && decide (x < c))) := rfl
  rw [hv]
  clear hv
  by_cases h1 : x < b
  · rw [decide_eq_true h1]
    go_enter Try.func40, Try.ntmps40
    go_wp2_with fail
    go_ret
    exact ⟨ret_b (by simp; try omega), al1 _ _⟩
  · have h1' : b ≤ x := by omega
    rw [decide_eq_false h1]
    clear h1
    cases aw
    · go_enter Try.func40, Try.ntmps40
      go_wp2_with fail
      go_ret
      exact ⟨ret_b (by simp; try omega), al1 _ _⟩
    · go_enter Try.func40, Try.ntmps40
      go_wp2_with fail
      go_ret
      exact ⟨ret_b (by simp; omega), al1 _ _⟩
end Go.Proofs.Ytnlbkaabhnkkfaa
