import Derived.Test.YtnlbkaabhnkkfaaP4
namespace Go.Proofs.Ytnlbkaabhnkkfaa
open Go.RowKit
def lqV (a b c x : Int) : Int := if asE a b c [x] = 0 then lvV a b c x else 0
def nqV (a b c : Int) (aw : Bool) (x : Int) : Bool := if asE a b c [x] = 0 then nxV b c aw x else false
def msV (a b c : Int) (aw : Bool) (x : Int) : Int := if asE a b c [x] = 0 ∧ nxV b c aw x = true then c - x else 0
set_option maxHeartbeats 400000 in
theorem Level_any (a b c x : Int) (w : World) : Calls Try.prog 9 #[mk a b c, .int .i64 x] w fun e w' => e = .returned (.tuple #[.int .i64 (lqV a b c x), .int .i64 (asE a b c [x])]) ∧ Ev w w' := by
  have H1 : Hid (∀ W, W = q2w w a b c x → Calls Try.prog 35 #[mk a b c, .slice (some ⟨w.heap.size + 1, 0, none⟩) 1 1] W fun e w' => e = .returned (.int .i64 (asE a b c [x])) ∧ Ev W w') := Lib.hid fun W hW => by
    subst hW
    have h := chk_any a b c (some ⟨w.heap.size + 1, 0, none⟩) 1 [x] (q2w w a b c x) (by have := RdI.one (w.alloc (mb a b c)) x 3; simpa using this)
    exact h
  have HB := Lib.hid (q2_in w a b c x)
  by_cases h : asE a b c [x] = 0
  · have e : lqV a b c x = lvV a b c x := by unfold lqV; rw [if_pos h]
    have hm := mkE_ok (asE_ok h).1
    have H2 : Hid (∀ W, Calls Try.prog 36 #[mk a b c, .int .i64 x] W fun e w' => e = .returned (.int .i64 (lvV a b c x)) ∧ Ev W w') := Lib.hid fun W => level_any a b c x W
    rw [e, h]
    rw [h] at H1
    clear e h hm
    generalize lvV a b c x = v at *
    go_enter Try.func9, Try.ntmps9
    go_wp2_with fail
    refine (H1.out _ rfl).mono ?_
    rintro e w1 ⟨rfl, hev⟩
    obtain ⟨⟨x0, x1, x2⟩, hE⟩ := HB.out _ hev
    go_wp2_with fail
    refine (H2.out _).mono ?_
    rintro e w2 ⟨rfl, hev2⟩
    have hf := hE.step hev2
    clear hev hev2 hE x0 x1 x2
    go_wp2_with fail
    go_ret2
    exact ⟨rfl, hf⟩
  · have e : lqV a b c x = 0 := by unfold lqV; rw [if_neg h]
    have h' : (asE a b c [x] != 0) = true := by simpa using h
    rw [e]
    clear e h
    generalize asE a b c [x] = er at *
    go_enter Try.func9, Try.ntmps9
    go_wp2_with fail
    refine (H1.out _ rfl).mono ?_
    rintro e w1 ⟨rfl, hev⟩
    obtain ⟨⟨x0, x1, x2⟩, hE⟩ := HB.out _ hev
    go_wp2_with fail
    go_ret2
    exact ⟨rfl, hE⟩
set_option maxHeartbeats 400000 in
theorem rLevel_any (a b c x : Int) (w : World) : Calls Try.prog 10 #[mk a b c, .int .i64 x] w fun e w' => e = .returned (.tuple #[.int .i64 (lqV a b c x), .int .i64 (asE a b c [x])]) ∧ Ev w w' := by
  have H1 : Hid (∀ W, W = q2w w a b c x → Calls Try.prog 37 #[mk a b c, .slice (some ⟨w.heap.size + 1, 0, none⟩) 1 1] W fun e w' => e = .returned (.int .i64 (asE a b c [x])) ∧ Ev W w') := Lib.hid fun W hW => by
    subst hW
    have h := asks_any a b c (some ⟨w.heap.size + 1, 0, none⟩) 1 [x] (q2w w a b c x) (by have := RdI.one (w.alloc (mb a b c)) x 3; simpa using this)
    exact h
  have HB := Lib.hid (q2_in w a b c x)
  by_cases h : asE a b c [x] = 0
  · have e : lqV a b c x = lvV a b c x := by unfold lqV; rw [if_pos h]
    have hm := mkE_ok (asE_ok h).1
    have H2 : Hid (∀ W, Calls Try.prog 38 #[mk a b c, .int .i64 x] W fun e w' => e = .returned (.int .i64 (lvV a b c x)) ∧ Ev W w') := Lib.hid fun W => rlevel_any a b c x W
    rw [e, h]
    rw [h] at H1
    clear e h hm
    generalize lvV a b c x = v at *
    go_enter Try.func10, Try.ntmps10
    go_wp2_with fail
    refine (H1.out _ rfl).mono ?_
    rintro e w1 ⟨rfl, hev⟩
    obtain ⟨⟨x0, x1, x2⟩, hE⟩ := HB.out _ hev
    go_wp2_with fail
    refine (H2.out _).mono ?_
    rintro e w2 ⟨rfl, hev2⟩
    have hf := hE.step hev2
    clear hev hev2 hE x0 x1 x2
    go_wp2_with fail
    go_ret2
    exact ⟨rfl, hf⟩
  · have e : lqV a b c x = 0 := by unfold lqV; rw [if_neg h]
    have h' : (asE a b c [x] != 0) = true := by simpa using h
    rw [e]
    clear e h
    generalize asE a b c [x] = er at *
    go_enter Try.func10, Try.ntmps10
    go_wp2_with fail
    refine (H1.out _ rfl).mono ?_
    rintro e w1 ⟨rfl, hev⟩
    obtain ⟨⟨x0, x1, x2⟩, hE⟩ := HB.out _ hev
    go_wp2_with fail
    go_ret2
    exact ⟨rfl, hE⟩
set_option maxHeartbeats 400000 in
theorem Next_any (a b c x : Int) (aw : Bool) (w : World) : Calls Try.prog 13 #[mk a b c, .bool aw, .int .i64 x] w fun e w' => e = .returned (.tuple #[.bool (nqV a b c aw x), .int .i64 (asE a b c [x])]) ∧ Ev w w' := by
  have H1 : Hid (∀ W, W = q2w w a b c x → Calls Try.prog 35 #[mk a b c, .slice (some ⟨w.heap.size + 1, 0, none⟩) 1 1] W fun e w' => e = .returned (.int .i64 (asE a b c [x])) ∧ Ev W w') := Lib.hid fun W hW => by
    subst hW
    have h := chk_any a b c (some ⟨w.heap.size + 1, 0, none⟩) 1 [x] (q2w w a b c x) (by have := RdI.one (w.alloc (mb a b c)) x 3; simpa using this)
    exact h
  have HB := Lib.hid (q2_in w a b c x)
  by_cases h : asE a b c [x] = 0
  · have e : nqV a b c aw x = nxV b c aw x := by unfold nqV; rw [if_pos h]
    have hm := mkE_ok (asE_ok h).1
    have H2 : Hid (∀ W, Calls Try.prog 39 #[mk a b c, .bool aw, .int .i64 x] W fun e w' => e = .returned (.bool (nxV b c aw x)) ∧ Ev W w') := Lib.hid fun W => next1_any a b c x aw W (by omega) (by omega)
    rw [e, h]
    rw [h] at H1
    clear e h hm
    generalize nxV b c aw x = v at *
    go_enter Try.func13, Try.ntmps13
    go_wp2_with fail
    refine (H1.out _ rfl).mono ?_
    rintro e w1 ⟨rfl, hev⟩
    obtain ⟨⟨x0, x1, x2⟩, hE⟩ := HB.out _ hev
    go_wp2_with fail
    refine (H2.out _).mono ?_
    rintro e w2 ⟨rfl, hev2⟩
    have hf := hE.step hev2
    clear hev hev2 hE x0 x1 x2
    go_wp2_with fail
    go_ret2
    exact ⟨rfl, hf⟩
  · have e : nqV a b c aw x = false := by unfold nqV; rw [if_neg h]
    have h' : (asE a b c [x] != 0) = true := by simpa using h
    rw [e]
    clear e h
    generalize asE a b c [x] = er at *
    go_enter Try.func13, Try.ntmps13
    go_wp2_with fail
    refine (H1.out _ rfl).mono ?_
    rintro e w1 ⟨rfl, hev⟩
    obtain ⟨⟨x0, x1, x2⟩, hE⟩ := HB.out _ hev
    go_wp2_with fail
    go_ret2
    exact ⟨rfl, hE⟩
set_option maxHeartbeats 400000 in
theorem rNext_any (a b c x : Int) (aw : Bool) (w : World) : Calls Try.prog 14 #[mk a b c, .bool aw, .int .i64 x] w fun e w' => e = .returned (.tuple #[.bool (nqV a b c aw x), .int .i64 (asE a b c [x])]) ∧ Ev w w' := by
  have H1 : Hid (∀ W, W = q2w w a b c x → Calls Try.prog 37 #[mk a b c, .slice (some ⟨w.heap.size + 1, 0, none⟩) 1 1] W fun e w' => e = .returned (.int .i64 (asE a b c [x])) ∧ Ev W w') := Lib.hid fun W hW => by
    subst hW
    have h := asks_any a b c (some ⟨w.heap.size + 1, 0, none⟩) 1 [x] (q2w w a b c x) (by have := RdI.one (w.alloc (mb a b c)) x 3; simpa using this)
    exact h
  have HB := Lib.hid (q2_in w a b c x)
  by_cases h : asE a b c [x] = 0
  · have e : nqV a b c aw x = nxV b c aw x := by unfold nqV; rw [if_pos h]
    have hm := mkE_ok (asE_ok h).1
    have H2 : Hid (∀ W, Calls Try.prog 40 #[mk a b c, .bool aw, .int .i64 x] W fun e w' => e = .returned (.bool (nxV b c aw x)) ∧ Ev W w') := Lib.hid fun W => rnext1_any a b c x aw W (by omega)
    rw [e, h]
    rw [h] at H1
    clear e h hm
    generalize nxV b c aw x = v at *
    go_enter Try.func14, Try.ntmps14
    go_wp2_with fail
    refine (H1.out _ rfl).mono ?_
    rintro e w1 ⟨rfl, hev⟩
    obtain ⟨⟨x0, x1, x2⟩, hE⟩ := HB.out _ hev
    go_wp2_with fail
    refine (H2.out _).mono ?_
    rintro e w2 ⟨rfl, hev2⟩
    have hf := hE.step hev2
    clear hev hev2 hE x0 x1 x2
    go_wp2_with fail
    go_ret2
    exact ⟨rfl, hf⟩
  · have e : nqV a b c aw x = false := by unfold nqV; rw [if_neg h]
    have h' : (asE a b c [x] != 0) = true := by simpa using h
    rw [e]
    clear e h
    generalize asE a b c [x] = er at *
    go_enter Try.func14, Try.ntmps14
    go_wp2_with fail
    refine (H1.out _ rfl).mono ?_
    rintro e w1 ⟨rfl, hev⟩
    obtain ⟨⟨x0, x1, x2⟩, hE⟩ := HB.out _ hev
    go_wp2_with fail
    go_ret2
    exact ⟨rfl, hE⟩
set_option maxHeartbeats 400000 in
theorem Missing_any (a b c x : Int) (aw : Bool) (w : World) : Calls Try.prog 15 #[mk a b c, .bool aw, .int .i64 x] w fun e w' => e = .returned (.tuple #[.int .i64 (msV a b c aw x), .int .i64 (asE a b c [x])]) ∧ Ev w w' := by
  have H : Hid (∀ W, Calls Try.prog 13 #[mk a b c, .bool aw, .int .i64 x] W fun e w' => e = .returned (.tuple #[.bool (nqV a b c aw x), .int .i64 (asE a b c [x])]) ∧ Ev W w') := Lib.hid fun W => Next_any a b c x aw W
  have HB : Hid (∀ W, Ev (w.alloc (mb a b c)) W → W.cell? ⟨w.heap.size, 2, none⟩ = some (.int .i64 c) ∧ Ev w W) := Lib.hid fun W e => ⟨by rw [e.cell (by simp)]; simp, ((Ev.refl w).alloc _).step e⟩
  by_cases h : asE a b c [x] = 0
  · have hm := mkE_ok (asE_ok h).1
    have hx := (hsE_ok (asE_ok h).2).2 x (by simp)
    have e0 : nqV a b c aw x = nxV b c aw x := by unfold nqV; rw [if_pos h]
    rw [e0, h] at H
    rw [h]
    cases hn : nxV b c aw x with
    | true =>
      have e : msV a b c aw x = c - x := by unfold msV; rw [if_pos ⟨h, hn⟩]
      rw [e]
      rw [hn] at H
      clear e e0 h hn
      go_enter Try.func15, Try.ntmps15
      go_wp2_with fail
      refine (H.out _).mono ?_
      rintro e w1 ⟨rfl, hev⟩
      obtain ⟨x2, hE⟩ := HB.out _ hev
      go_wp2_with fail
      go_ret2
      exact ⟨rfl, hE⟩
    | false =>
      have e : msV a b c aw x = 0 := by unfold msV; rw [if_neg (by rw [hn]; simp)]
      rw [e]
      rw [hn] at H
      clear e e0 h hn
      go_enter Try.func15, Try.ntmps15
      go_wp2_with fail
      refine (H.out _).mono ?_
      rintro e w1 ⟨rfl, hev⟩
      obtain ⟨x2, hE⟩ := HB.out _ hev
      go_wp2_with fail
      go_ret2
      exact ⟨rfl, hE⟩
  · have e : msV a b c aw x = 0 := by unfold msV; rw [if_neg (fun hh => h hh.1)]
    have h' : (asE a b c [x] != 0) = true := by simpa using h
    rw [e]
    clear e h
    generalize asE a b c [x] = er at *
    generalize nqV a b c aw x = nv at *
    go_enter Try.func15, Try.ntmps15
    go_wp2_with fail
    refine (H.out _).mono ?_
    rintro e w1 ⟨rfl, hev⟩
    obtain ⟨x2, hE⟩ := HB.out _ hev
    go_wp2_with fail
    go_ret2
    exact ⟨rfl, hE⟩
set_option maxHeartbeats 400000 in
theorem rMissing_any (a b c x : Int) (aw : Bool) (w : World) : Calls Try.prog 16 #[mk a b c, .bool aw, .int .i64 x] w fun e w' => e = .returned (.tuple #[.int .i64 (msV a b c aw x), .int .i64 (asE a b c [x])]) ∧ Ev w w' := by
  have H : Hid (∀ W, Calls Try.prog 14 #[mk a b c, .bool aw, .int .i64 x] W fun e w' => e = .returned (.tuple #[.bool (nqV a b c aw x), .int .i64 (asE a b c [x])]) ∧ Ev W w') := Lib.hid fun W => rNext_any a b c x aw W
  have HB : Hid (∀ W, Ev (w.alloc (mb a b c)) W → W.cell? ⟨w.heap.size, 2, none⟩ = some (.int .i64 c) ∧ Ev w W) := Lib.hid fun W e => ⟨by rw [e.cell (by simp)]; simp, ((Ev.refl w).alloc _).step e⟩
  by_cases h : asE a b c [x] = 0
  · have hm := mkE_ok (asE_ok h).1
    have hx := (hsE_ok (asE_ok h).2).2 x (by simp)
    have e0 : nqV a b c aw x = nxV b c aw x := by unfold nqV; rw [if_pos h]
    rw [e0, h] at H
    rw [h]
    cases hn : nxV b c aw x with
    | true =>
      have e : msV a b c aw x = c - x := by unfold msV; rw [if_pos ⟨h, hn⟩]
      rw [e]
      rw [hn] at H
      clear e e0 h hn
      go_enter Try.func16, Try.ntmps16
      go_wp2_with fail
      refine (H.out _).mono ?_
      rintro e w1 ⟨rfl, hev⟩
      obtain ⟨x2, hE⟩ := HB.out _ hev
      go_wp2_with fail
      go_ret2
      exact ⟨rfl, hE⟩
    | false =>
      have e : msV a b c aw x = 0 := by unfold msV; rw [if_neg (by rw [hn]; simp)]
      rw [e]
      rw [hn] at H
      clear e e0 h hn
      go_enter Try.func16, Try.ntmps16
      go_wp2_with fail
      refine (H.out _).mono ?_
      rintro e w1 ⟨rfl, hev⟩
      obtain ⟨x2, hE⟩ := HB.out _ hev
      go_wp2_with fail
      go_ret2
      exact ⟨rfl, hE⟩
  · have e : msV a b c aw x = 0 := by unfold msV; rw [if_neg (fun hh => h hh.1)]
    have h' : (asE a b c [x] != 0) = true := by simpa using h
    rw [e]
    clear e h
    generalize asE a b c [x] = er at *
    generalize nqV a b c aw x = nv at *
    go_enter Try.func16, Try.ntmps16
    go_wp2_with fail
    refine (H.out _).mono ?_
    rintro e w1 ⟨rfl, hev⟩
    obtain ⟨x2, hE⟩ := HB.out _ hev
    go_wp2_with fail
    go_ret2
    exact ⟨rfl, hE⟩
end Go.Proofs.Ytnlbkaabhnkkfaa
