import Derived.Test.YtjlgaddnibelfaaZD
namespace Go.Proofs.Ytjlgaddnibelfaa
open Go.RowKit

theorem may_b {w0 : World} {mn lo hi c free : Int} (b : Bool) (h : 0 ≤ mn ∧ mn < lo ∧ lo < hi ∧ hi ≤ 256 ∧ 1 ≤ c ∧ c ≤ 3 ∧ 0 ≤ free ∧ free ≤ 256) (hb : decide (flr mn hi c < free) = b) : Hid (∀ W, Ev w0 W →
    Calls Try.prog 9 #[mk mn lo hi, .int .i64 c, .int .i64 free] W fun e w' => e = .returned (.tuple #[.bool b, .int .i64 0]) ∧ Ev w0 w') := Lib.hid fun W e => by
  subst hb
  exact ev_call e (may_at2 h W)
set_option maxRecDepth 100000 in
set_option maxHeartbeats 4000000 in
theorem ranks_any (n m : Int) (w : World) : Calls Try.prog 8 #[.int .i64 n, .int .i64 m] w fun e w' => e = .returned (.bool true) ∧ Below w.heap.size w w' := by
  have HK := Lib.hid known_any
  have HM := Lib.hid fun W => made_any n W
  have HD := Lib.hid fun W => mod_any m 100 W (by omega) (by omega)
  obtain ⟨m0, m1⟩ : 0 ≤ m % 100 ∧ m % 100 < 100 := by omega
  generalize m % 100 = k at *
  go_enter Try.func8, Try.ntmps8
  go_wp2_with fail
  refine (HK.out _).mono ?_
  rintro e w1 ⟨rfl, hb1⟩
  go_wp2_with fail
  refine (HM.out _).mono ?_
  rintro e w2 ⟨mn, lo, hi, c, free, rfl, p1, p2, p3, p4, p5, p6, p7, p8, p9, p10, hb2⟩
  have HB : Hid (∀ X, Ev (w2.alloc (.cells #[.int .i64 mn, .int .i64 lo, .int .i64 hi] 23)) X → Below w.heap.size w X) := Lib.hid fun X h =>
    (hb1.trans (hb2.mono hb1.size)).trans ((nxt0 h).mono (by have := hb1.size; have := hb2.size; omega))
  have S0 : Hid (∀ X, Ev (w2.alloc (.cells #[.int .i64 mn, .int .i64 lo, .int .i64 hi] 23)) X → Box3 X w2.heap.size mn lo hi) := Lib.hid fun X h => (show Box3 (w2.alloc (.cells #[.int .i64 mn, .int .i64 lo, .int .i64 hi] 23)) w2.heap.size mn lo hi by unfold Box3; simp).ev (by simp) h
  clear hb1 hb2 HM HK
  go_wp2_with fail
  refine (HD.out _).mono ?_
  rintro e w2' ⟨rfl, rfl⟩
  have hev := Ev.refl (w2.alloc (.cells #[.int .i64 mn, .int .i64 lo, .int .i64 hi] 23))
  generalize hw0 : (w2.alloc (.cells #[.int .i64 mn, .int .i64 lo, .int .i64 hi] 23)) = w0 at *
  go_wp2_with fail
  have F1 : flr mn hi 1 = mn := rfl
  have F2 : flr mn hi 2 = 0 := rfl
  have F3 : flr mn hi 3 = hi := rfl
  have L1 : Hid (∀ W, Ev w0 W → Calls Try.prog 18 #[mk mn lo hi, .int .i64 free] W fun e w' => e = .returned (.tuple #[.int .i64 (lv mn lo hi free), .int .i64 0]) ∧ Ev w0 w') := Lib.hid fun W h => ev_call h (lev_at (by omega) W)
  have L2 : Hid (∀ W, Ev w0 W → Calls Try.prog 18 #[mk mn lo hi, .int .i64 (free + k)] W fun e w' => e = .returned (.tuple #[.int .i64 (lv mn lo hi (free + k)), .int .i64 0]) ∧ Ev w0 w') := Lib.hid fun W h => ev_call h (lev_at (by omega) W)
  have K1 : Hid (∀ W, Ev w0 W → Calls Try.prog 20 #[mk mn lo hi, .int .i64 free, .bool true] W fun e w' => e = .returned (.tuple #[.bool (decide (free < hi)), .int .i64 0]) ∧ Ev w0 w') := Lib.hid fun W h => ev_call h (by
    have := awk_at (mn := mn) (lo := lo) (hi := hi) (free := free) (was := true) (by omega) W
    rw [show (decide (free < lo) || (decide (free < hi) && true)) = decide (free < hi) by rw [Bool.eq_iff_iff]; simp; omega] at this
    exact this)
  have K2 : Hid (∀ W, Ev w0 W → Calls Try.prog 20 #[mk mn lo hi, .int .i64 free, .bool false] W fun e w' => e = .returned (.tuple #[.bool (decide (free < lo)), .int .i64 0]) ∧ Ev w0 w') := Lib.hid fun W h => ev_call h (by
    have := awk_at (mn := mn) (lo := lo) (hi := hi) (free := free) (was := false) (by omega) W
    rw [show (decide (free < lo) || (decide (free < hi) && false)) = decide (free < lo) by simp] at this
    exact this)
  have hl : lv mn lo hi (free + k) ≤ lv mn lo hi free := by unfold lv; (repeat' split) <;> omega
  generalize lv mn lo hi (free + k) = la at *
  generalize lv mn lo hi free = lb at *
  obtain ⟨x0, x1, x2⟩ := S0.out _ hev
  have hcase : ∃ b1 b2 b3 a1 a2 a3 : Bool, (b3 = true → b1 = true) ∧ (b1 = true → b2 = true) ∧ (b1 = true → a1 = true) ∧ (b2 = true → a2 = true) ∧ (b3 = true → a3 = true) ∧ decide (flr mn hi 1 < free) = b1 ∧ decide (flr mn hi 2 < free) = b2 ∧ decide (flr mn hi 3 < free) = b3 ∧ decide (flr mn hi 1 < free + k) = a1 ∧ decide (flr mn hi 2 < free + k) = a2 ∧ decide (flr mn hi 3 < free + k) = a3 :=
    ⟨_, _, _, _, _, _, by rw [F1, F3]; simp; omega, by rw [F1, F2]; simp; omega, by rw [F1]; simp; omega, by rw [F2]; simp; omega, by rw [F3]; simp; omega, rfl, rfl, rfl, rfl, rfl, rfl⟩
  obtain ⟨b1, b2, b3, a1, a2, a3, g1, g2, g3, g4, g5, d1, d2, d3, d4, d5, d6⟩ := hcase
  have M1 := may_b (w0 := w0) (lo := lo) b1 (by omega) d1
  have M2 := may_b (w0 := w0) (lo := lo) b2 (by omega) d2
  have M3 := may_b (w0 := w0) (lo := lo) b3 (by omega) d3
  have N1 := may_b (w0 := w0) (lo := lo) a1 (by omega) d4
  have N2 := may_b (w0 := w0) (lo := lo) a2 (by omega) d5
  have N3 := may_b (w0 := w0) (lo := lo) a3 (by omega) d6
  have hcase2 : (b1 = false ∧ b2 = false ∧ b3 = false) ∨ (b1 = false ∧ b2 = true ∧ b3 = false ∧ a2 = true) ∨ (b1 = true ∧ b2 = true ∧ b3 = false ∧ a1 = true ∧ a2 = true) ∨ (b1 = true ∧ b2 = true ∧ b3 = true ∧ a1 = true ∧ a2 = true ∧ a3 = true) := by
    revert g1 g2 g3 g4 g5
    cases b1 <;> cases b2 <;> cases b3 <;> cases a1 <;> cases a2 <;> cases a3 <;> simp
  clear d1 d2 d3 d4 d5 d6 F1 F2 F3 g1 g2 g3 g4 g5
  rcases hcase2 with ⟨rfl, rfl, rfl⟩ | ⟨rfl, rfl, rfl, rfl⟩ | ⟨rfl, rfl, rfl, rfl, rfl⟩ | ⟨rfl, rfl, rfl, rfl, rfl, rfl⟩
  all_goals
    refine wp_loop_rounds 3 ?_
    rw [rounds_succ]
    go_wp2_with fail
    refine (M2.out _ hev).mono ?_
    clear hev x0 x1 x2
    rintro e v1 ⟨rfl, hev⟩
    obtain ⟨x0, x1, x2⟩ := S0.out _ hev
    go_wp2_with fail
    rw [rounds_succ]
    go_wp2_with fail
    refine (M1.out _ hev).mono ?_
    clear hev x0 x1 x2
    rintro e v2 ⟨rfl, hev⟩
    obtain ⟨x0, x1, x2⟩ := S0.out _ hev
    go_wp2_with fail
    rw [rounds_succ]
    go_wp2_with fail
    refine (M3.out _ hev).mono ?_
    clear hev x0 x1 x2
    rintro e v3 ⟨rfl, hev⟩
    obtain ⟨x0, x1, x2⟩ := S0.out _ hev
    go_wp2_with fail
    refine wp_loop_rounds 4 ?_
    rw [rounds_succ]
    go_wp2_with fail
    refine (M1.out _ hev).mono ?_
    clear hev x0 x1 x2
    rintro e v4 ⟨rfl, hev⟩
    obtain ⟨x0, x1, x2⟩ := S0.out _ hev
    go_wp2_with fail
    refine (N1.out _ hev).mono ?_
    clear hev x0 x1 x2
    rintro e v5 ⟨rfl, hev⟩
    obtain ⟨x0, x1, x2⟩ := S0.out _ hev
    go_wp2_with fail
    rw [rounds_succ]
    go_wp2_with fail
    refine (M2.out _ hev).mono ?_
    clear hev x0 x1 x2
    rintro e v6 ⟨rfl, hev⟩
    obtain ⟨x0, x1, x2⟩ := S0.out _ hev
    go_wp2_with fail
    refine (N2.out _ hev).mono ?_
    clear hev x0 x1 x2
    rintro e v7 ⟨rfl, hev⟩
    obtain ⟨x0, x1, x2⟩ := S0.out _ hev
    go_wp2_with fail
    rw [rounds_succ]
    go_wp2_with fail
    refine (M3.out _ hev).mono ?_
    clear hev x0 x1 x2
    rintro e v8 ⟨rfl, hev⟩
    obtain ⟨x0, x1, x2⟩ := S0.out _ hev
    go_wp2_with fail
    refine (N3.out _ hev).mono ?_
    clear hev x0 x1 x2
    rintro e v9 ⟨rfl, hev⟩
    obtain ⟨x0, x1, x2⟩ := S0.out _ hev
    go_wp2_with fail
    rw [rounds_succ]
    go_wp2_with fail
    refine (L1.out _ hev).mono ?_
    clear hev x0 x1 x2
    rintro e v10 ⟨rfl, hev⟩
    obtain ⟨x0, x1, x2⟩ := S0.out _ hev
    go_wp2_with fail
    refine (L2.out _ hev).mono ?_
    clear hev x0 x1 x2
    rintro e v11 ⟨rfl, hev⟩
    obtain ⟨x0, x1, x2⟩ := S0.out _ hev
    go_wp2_with fail
    refine (K1.out _ hev).mono ?_
    clear hev x0 x1 x2
    rintro e v12 ⟨rfl, hev⟩
    obtain ⟨x0, x1, x2⟩ := S0.out _ hev
    go_wp2_with fail
    refine (K2.out _ hev).mono ?_
    clear hev x0 x1 x2
    rintro e v13 ⟨rfl, hev⟩
    obtain ⟨x0, x1, x2⟩ := S0.out _ hev
    go_wp2_with fail
    go_ret
    exact ⟨rfl, HB.out _ hev⟩
end Go.Proofs.Ytjlgaddnibelfaa
