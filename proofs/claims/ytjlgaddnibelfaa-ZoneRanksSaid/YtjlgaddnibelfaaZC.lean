import Derived.Test.YtjlgaddnibelfaaZB
namespace Go.Proofs.Ytjlgaddnibelfaa
open Go.RowKit

/-- what the law finds -/
def Sum1 (w0 : World) (mn lo hi c free k g mo : Int) : Prop :=
  (∀ W, Ev w0 W → Calls Try.prog 13 #[mk mn lo hi, .int .i64 c, .int .i64 free, .int .i64 k] W fun e w' => e = .returned (.tuple #[.int .i64 g, .int .i64 (free - g), .int .i64 0]) ∧ Ev w0 w') ∧
  (∀ W, Ev w0 W → Calls Try.prog 15 #[mk mn lo hi, .int .i64 c, .int .i64 free, .int .i64 k] W fun e w' => e = .returned (.tuple #[.int .i64 mo, .int .i64 0]) ∧ Ev w0 w') ∧
  (∀ W, Ev w0 W → Calls Try.prog 13 #[mk mn lo hi, .int .i64 c, .int .i64 (free + mo), .int .i64 k] W fun e w' => e = .returned (.tuple #[.int .i64 k, .int .i64 (free + mo - k), .int .i64 0]) ∧ Ev w0 w')
theorem sum_facts (w0 : World) {mn lo hi c free k : Int} (p1 : 0 ≤ mn) (p2 : mn ≤ 19) (p3 : mn < lo) (p4 : lo ≤ mn + 20) (p5 : lo < hi) (p6 : hi ≤ lo + 20) (p7 : 1 ≤ c) (p8 : c ≤ 3) (p9 : 0 ≤ free) (p10 : free ≤ 99) (k0 : 0 ≤ k) (k1 : k < 60) :
    ∃ g mo f : Int, Sum1 w0 mn lo hi c free k g mo ∧ (c = 1 → f = mn) ∧ (c = 3 → f = hi) ∧ (c = 2 → f = 0) ∧ ((mo = 0 ∧ g = k ∧ (0 < k → f ≤ free - k)) ∨ (0 < mo ∧ mo ≤ 200 ∧ 0 ≤ g ∧ g < k ∧ (0 < g → f ≤ free - g) ∧
      ∃ few : Int, few < k ∧ ∀ W, Ev w0 W → Calls Try.prog 13 #[mk mn lo hi, .int .i64 c, .int .i64 (free + mo - 1), .int .i64 k] W fun e w' => e = .returned (.tuple #[.int .i64 few, .int .i64 (free + mo - 1 - few), .int .i64 0]) ∧ Ev w0 w')) := by
  have hf : (c = 1 → flr mn hi c = mn) ∧ (c = 3 → flr mn hi c = hi) ∧ (c = 2 → flr mn hi c = 0) := by
    unfold flr
    refine ⟨fun h => if_pos h, fun h => ?_, fun h => ?_⟩
    · rw [if_neg (by omega), if_pos h]
    · rw [if_neg (by omega), if_neg (by omega)]
  have hb : 0 ≤ flr mn hi c ∧ flr mn hi c ≤ 59 := by unfold flr; (repeat' split) <;> omega
  have G1 : gotV mn hi c free k = min k (max (free - flr mn hi c) 0) := rfl
  have hmo : ∃ mo : Int, mo = (if k = 0 then 0 else max (flr mn hi c + k - free) 0) := ⟨_, rfl⟩
  obtain ⟨mo, hmo⟩ := hmo
  have hmo1 : 0 ≤ mo ∧ mo ≤ 120 ∧ (k = 0 → mo = 0) ∧ (k ≠ 0 → mo = max (flr mn hi c + k - free) 0) := by
    rw [hmo]
    split
    · exact ⟨by omega, by omega, fun _ => rfl, fun h => absurd ‹_› h⟩
    · exact ⟨by omega, by omega, fun h => absurd h ‹_›, fun _ => rfl⟩
  have G2 : gotV mn hi c (free + mo) k = min k (max (free + mo - flr mn hi c) 0) := rfl
  have G3 : gotV mn hi c (free + mo - 1) k = min k (max (free + mo - 1 - flr mn hi c) 0) := rfl
  have G2' : gotV mn hi c (free + mo) k = k := by rw [G2]; omega
  refine ⟨gotV mn hi c free k, mo, flr mn hi c, ⟨fun W h => ev_call h (take_at (by omega) W), fun W h => ev_call h ?_, fun W h => ev_call h ?_⟩, hf.1, hf.2.1, hf.2.2, ?_⟩
  · have := need_at (mn := mn) (lo := lo) (hi := hi) (c := c) (free := free) (n := k) (by omega) W
    rw [← hmo] at this
    exact this
  · have := take_at (mn := mn) (lo := lo) (hi := hi) (c := c) (free := free + mo) (n := k) (by omega) W
    rw [G2'] at this
    exact this
  · rcases (show mo = 0 ∨ 0 < mo by omega) with h | h
    · exact .inl ⟨h, by rw [G1]; omega, fun h => by omega⟩
    · refine .inr ⟨h, by omega, by rw [G1]; omega, by rw [G1]; omega, fun h => by rw [G1] at h ⊢; omega, gotV mn hi c (free + mo - 1) k, by rw [G3]; omega, fun W h => ev_call h (take_at (by omega) W)⟩
set_option maxRecDepth 100000 in
set_option maxHeartbeats 4000000 in
theorem sums_any (n m : Int) (w : World) : Calls Try.prog 7 #[.int .i64 n, .int .i64 m] w fun e w' => e = .returned (.bool true) ∧ Below w.heap.size w w' := by
  have HK := Lib.hid known_any
  have HM := Lib.hid fun W => made_any n W
  have HD := Lib.hid fun W => mod_any m 60 W (by omega) (by omega)
  obtain ⟨m0, m1⟩ : 0 ≤ m % 60 ∧ m % 60 < 60 := by omega
  generalize m % 60 = k at *
  go_enter Try.func7, Try.ntmps7
  go_wp2_with fail
  refine (HK.out _).mono ?_
  rintro e w1 ⟨rfl, hb1⟩
  go_wp2_with fail
  refine (HM.out _).mono ?_
  rintro e w2 ⟨mn, lo, hi, c, free, rfl, p1, p2, p3, p4, p5, p6, p7, p8, p9, p10, hb2⟩
  have HB : Hid (∀ X, Ev (w2.alloc (.cells #[.int .i64 mn, .int .i64 lo, .int .i64 hi] 23)) X → Below w.heap.size w X) := Lib.hid fun X h =>
    (hb1.trans (hb2.mono hb1.size)).trans ((nxt0 h).mono (by have := hb1.size; have := hb2.size; omega))
  have S0 : Hid (∀ X, Ev (w2.alloc (.cells #[.int .i64 mn, .int .i64 lo, .int .i64 hi] 23)) X → Box3 X w2.heap.size mn lo hi) := Lib.hid fun X h => (show Box3 (w2.alloc (.cells #[.int .i64 mn, .int .i64 lo, .int .i64 hi] 23)) w2.heap.size mn lo hi by unfold Box3; simp).ev (by simp) h
  obtain ⟨g, mo, f, sf, f1, f2, f3, hcase⟩ := sum_facts (w2.alloc (.cells #[.int .i64 mn, .int .i64 lo, .int .i64 hi] 23)) p1 p2 p3 p4 p5 p6 p7 p8 p9 p10 m0 m1
  obtain ⟨s1, s2, s3⟩ := sf
  have HS1 := Lib.hid s1
  have HS2 := Lib.hid s2
  have HS3 := Lib.hid s3
  clear hb1 hb2 HM HK s1 s2 s3
  go_wp2_with fail
  refine (HD.out _).mono ?_
  rintro e w2' ⟨rfl, rfl⟩
  have hev := Ev.refl (w2.alloc (.cells #[.int .i64 mn, .int .i64 lo, .int .i64 hi] 23))
  rcases hcase with ⟨rfl, rfl, hk⟩ | ⟨q1, q2, q3, q4, q5, few, q6, s4⟩
  · clear HS3
    have e1 : (g + (free - g) != free) = false := by simp; omega
    rcases (show c = 1 ∨ c = 2 ∨ c = 3 by omega) with rfl | rfl | rfl
    all_goals
      simp at f1 f2 f3
      try have f1' := Int.le_of_eq f1.symm
      try have f2' := Int.le_of_eq f2.symm
      try have f3' := Int.le_of_eq f3.symm
      clear f1 f2 f3
      rcases (show g = 0 ∨ 0 < g by omega) with rfl | hg
      · clear hk
        go_wp2_with fail
        refine (HS1.out _ hev).mono ?_
        clear hev
        rintro e w3 ⟨rfl, hev⟩
        obtain ⟨x0, x1, x2⟩ := S0.out _ hev
        go_wp2_with fail
        refine (HS2.out _ hev).mono ?_
        clear hev x0 x1 x2
        rintro e w4 ⟨rfl, hev⟩
        obtain ⟨x0, x1, x2⟩ := S0.out _ hev
        go_wp2_with fail
        refine (HS1.out _ hev).mono ?_
        clear hev x0 x1 x2
        rintro e w5 ⟨rfl, hev⟩
        go_wp2_with fail
        go_ret
        exact ⟨rfl, HB.out _ hev⟩
      · replace hk := hk hg
        go_wp2_with fail
        refine (HS1.out _ hev).mono ?_
        clear hev
        rintro e w3 ⟨rfl, hev⟩
        obtain ⟨x0, x1, x2⟩ := S0.out _ hev
        go_wp2_with fail
        refine (HS2.out _ hev).mono ?_
        clear hev x0 x1 x2
        rintro e w4 ⟨rfl, hev⟩
        obtain ⟨x0, x1, x2⟩ := S0.out _ hev
        go_wp2_with fail
        refine (HS1.out _ hev).mono ?_
        clear hev x0 x1 x2
        rintro e w5 ⟨rfl, hev⟩
        go_wp2_with fail
        go_ret
        exact ⟨rfl, HB.out _ hev⟩
  · have e1 : (g + (free - g) != free) = false := by simp; omega
    have e2 : (mo == 0) = false := by simp; omega
    have e3 : (g == k) = false := by simp; omega
    have HS4 := Lib.hid s4
    clear s4
    rcases (show c = 1 ∨ c = 2 ∨ c = 3 by omega) with rfl | rfl | rfl
    all_goals
      simp at f1 f2 f3
      try have f1' := Int.le_of_eq f1.symm
      try have f2' := Int.le_of_eq f2.symm
      try have f3' := Int.le_of_eq f3.symm
      clear f1 f2 f3
      rcases (show g = 0 ∨ 0 < g by omega) with rfl | hg
      · clear q5
        go_wp2_with fail
        refine (HS1.out _ hev).mono ?_
        clear hev
        rintro e w3 ⟨rfl, hev⟩
        obtain ⟨x0, x1, x2⟩ := S0.out _ hev
        go_wp2_with fail
        refine (HS2.out _ hev).mono ?_
        clear hev x0 x1 x2
        rintro e w4 ⟨rfl, hev⟩
        obtain ⟨x0, x1, x2⟩ := S0.out _ hev
        go_wp2_with fail
        refine (HS3.out _ hev).mono ?_
        clear hev x0 x1 x2
        rintro e w5 ⟨rfl, hev⟩
        obtain ⟨x0, x1, x2⟩ := S0.out _ hev
        go_wp2_with fail
        refine (HS4.out _ hev).mono ?_
        clear hev x0 x1 x2
        rintro e w6 ⟨rfl, hev⟩
        go_wp2_with fail
        go_ret
        exact ⟨rfl, HB.out _ hev⟩
      · replace q5 := q5 hg
        go_wp2_with fail
        refine (HS1.out _ hev).mono ?_
        clear hev
        rintro e w3 ⟨rfl, hev⟩
        obtain ⟨x0, x1, x2⟩ := S0.out _ hev
        go_wp2_with fail
        refine (HS2.out _ hev).mono ?_
        clear hev x0 x1 x2
        rintro e w4 ⟨rfl, hev⟩
        obtain ⟨x0, x1, x2⟩ := S0.out _ hev
        go_wp2_with fail
        refine (HS3.out _ hev).mono ?_
        clear hev x0 x1 x2
        rintro e w5 ⟨rfl, hev⟩
        obtain ⟨x0, x1, x2⟩ := S0.out _ hev
        go_wp2_with fail
        refine (HS4.out _ hev).mono ?_
        clear hev x0 x1 x2
        rintro e w6 ⟨rfl, hev⟩
        go_wp2_with fail
        go_ret
        exact ⟨rfl, HB.out _ hev⟩
end Go.Proofs.Ytjlgaddnibelfaa
