import Derived.Test.YtpgghbabhgfchaaA8
namespace Go.Proofs.Ytpgghbabhgfchaa
open Go.RowKit
/-- what two ranges have in common -/
theorem both_cases (a b c d : Int) : ∃ f t F T : Int, ∃ o : Bool, ((a < c ∧ f = c) ∨ (c < a ∧ f = a) ∨ (a = c ∧ f = a)) ∧ ((b < d ∧ t = b) ∨ (d < b ∧ t = d) ∨ (b = d ∧ t = b)) ∧ ((t < f ∧ F = 0 ∧ T = 0 ∧ o = false) ∨ (f ≤ t ∧ F = f ∧ T = t ∧ o = true)) ∧
    (∀ p : Int, (a ≤ p ∧ p ≤ b ∧ c ≤ p ∧ p ≤ d ∧ o = true ∧ F ≤ p ∧ p ≤ T) ∨ (p < a ∧ (o = false ∨ (o = true ∧ p < F))) ∨ (a ≤ p ∧ b < p ∧ (o = false ∨ (o = true ∧ p < F) ∨ (o = true ∧ F ≤ p ∧ T < p))) ∨ (a ≤ p ∧ p ≤ b ∧ p < c ∧ (o = false ∨ (o = true ∧ p < F))) ∨ (a ≤ p ∧ p ≤ b ∧ c ≤ p ∧ d < p ∧ (o = false ∨ (o = true ∧ F ≤ p ∧ T < p)))) := by
  refine ⟨if a < c then c else a, if b < d then b else d, if (if b < d then b else d) < (if a < c then c else a) then 0 else (if a < c then c else a), if (if b < d then b else d) < (if a < c then c else a) then 0 else (if b < d then b else d), if (if b < d then b else d) < (if a < c then c else a) then false else true, ?_, ?_, ?_, ?_⟩
  · split <;> omega
  · split <;> omega
  · by_cases h : (if b < d then b else d) < (if a < c then c else a)
    · left; simp [h]
    · right; simp [h]; omega
  · intro p
    by_cases h : (if b < d then b else d) < (if a < c then c else a)
    · simp only [if_pos h]
      simp
      split at h <;> split at h <;> omega
    · simp only [if_neg h]
      simp
      split at h <;> split at h <;> simp [*] <;> omega
set_option maxRecDepth 100000 in
set_option maxHeartbeats 8000000 in
theorem both_law (n m k : Int) (w : World) : Calls Try.prog 7 #[.int .i64 n, .int .i64 m, .int .i64 k] w fun e w' => e = .returned (.bool true) ∧ Ev w w' := by
  have K := Lib.hid fun W => mod_any k 64 W (by omega) (by omega)
  generalize k % 64 = p at *
  have M1 := Lib.hid (made_any n w)
  have M2 := Lib.hid fun W => made_any m W
  have AW := Lib.hid awake_any
  go_enter Try.func7, Try.ntmps7
  go_wp2_with fail
  refine M1.out.mono ?_
  rintro e w1 ⟨a, b, rfl, hab, hev⟩
  have HE := Lib.hid hev
  clear hev
  go_wp2_with fail
  refine (M2.out _).mono ?_
  rintro e w2 ⟨c, d, rfl, hcd, hev⟩
  have HE := Lib.hid (HE.out.step hev)
  clear hev
  go_wp2_with fail
  refine (K.out _).mono ?_
  rintro e w' ⟨rfl, rfl⟩
  obtain ⟨f, t, F, T, o, hf, ht, hr, hcs⟩ := both_cases a b c d
  have O1 := Lib.hid fun W => overlap_at a b c d f t F T o W hab hcd hf ht hr
  have O2 := Lib.hid fun W => overlap_at c d a b f t F T o W hcd hab (by omega) (by omega) hr
  have hcs := hcs p
  clear hab hcd hf ht hr
  have HX : Hid (B2 ((w2.alloc (oR a b)).alloc (oR c d)) w2.heap.size a b ∧ B2 ((w2.alloc (oR a b)).alloc (oR c d)) (w2.heap.size + 1) c d ∧ Ev w ((w2.alloc (oR a b)).alloc (oR c d))) := Lib.hid (by
    have s1 : (w2.alloc (oR a b)).heap.size = w2.heap.size + 1 := by simp
    refine ⟨(B2.new w2 a b).ev ((Ev.refl _).alloc _), ?_, (HE.out.alloc _).alloc _⟩
    have := B2.new (w2.alloc (oR a b)) c d
    rwa [s1] at this)
  obtain ⟨-, x1, x2, -, -⟩ := HX.out.1
  obtain ⟨-, x3, x4, -, -⟩ := HX.out.2.1
  go_wp2_with fail
  refine (O1.out _).mono ?_
  rintro e w4 ⟨rfl, hev⟩
  clear x1 x2 x3 x4
  have hev4 := hev.alloc (oR F T)
  have HX : Hid (B2 (w4.alloc (oR F T)) w2.heap.size a b ∧ B2 (w4.alloc (oR F T)) (w2.heap.size + 1) c d ∧ B2 (w4.alloc (oR F T)) w4.heap.size F T ∧ Ev w (w4.alloc (oR F T))) := Lib.hid ⟨HX.out.1.ev hev4, HX.out.2.1.ev hev4, B2.new _ _ _, HX.out.2.2.step hev4⟩
  clear hev hev4
  obtain ⟨-, x1, x2, -, -⟩ := HX.out.1
  obtain ⟨-, x3, x4, -, -⟩ := HX.out.2.1
  go_wp2_with fail
  refine (O2.out _).mono ?_
  rintro e w5 ⟨rfl, hev⟩
  clear x1 x2 x3 x4
  have hev5 := hev.alloc (oR F T)
  have HX : Hid (B2 (w5.alloc (oR F T)) w2.heap.size a b ∧ B2 (w5.alloc (oR F T)) (w2.heap.size + 1) c d ∧ B2 (w5.alloc (oR F T)) w4.heap.size F T ∧ Ev w (w5.alloc (oR F T))) := Lib.hid ⟨HX.out.1.ev hev5, HX.out.2.1.ev hev5, HX.out.2.2.1.ev hev5, HX.out.2.2.2.step hev5⟩
  clear hev hev5
  obtain ⟨-, x1, x2, -, -⟩ := HX.out.1
  obtain ⟨-, x3, x4, -, -⟩ := HX.out.2.1
  obtain ⟨-, x5, x6, -, -⟩ := HX.out.2.2.1
  have eo : (o != o) = false := by simp
  have HE := Lib.hid HX.out.2.2.2
  clear HX O1 O2 M1 M2 K
  rcases hcs with ⟨h1, h2, h3, h4, rfl, h5, h6⟩ | ⟨h1, rfl | ⟨rfl, h2⟩⟩ | ⟨h1, h2, rfl | ⟨rfl, h3⟩ | ⟨rfl, h3, h4⟩⟩ | ⟨h1, h2, h3, rfl | ⟨rfl, h4⟩⟩ | ⟨h1, h2, h3, h4, rfl | ⟨rfl, h5, h6⟩⟩
  all_goals
    go_wp2_with fail
    refine (AW.out _).mono ?_
    rintro e w6 ⟨rfl, hev⟩
    have HF := HE.out.step hev
    clear hev
    go_wp2_with fail
    go_ret
    refine ⟨?_, HF⟩
    first
      | rfl
      | (refine ret_b ?_; simp; omega)
      | (refine ret_b ?_; simp; done)
end Go.Proofs.Ytpgghbabhgfchaa
