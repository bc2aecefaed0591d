import Derived.Test.YtpgghbabhgfchaaC2
namespace Go.Proofs.Ytpgghbabhgfchaa
open Go.RowKit
/-- what two ranges have in common: the range, whether there is one, the error -/
structure OvV where
  f : Int
  t : Int
  o : Bool
  e : Int
def ov (a b c d : Int) : OvV := if ckE a b ≠ 0 then ⟨0, 0, false, ckE a b⟩ else if ckE c d ≠ 0 then ⟨0, 0, false, ckE c d⟩ else if min b d < max a c then ⟨0, 0, false, 0⟩ else ⟨max a c, min b d, true, 0⟩
theorem ck_two {f t : Int} (h : ckE f t ≠ 0) : ckE f t = 2 := by
  unfold ckE at *
  split
  · rfl
  · rename_i h1; rw [if_neg h1] at h; exact absurd rfl h
theorem ck_zero {f t : Int} (h : ckE f t = 0) : 0 ≤ f ∧ f ≤ t ∧ t < 64 := by
  unfold ckE at h
  split at h
  · cases h
  · omega
def OvQ (V : OvV) (W : World) (e : Ending) (w' : World) : Prop := e = .returned (.tuple #[rg V.f V.t, .bool V.o, .int .i64 V.e]) ∧ Ev W w'
theorem z25 {w w2 : World} {k : Nat} (h : B2 w2 k 0 0) (e : Ev w w2) (hk : w.heap.size ≤ k) (x y : Int) :
    ((w2.setCell ⟨k, 0, none⟩ (.int .i64 x)).setCell ⟨k, 1, none⟩ (.int .i64 y)).cell? ⟨k, 0, none⟩ = some (.int .i64 x) ∧
    ((w2.setCell ⟨k, 0, none⟩ (.int .i64 x)).setCell ⟨k, 1, none⟩ (.int .i64 y)).cell? ⟨k, 1, none⟩ = some (.int .i64 y) ∧
    Ev w ((w2.setCell ⟨k, 0, none⟩ (.int .i64 x)).setCell ⟨k, 1, none⟩ (.int .i64 y)) := by
  obtain ⟨h0, h1, h2, -, -⟩ := h
  refine ⟨?_, ?_, (e.setC hk _).setC hk _⟩
  · simp [h1, go_sem]
  · simp [h2, go_sem]
set_option maxHeartbeats 4000000 in
theorem overlap_bad (a b c d : Int) (w : World) (h : ckE a b = 2) :
    Calls Try.prog 25 #[rg a b, rg c d] w fun e w' => e = .returned (.tuple #[rg 0 0, .bool false, .int .i64 2]) ∧ Ev w w' := by
  have H1 := Lib.hid fun W => ck_of h W
  have HB := Lib.hid (b3 w a b c d)
  have HE : Hid (Ev w (((w.alloc (oR a b)).alloc (oR c d)).alloc (oR 0 0))) := Lib.hid ((((Ev.refl w).alloc _).alloc _).alloc _)
  have j0 := jx0
  have j1 := jx1
  clear h
  go_enter Try.func25, Try.ntmps25
  go_wp2_with fail
  refine wp_loop_rounds 3 ?_
  rw [rounds_succ]
  go_wp2_with fail
  refine (H1.out _).mono ?_
  rintro e w1 ⟨rfl, hev⟩
  have HB3 := Lib.hid ((HB.out.2.2.ev ((Ev.refl _).alloc _)).ev hev)
  have HE1 := Lib.hid ((HE.out.alloc _).step hev)
  have HF := Lib.hid (z25 HB3.out HE1.out (by omega) 0 0)
  clear hev
  obtain ⟨l3, c5, c6, c7, c8⟩ := HB3.out
  go_wp2_with fail
  obtain ⟨t0, t1, hE⟩ := HF.out
  exact bodyPost_ret (v := .tuple #[rg 0 0, .bool false, .int .i64 2]) (by simp [results, Try.results25, go_sem, t0, t1]) rfl ⟨rfl, hE⟩
set_option maxHeartbeats 4000000 in
theorem overlap_bad2 (a b c d : Int) (w : World) (h0 : ckE a b = 0) (h : ckE c d = 2) :
    Calls Try.prog 25 #[rg a b, rg c d] w fun e w' => e = .returned (.tuple #[rg 0 0, .bool false, .int .i64 2]) ∧ Ev w w' := by
  have H1 := Lib.hid fun W => ck_of h0 W
  have H2 := Lib.hid fun W => ck_of h W
  have HB := Lib.hid (b3 w a b c d)
  have HE : Hid (Ev w (((w.alloc (oR a b)).alloc (oR c d)).alloc (oR 0 0))) := Lib.hid ((((Ev.refl w).alloc _).alloc _).alloc _)
  have j0 := jx0
  have j1 := jx1
  clear h h0
  go_enter Try.func25, Try.ntmps25
  go_wp2_with fail
  refine wp_loop_rounds 3 ?_
  rw [rounds_succ]
  go_wp2_with fail
  refine (H1.out _).mono ?_
  rintro e w1 ⟨rfl, hev⟩
  have HB3 := Lib.hid ((HB.out.2.2.ev ((Ev.refl _).alloc _)).ev hev)
  have HE1 := Lib.hid ((HE.out.alloc _).step hev)
  clear hev
  go_wp2_with fail
  rw [rounds_succ]
  go_wp2_with fail
  refine (H2.out _).mono ?_
  rintro e w2 ⟨rfl, hev⟩
  have HB4 := Lib.hid ((HB3.out.ev ((Ev.refl _).alloc _)).ev hev)
  have HE2 := Lib.hid ((HE1.out.alloc _).step hev)
  have HF := Lib.hid (z25 HB4.out HE2.out (by omega) 0 0)
  clear hev
  obtain ⟨l3, c5, c6, c7, c8⟩ := HB4.out
  go_wp2_with fail
  obtain ⟨t0, t1, hE⟩ := HF.out
  exact bodyPost_ret (v := .tuple #[rg 0 0, .bool false, .int .i64 2]) (by simp [results, Try.results25, go_sem, t0, t1]) rfl ⟨rfl, hE⟩
theorem overlap_any (a b c d : Int) (w : World) : Calls Try.prog 25 #[rg a b, rg c d] w fun e w' => OvQ (ov a b c d) w e w' := by
  unfold ov OvQ
  by_cases h1 : ckE a b ≠ 0
  · rw [if_pos h1, ck_two h1]
    exact overlap_bad a b c d w (ck_two h1)
  · have h1' : ckE a b = 0 := Classical.not_not.1 h1
    rw [if_neg h1]
    by_cases h2 : ckE c d ≠ 0
    · rw [if_pos h2, ck_two h2]
      exact overlap_bad2 a b c d w h1' (ck_two h2)
    · have h2' : ckE c d = 0 := Classical.not_not.1 h2
      rw [if_neg h2]
      by_cases h3 : min b d < max a c
      · rw [if_pos h3]
        exact overlap_at a b c d (max a c) (min b d) 0 0 false w (ck_zero h1') (ck_zero h2') (by omega) (by omega) (.inl ⟨h3, rfl, rfl, rfl⟩)
      · rw [if_neg h3]
        exact overlap_at a b c d (max a c) (min b d) _ _ true w (ck_zero h1') (ck_zero h2') (by omega) (by omega) (.inr ⟨by omega, rfl, rfl, rfl⟩)
set_option maxHeartbeats 8000000 in
theorem roverlap_at (a b c d f t F T er : Int) (o : Bool) (w : World) (he : (ckE a b = 2 ∧ er = 2) ∨ (ckE a b = 0 ∧ ckE c d = er ∧ (er = 0 ∨ er = 2))) (hf : (a < c ∧ f = c) ∨ (c < a ∧ f = a) ∨ (a = c ∧ f = a)) (ht : (b < d ∧ t = b) ∨ (d < b ∧ t = d) ∨ (b = d ∧ t = b)) (hr : (er = 2 ∧ F = 0 ∧ T = 0 ∧ o = false) ∨ (er = 0 ∧ t < f ∧ F = 0 ∧ T = 0 ∧ o = false) ∨ (er = 0 ∧ f ≤ t ∧ F = f ∧ T = t ∧ o = true)) :
    Calls Try.prog 26 #[rg a b, rg c d] w fun e w' => e = .returned (.tuple #[rg F T, .bool o, .int .i64 er]) ∧ Ev w w' := by
  have HB := Lib.hid (b3 w a b c d)
  have HE : Hid (Ev w (((w.alloc (oR a b)).alloc (oR c d)).alloc (oR 0 0))) := Lib.hid ((((Ev.refl w).alloc _).alloc _).alloc _)
  have key : ∀ w2, Ev (((w.alloc (oR a b)).alloc (oR c d)).alloc (oR 0 0)) w2 → Hid (B2 w2 w.heap.size a b ∧ B2 w2 (w.heap.size + 1) c d ∧ B2 w2 (w.heap.size + 1 + 1) 0 0 ∧ Ev w w2) := fun w2 e => Lib.hid ⟨HB.out.1.ev e, HB.out.2.1.ev e, HB.out.2.2.ev e, HE.out.step e⟩
  rcases he with ⟨h1, rfl⟩ | ⟨h1, h2, h3⟩
  · have H1 := Lib.hid fun W => rck_of h1 W
    obtain ⟨rfl, rfl, rfl⟩ : F = 0 ∧ T = 0 ∧ o = false := by rcases hr with h | h | h <;> first | exact h.2 | omega
    clear hr h1
    go_enter Try.func26, Try.ntmps26
    go_wp2_with fail
    refine (H1.out _).mono ?_
    rintro e w1 ⟨rfl, hev⟩
    have HK := key _ hev
    clear hev key
    have HFF := Lib.hid (fin25 HK.out.2.2.1 HK.out.2.2.2 (by omega) 0 0)
    obtain ⟨⟨l1, c1, c2, -, -⟩, ⟨l2, c3, c4, -, -⟩, ⟨l3, c5, c6, c7, c8⟩, -⟩ := HK.out
    rcases hf with ⟨h1, rfl⟩ | ⟨h1, rfl⟩ | ⟨h1, rfl⟩ <;> rcases ht with ⟨h2, rfl⟩ | ⟨h2, rfl⟩ | ⟨h2, rfl⟩
    all_goals
      (try subst h1)
      (try subst h2)
      go_wp2_with fail
      obtain ⟨t0, t1, hE⟩ := HFF.out
      refine bodyPost_ret (v := .tuple #[rg 0 0, .bool false, .int .i64 2]) (by simp [results, Try.results26, go_sem, t0, t1]) rfl ⟨rfl, ?_⟩
      exact hE _
  · have H1 := Lib.hid fun W => rck_of h1 W
    have H2 := Lib.hid fun W => rck_of h2 W
    have HR := Lib.hid hr
    have HER := Lib.hid h3
    clear hr h1 h2 h3
    go_enter Try.func26, Try.ntmps26
    go_wp2_with fail
    refine (H1.out _).mono ?_
    rintro e w1 ⟨rfl, hev⟩
    have HK1 := key _ hev
    have HEV := Lib.hid hev
    clear hev
    obtain ⟨-, ⟨l2, c3, c4, -, -⟩, -⟩ := HK1.out
    go_wp2_with fail
    refine (H2.out _).mono ?_
    rintro e w2 ⟨rfl, hev⟩
    have HK := key _ (HEV.out.step hev)
    clear hev key c3 c4 l2 HK1
    have HFF := Lib.hid (fun x y => fin25 HK.out.2.2.1 HK.out.2.2.2 (by omega) x y)
    obtain ⟨⟨l1, c1, c2, -, -⟩, ⟨l2, c3, c4, -, -⟩, ⟨l3, c5, c6, c7, c8⟩, -⟩ := HK.out
    rcases HR.out with ⟨rfl, rfl, rfl, rfl⟩ | ⟨rfl, hft, rfl, rfl, rfl⟩ | ⟨rfl, hft, rfl, rfl, rfl⟩
    · rcases hf with ⟨h1, rfl⟩ | ⟨h1, rfl⟩ | ⟨h1, rfl⟩ <;> rcases ht with ⟨h2, rfl⟩ | ⟨h2, rfl⟩ | ⟨h2, rfl⟩
      all_goals
        (try subst h1)
        (try subst h2)
        go_wp2_with fail
        obtain ⟨t0, t1, hE⟩ := HFF.out 0 0
        refine bodyPost_ret (v := .tuple #[rg 0 0, .bool false, .int .i64 2]) (by simp [results, Try.results26, go_sem, t0, t1]) rfl ⟨rfl, ?_⟩
        exact hE _
    · rcases hf with ⟨h1, rfl⟩ | ⟨h1, rfl⟩ | ⟨h1, rfl⟩ <;> rcases ht with ⟨h2, rfl⟩ | ⟨h2, rfl⟩ | ⟨h2, rfl⟩
      all_goals
        (try subst h1)
        (try subst h2)
        go_wp2_with fail
        obtain ⟨t0, t1, hE⟩ := HFF.out 0 0
        refine bodyPost_ret (v := .tuple #[rg 0 0, .bool false, .int .i64 0]) (by simp [results, Try.results26, go_sem, t0, t1]) rfl ⟨rfl, ?_⟩
        exact hE _
    · rcases hf with ⟨h1, rfl⟩ | ⟨h1, rfl⟩ | ⟨h1, rfl⟩ <;> rcases ht with ⟨h2, rfl⟩ | ⟨h2, rfl⟩ | ⟨h2, rfl⟩
      all_goals
        (try subst h1)
        (try subst h2)
        go_wp2_with fail
        obtain ⟨t0, t1, hE⟩ := HFF.out F T
        refine bodyPost_ret (v := .tuple #[rg F T, .bool true, .int .i64 0]) (by simp [results, Try.results26, go_sem, t0, t1]) rfl ⟨rfl, ?_⟩
        exact hE _
theorem roverlap_any (a b c d : Int) (w : World) : Calls Try.prog 26 #[rg a b, rg c d] w fun e w' => OvQ (ov a b c d) w e w' := by
  unfold ov OvQ
  by_cases h1 : ckE a b ≠ 0
  · rw [if_pos h1, ck_two h1]
    exact roverlap_at a b c d (max a c) (min b d) 0 0 2 false w (.inl ⟨ck_two h1, rfl⟩) (by omega) (by omega) (.inl ⟨rfl, rfl, rfl, rfl⟩)
  · have h1' : ckE a b = 0 := Classical.not_not.1 h1
    rw [if_neg h1]
    by_cases h2 : ckE c d ≠ 0
    · rw [if_pos h2, ck_two h2]
      exact roverlap_at a b c d (max a c) (min b d) 0 0 2 false w (.inr ⟨h1', ck_two h2, .inr rfl⟩) (by omega) (by omega) (.inl ⟨rfl, rfl, rfl, rfl⟩)
    · have h2' : ckE c d = 0 := Classical.not_not.1 h2
      rw [if_neg h2]
      by_cases h3 : min b d < max a c
      · rw [if_pos h3]
        exact roverlap_at a b c d (max a c) (min b d) 0 0 0 false w (.inr ⟨h1', h2', .inl rfl⟩) (by omega) (by omega) (.inr (.inl ⟨rfl, h3, rfl, rfl, rfl⟩))
      · rw [if_neg h3]
        exact roverlap_at a b c d (max a c) (min b d) _ _ 0 true w (.inr ⟨h1', h2', .inl rfl⟩) (by omega) (by omega) (.inr (.inr ⟨rfl, by omega, rfl, rfl, rfl⟩))
end Go.Proofs.Ytpgghbabhgfchaa
