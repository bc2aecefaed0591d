import Derived.Test.YtabojlbodjfphaaS6
namespace Go.Proofs.Ytabojlbodjfphaa
open Go.RowKit Go.Shelf
theorem sl_any (u : Nat) (w : World) : Calls Try.prog 33 #[.int .u8 (u : Int)] w fun e w' => e = .returned (sl 5 u) ∧ Ev w w' := by
  go_enter Try.func33, Try.ntmps33
  go_wp2_with fail
  refine bodyPost_ret (v := sl 5 u) (by simp [results, Try.results33, go_sem]) rfl ⟨rfl, ?_⟩
  exact (Ev.refl _).alloc _
def onE (f : Int) : Int := if ckE f = 2 then 2 else 0
theorem State_any (f : Int) (u : Nat) (w : World) : Calls Try.prog 10 #[sl f u] w fun e w' => e = .returned (.tuple #[.int .i64 (if ckE f = 2 then 0 else stN u), .int .i64 (ckE f)]) ∧ Ev w w' := by
  have H1 := Lib.hid fun W => check_any f u W
  have H2 := Lib.hid fun W => of_any f u W
  have HB : Hid (∀ W, Ev (w.alloc (slO f u)) W → BS W w.heap.size f u ∧ Ev w W) := Lib.hid fun W e => ⟨(BS.new w f u).ev e, ((Ev.refl w).alloc _).step e⟩
  have HA := Lib.hid ((Ev.refl w).alloc (slO f u))
  rcases ckE_cases f with ⟨h, -⟩ | ⟨h, -⟩
  · rw [h] at H1 ⊢
    clear h
    go_enter Try.func10, Try.ntmps10
    go_wp2_with fail
    refine (H1.out _).mono ?_
    rintro e w1 ⟨rfl, hev⟩
    obtain ⟨-, hE⟩ := HB.out _ hev
    go_wp2_with fail
    go_ret2
    exact ⟨rfl, hE⟩
  · rw [h] at H1 ⊢
    clear h
    go_enter Try.func10, Try.ntmps10
    go_wp2_with fail
    refine (H1.out _).mono ?_
    rintro e w1 ⟨rfl, hev⟩
    obtain ⟨⟨l1, c1, c2, -, -⟩, hE⟩ := HB.out _ hev
    have HE := Lib.hid hE
    clear hev hE
    go_wp2_with fail
    refine (H2.out _).mono ?_
    rintro e w2 ⟨rfl, hev⟩
    have hE := HE.out.step hev
    go_wp2_with fail
    go_ret2
    exact ⟨rfl, hE⟩
def cn (u : Nat) : Nat := Lib.onesCount u
theorem cnF : ∀ u : Fin 256, (plsN u.1 8).length = cn u.1 ∧ cn u.1 ≤ 8 ∧ (cn u.1 = 0 ↔ u.1 = 0) ∧ (cn u.1 = 8 ↔ u.1 = 255) := by decide +kernel
theorem Count_any (f : Int) (u : Nat) (w : World) (hu : u < 256) : Calls Try.prog 14 #[sl f u] w fun e w' => e = .returned (.tuple #[.int .i64 (if ckE f = 2 then 0 else (cn u : Int)), .int .i64 (ckE f)]) ∧ Ev w w' := by
  have H1 := Lib.hid fun W => check_any f u W
  have H2 : Hid (∀ W, Calls Try.prog 38 #[.int .u8 (u : Int)] W fun e w' => e = .returned (.int .i64 (cn u : Int)) ∧ w' = W) := Lib.hid fun W => by
    have := Try.bits_OnesCount8 (u : Int) W (by omega) (by omega)
    rwa [Int.toNat_natCast] at this
  have HB : Hid (∀ W, Ev (w.alloc (slO f u)) W → BS W w.heap.size f u ∧ Ev w W) := Lib.hid fun W e => ⟨(BS.new w f u).ev e, ((Ev.refl w).alloc _).step e⟩
  have HA := Lib.hid ((Ev.refl w).alloc (slO f u))
  rcases ckE_cases f with ⟨h, -⟩ | ⟨h, -⟩
  · rw [h] at H1 ⊢
    clear h
    go_enter Try.func14, Try.ntmps14
    go_wp2_with fail
    refine (H1.out _).mono ?_
    rintro e w1 ⟨rfl, hev⟩
    obtain ⟨-, hE⟩ := HB.out _ hev
    go_wp2_with fail
    go_ret2
    exact ⟨rfl, hE⟩
  · rw [h] at H1 ⊢
    clear h
    go_enter Try.func14, Try.ntmps14
    go_wp2_with fail
    refine (H1.out _).mono ?_
    rintro e w1 ⟨rfl, hev⟩
    obtain ⟨⟨l1, c1, c2, -, -⟩, hE⟩ := HB.out _ hev
    have HE := Lib.hid hE
    clear hev hE
    go_wp2_with fail
    refine (H2.out _).mono ?_
    rintro e w2 ⟨rfl, rfl⟩
    go_wp2_with fail
    go_ret2
    exact ⟨rfl, HE.out⟩
theorem robjects_bad (f : Int) (u : Nat) (w : World) (h : ckE f = 2) : Calls Try.prog 21 #[sl f u] w fun e w' => e = .returned (.tuple #[.slice none 0 0, .int .i64 2]) ∧ Ev w w' := by
  have H1 := Lib.hid fun W => rcheck_any f u W
  rw [h] at H1
  have HA := Lib.hid ((Ev.refl w).alloc (slO f u))
  clear h
  go_enter Try.func21, Try.ntmps21
  go_wp2_with fail
  refine (H1.out _).mono ?_
  rintro e w1 ⟨rfl, hev⟩
  have hE := HA.out.step hev
  go_wp2_with fail
  go_ret2
  exact ⟨rfl, hE⟩
theorem objects_bad (f : Int) (u : Nat) (w : World) (h : ckE f = 2) : Calls Try.prog 20 #[sl f u] w fun e w' => e = .returned (.tuple #[.slice none 0 0, .int .i64 2]) ∧ Ev w w' := by
  have H1 := Lib.hid fun W => check_any f u W
  rw [h] at H1
  have HA := Lib.hid ((Ev.refl w).alloc (slO f u))
  clear h
  go_enter Try.func20, Try.ntmps20
  go_wp2_with fail
  refine (H1.out _).mono ?_
  rintro e w1 ⟨rfl, hev⟩
  have hE := HA.out.step hev
  go_wp2_with fail
  go_ret2
  exact ⟨rfl, hE⟩
theorem robjects_any (f : Int) (u : Nat) (w : World) (hu : u < 256) : Calls Try.prog 21 #[sl f u] w fun e w' => ∃ v, e = .returned (.tuple #[v, .int .i64 (ckE f)]) ∧ OwnI w' w.heap.size v (obs f u) ∧ Ev w w' := by
  unfold obs
  rcases ckE_cases f with ⟨h, -⟩ | ⟨h, h0, h1⟩
  · rw [h, if_pos rfl]
    exact (robjects_bad f u w h).mono fun e w' ⟨a, b⟩ => ⟨_, a, World.ownsRow_nil _ _ _ _, b⟩
  · rw [h, if_neg (by decide)]
    exact robjects_ok f u w h h0 h1 hu
theorem obK_cn (f : Int) {u : Nat} (hu : u < 256) : (obK f u 8).length = cn u := by
  unfold obK
  rw [List.length_map]
  exact (cnF ⟨u, hu⟩).1
theorem rCount_any (f : Int) (u : Nat) (w : World) (hu : u < 256) : Calls Try.prog 15 #[sl f u] w fun e w' => e = .returned (.tuple #[.int .i64 (if ckE f = 2 then 0 else (cn u : Int)), .int .i64 (ckE f)]) ∧ Ev w w' := by
  have H2 : Hid (∀ W, Calls Try.prog 21 #[sl f u] W fun e w' => ∃ A cap, e = .returned (.tuple #[.slice A (if ckE f = 2 then 0 else cn u) cap, .int .i64 (ckE f)]) ∧ Ev W w') := Lib.hid fun W => (robjects_any f u W hu).mono fun e w' ⟨v, h1, h2, h3⟩ => by
    have hl : (obs f u).length = if ckE f = 2 then 0 else cn u := by unfold obs; split; rfl; exact obK_cn f hu
    obtain ⟨A, cap, rfl, -⟩ := RdI.of_own h2 (by rw [hl]; have := (cnF ⟨u, hu⟩).2.1; simp only at this; split <;> omega)
    rw [hl] at h1
    exact ⟨A, cap, h1, h3⟩
  have hx : (if ckE f = 2 then (0 : Int) else (cn u : Int)) = ((if ckE f = 2 then 0 else cn u : Nat) : Int) := by split <;> simp
  rw [hx]
  generalize (if ckE f = 2 then 0 else cn u : Nat) = k at *
  clear hx
  have HA := Lib.hid ((Ev.refl w).alloc (slO f u))
  generalize ckE f = er at *
  go_enter Try.func15, Try.ntmps15
  go_wp2_with fail
  refine (H2.out _).mono ?_
  rintro e w1 ⟨A, cap, rfl, hev⟩
  have hE := HA.out.step hev
  go_wp2_with fail
  go_ret2
  exact ⟨rfl, hE⟩
theorem rState_any (f : Int) (u : Nat) (w : World) (hu : u < 256) : Calls Try.prog 11 #[sl f u] w fun e w' => e = .returned (.tuple #[.int .i64 (if ckE f = 2 then 0 else stN u), .int .i64 (ckE f)]) ∧ Ev w w' := by
  have H2 := Lib.hid fun W => rCount_any f u W hu
  have HA := Lib.hid ((Ev.refl w).alloc (slO f u))
  obtain ⟨-, hc8, hc0, hcf⟩ := cnF ⟨u, hu⟩
  simp only at hc8 hc0 hcf
  rcases ckE_cases f with ⟨h, -⟩ | ⟨h, -⟩
  · rw [h] at H2 ⊢
    clear h hc8 hc0 hcf
    go_enter Try.func11, Try.ntmps11
    go_wp2_with fail
    refine (H2.out _).mono ?_
    rintro e w1 ⟨rfl, hev⟩
    have hE := HA.out.step hev
    go_wp2_with fail
    go_ret2
    exact ⟨rfl, hE⟩
  · rw [h] at H2 ⊢
    have hs : (cn u = 0 ∧ stN u = 1) ∨ (cn u = 8 ∧ stN u = 3) ∨ (((cn u : Int) == 0) = false ∧ ((cn u : Int) == 8) = false ∧ stN u = 2) := by
      unfold stN
      by_cases h1 : u = 0
      · left; exact ⟨hc0.2 h1, if_pos h1⟩
      · by_cases h2 : u = 255
        · right; left; exact ⟨hcf.2 h2, by rw [if_neg h1, if_pos h2]⟩
        · right; right
          have a : cn u ≠ 0 := fun e => h1 (hc0.1 e)
          have b : cn u ≠ 8 := fun e => h2 (hcf.1 e)
          exact ⟨by simp; omega, by simp; omega, by rw [if_neg h1, if_neg h2]⟩
    rw [if_neg (by decide)]
    rw [if_neg (by decide)] at H2
    generalize stN u = s at *
    generalize cn u = c at *
    clear h hc0 hcf
    rcases hs with ⟨rfl, rfl⟩ | ⟨rfl, rfl⟩ | ⟨h1, h2, rfl⟩
    all_goals
      go_enter Try.func11, Try.ntmps11
      go_wp2_with fail
      refine (H2.out _).mono ?_
      rintro e w1 ⟨rfl, hev⟩
      have hE := HA.out.step hev
      go_wp2_with fail
      go_ret2
      exact ⟨rfl, hE⟩
theorem state_any (f want : Int) (u : Nat) (w : World) : Calls Try.prog 32 #[sl f u, .int .i64 want] w fun e w' => e = .returned (.bool (decide ((if ckE f = 2 then 0 else stN u) = want ∧ ckE f = 0))) ∧ Ev w w' := by
  have H1 := Lib.hid fun W => State_any f u W
  have HA := Lib.hid ((Ev.refl w).alloc (slO f u))
  generalize (if ckE f = 2 then 0 else stN u) = s at *
  generalize ckE f = er at *
  by_cases h1 : s = want
  · have h1' : (s == want) = true := by simpa using h1
    by_cases h2 : er = 0
    · subst h1 h2
      go_enter Try.func32, Try.ntmps32
      go_wp2_with fail
      refine (H1.out _).mono ?_
      rintro e w1 ⟨rfl, hev⟩
      have hE := HA.out.step hev
      go_wp2_with fail
      go_ret
      exact ⟨ret_b (by simp), hE⟩
    · have h2' : (er == 0) = false := by simpa using h2
      have hd : decide (s = want ∧ er = 0) = false := by simp [h2]
      rw [hd]
      clear h1 h2 hd
      go_enter Try.func32, Try.ntmps32
      go_wp2_with fail
      refine (H1.out _).mono ?_
      rintro e w1 ⟨rfl, hev⟩
      have hE := HA.out.step hev
      go_wp2_with fail
      go_ret
      exact ⟨rfl, hE⟩
  · have h1' : (s == want) = false := by simpa using h1
    have hd : decide (s = want ∧ er = 0) = false := by simp [h1]
    rw [hd]
    clear h1 hd
    go_enter Try.func32, Try.ntmps32
    go_wp2_with fail
    refine (H1.out _).mono ?_
    rintro e w1 ⟨rfl, hev⟩
    have hE := HA.out.step hev
    go_wp2_with fail
    go_ret
    exact ⟨rfl, hE⟩
end Go.Proofs.Ytabojlbodjfphaa
