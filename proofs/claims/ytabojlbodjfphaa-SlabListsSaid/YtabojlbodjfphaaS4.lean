import Derived.Test.YtabojlbodjfphaaS3
namespace Go.Proofs.Ytabojlbodjfphaa
open Go.RowKit
theorem anF : ∀ u : Fin 256, ∀ p : Fin 8, (u.1 / 2 ^ p.1 % 2 = 0 → bits BinOp.and IntKind.u8 (u.1 : Int) (2 ^ p.1 % 256) = 0) ∧ (u.1 / 2 ^ p.1 % 2 = 1 → (bits BinOp.and IntKind.u8 (u.1 : Int) (2 ^ p.1 % 256) == 0) = false ∧ bits BinOp.andNot IntKind.u8 (u.1 : Int) (2 ^ p.1 % 256) = ((u.1 - 2 ^ p.1 : Nat) : Int) ∧ ((u.1 : Int) - 2 ^ p.1) % 256 = ((u.1 - 2 ^ p.1 : Nat) : Int)) := by decide +kernel
/-- Free's error -/
def frE (f : Int) (u : Nat) (o : Int) : Int := if ckE f = 2 then 2 else if spE o = 2 then 2 else if spF o ≠ f then 6 else if u / 2 ^ (spP o).toNat % 2 = 0 then 6 else 0
def frV (f : Int) (u : Nat) (o : Int) : Value := if frE f u o = 0 then .tuple #[sl f (u - 2 ^ (spP o).toNat), .int .i64 0] else .tuple #[sl 0 0, .int .i64 (frE f u o)]
theorem sp_ok {o : Int} (h : spE o = 0) : 0 ≤ o ∧ o < 2048 ∧ spF o = o / 8 ∧ spP o = o % 8 := by
  have hh : 0 ≤ o ∧ o < 2048 := by unfold spE at h; split at h; assumption; omega
  unfold spF spP
  rw [if_pos hh, if_pos hh]
  exact ⟨hh.1, hh.2, rfl, rfl⟩
theorem spE_cases (o : Int) : spE o = 2 ∨ spE o = 0 := by unfold spE; split <;> simp
theorem free_A (f : Int) (u : Nat) (o : Int) (w : World) (h : ckE f = 2) : Calls Try.prog 18 #[sl f u, .int .i64 o] w fun e w' => e = .returned (.tuple #[sl 0 0, .int .i64 2]) ∧ Ev w w' := by
  have H1 := Lib.hid fun W => check_any f u W
  rw [h] at H1
  have HB := Lib.hid (bs2 w f 0 u 0)
  clear h
  go_enter Try.func18, Try.ntmps18
  go_wp2_with fail
  refine (H1.out _).mono ?_
  rintro e w1 ⟨rfl, hev⟩
  have HB1 := Lib.hid (HB.out.1.ev hev)
  have HC1 := Lib.hid (HB.out.2.1.ev hev)
  have HE1 := Lib.hid (HB.out.2.2.step hev)
  clear hev
  obtain ⟨l1, c1, c2, f1, f2⟩ := HB1.out
  obtain ⟨l2, d1, d2, g1, g2⟩ := HC1.out
  have hE := HE1.out
  go_wp2_with fail
  refine bodyPost_ret (v := .tuple #[sl 0 0, .int .i64 2]) (by simp [results, Try.results18, go_sem, d1, d2]) rfl ⟨rfl, ?_⟩
  repeat (first | with_reducible exact hE | with_reducible refine Ev.setC ?_ (by simp) _ | with_reducible refine Ev.drew ?_ | with_reducible refine Ev.drewN ?_ _)
theorem free_B (f : Int) (u : Nat) (o : Int) (w : World) (h : ckE f = 0) (ho : spE o = 2) : Calls Try.prog 18 #[sl f u, .int .i64 o] w fun e w' => e = .returned (.tuple #[sl 0 0, .int .i64 2]) ∧ Ev w w' := by
  have H1 := Lib.hid fun W => check_any f u W
  rw [h] at H1
  have H2 := Lib.hid fun W => split_any o W
  rw [ho] at H2
  have HB := Lib.hid (bs2 w f 0 u 0)
  clear h ho
  go_enter Try.func18, Try.ntmps18
  go_wp2_with fail
  refine (H1.out _).mono ?_
  rintro e w1 ⟨rfl, hev⟩
  have HB1 := Lib.hid (HB.out.1.ev hev)
  have HC1 := Lib.hid (HB.out.2.1.ev hev)
  have HE1 := Lib.hid (HB.out.2.2.step hev)
  clear hev
  go_wp2_with fail
  refine (H2.out _).mono ?_
  rintro e w1 ⟨rfl, rfl⟩
  obtain ⟨l1, c1, c2, f1, f2⟩ := HB1.out
  obtain ⟨l2, d1, d2, g1, g2⟩ := HC1.out
  have hE := HE1.out
  go_wp2_with fail
  refine bodyPost_ret (v := .tuple #[sl 0 0, .int .i64 2]) (by simp [results, Try.results18, go_sem, d1, d2]) rfl ⟨rfl, ?_⟩
  repeat (first | with_reducible exact hE | with_reducible refine Ev.setC ?_ (by simp) _ | with_reducible refine Ev.drew ?_ | with_reducible refine Ev.drewN ?_ _)
theorem free_C (f : Int) (u : Nat) (o : Int) (w : World) (h : ckE f = 0) (ho : spE o = 0) (hf : spF o ≠ f) : Calls Try.prog 18 #[sl f u, .int .i64 o] w fun e w' => e = .returned (.tuple #[sl 0 0, .int .i64 6]) ∧ Ev w w' := by
  have H1 := Lib.hid fun W => check_any f u W
  rw [h] at H1
  have H2 := Lib.hid fun W => split_any o W
  rw [ho] at H2
  have hp : 0 ≤ spP o ∧ spP o < 8 := by obtain ⟨a, b, c, d⟩ := sp_ok ho; rw [d]; omega
  have hq : (spF o != f) = true := by simpa using hf
  generalize spP o = p at *
  generalize spF o = g at *
  obtain ⟨p0, p1⟩ := hp
  have HB := Lib.hid (bs2 w f 0 u 0)
  clear h ho hf
  go_enter Try.func18, Try.ntmps18
  go_wp2_with fail
  refine (H1.out _).mono ?_
  rintro e w1 ⟨rfl, hev⟩
  have HB1 := Lib.hid (HB.out.1.ev hev)
  have HC1 := Lib.hid (HB.out.2.1.ev hev)
  have HE1 := Lib.hid (HB.out.2.2.step hev)
  clear hev
  go_wp2_with fail
  refine (H2.out _).mono ?_
  rintro e w1 ⟨rfl, rfl⟩
  obtain ⟨l1, c1, c2, f1, f2⟩ := HB1.out
  obtain ⟨l2, d1, d2, g1, g2⟩ := HC1.out
  have hE := HE1.out
  go_wp2_with fail
  refine bodyPost_ret (v := .tuple #[sl 0 0, .int .i64 6]) (by simp [results, Try.results18, go_sem, d1, d2]) rfl ⟨rfl, ?_⟩
  repeat (first | with_reducible exact hE | with_reducible refine Ev.setC ?_ (by simp) _ | with_reducible refine Ev.drew ?_ | with_reducible refine Ev.drewN ?_ _)
set_option maxHeartbeats 1000000 in
theorem free_D (f : Int) (u p : Nat) (o : Int) (w : World) (h : ckE f = 0) (ho : spE o = 0) (hf : spF o = f) (hu : u < 256) (hp : p < 8) (hpo : spP o = p) (hb : u / 2 ^ p % 2 = 0) : Calls Try.prog 18 #[sl f u, .int .i64 o] w fun e w' => e = .returned (.tuple #[sl 0 0, .int .i64 6]) ∧ Ev w w' := by
  have H1 := Lib.hid fun W => check_any f u W
  rw [h] at H1
  have H2 := Lib.hid fun W => split_any o W
  rw [ho, hf, hpo] at H2
  have hq : (f != f) = false := by simp
  have HB := Lib.hid (bs2 w f 0 u 0)
  have ha := (anF ⟨u, hu⟩ ⟨p, hp⟩).1 hb
  simp only at ha
  clear h ho hf hpo hb
  go_enter Try.func18, Try.ntmps18
  go_wp2_with fail
  refine (H1.out _).mono ?_
  rintro e w1 ⟨rfl, hev⟩
  have HB1 := Lib.hid (HB.out.1.ev hev)
  have HC1 := Lib.hid (HB.out.2.1.ev hev)
  have HE1 := Lib.hid (HB.out.2.2.step hev)
  clear hev
  go_wp2_with fail
  refine (H2.out _).mono ?_
  rintro e w1 ⟨rfl, rfl⟩
  obtain ⟨l1, c1, c2, f1, f2⟩ := HB1.out
  obtain ⟨l2, d1, d2, g1, g2⟩ := HC1.out
  go_wp2_with fail
  have hE := HE1.out
  refine bodyPost_ret (v := .tuple #[sl 0 0, .int .i64 6]) (by simp [results, Try.results18, go_sem, d1, d2]) rfl ⟨rfl, ?_⟩
  repeat (first | with_reducible exact hE | with_reducible refine Ev.setC ?_ (by simp) _ | with_reducible refine Ev.drew ?_ | with_reducible refine Ev.drewN ?_ _)
set_option maxHeartbeats 1000000 in
theorem free_E (f : Int) (u p : Nat) (o : Int) (w : World) (h : ckE f = 0) (ho : spE o = 0) (hf : spF o = f) (hu : u < 256) (hp : p < 8) (hpo : spP o = p) (hb : u / 2 ^ p % 2 = 1) : Calls Try.prog 18 #[sl f u, .int .i64 o] w fun e w' => e = .returned (.tuple #[sl f (u - 2 ^ p), .int .i64 0]) ∧ Ev w w' := by
  have H1 := Lib.hid fun W => check_any f u W
  rw [h] at H1
  have H2 := Lib.hid fun W => split_any o W
  rw [ho, hf, hpo] at H2
  have hq : (f != f) = false := by simp
  have HB := Lib.hid (bs2 w f 0 u 0)
  have ha := ((anF ⟨u, hu⟩ ⟨p, hp⟩).2 hb).1
  have hc := ((anF ⟨u, hu⟩ ⟨p, hp⟩).2 hb).2.1
  simp only at ha hc
  generalize u - 2 ^ p = v at *
  clear h ho hf hpo hb
  go_enter Try.func18, Try.ntmps18
  go_wp2_with fail
  refine (H1.out _).mono ?_
  rintro e w1 ⟨rfl, hev⟩
  have HB1 := Lib.hid (HB.out.1.ev hev)
  have HC1 := Lib.hid (HB.out.2.1.ev hev)
  have HE1 := Lib.hid (HB.out.2.2.step hev)
  clear hev
  go_wp2_with fail
  refine (H2.out _).mono ?_
  rintro e w1 ⟨rfl, rfl⟩
  obtain ⟨l1, c1, c2, f1, f2⟩ := HB1.out
  obtain ⟨l2, d1, d2, g1, g2⟩ := HC1.out
  go_wp2_with fail
  have hE := HE1.out
  refine bodyPost_ret (v := .tuple #[sl f (v), .int .i64 0]) (by simp [results, Try.results18, go_sem, d1, d2]) rfl ⟨rfl, ?_⟩
  repeat (first | with_reducible exact hE | with_reducible refine Ev.setC ?_ (by simp) _ | with_reducible refine Ev.drew ?_ | with_reducible refine Ev.drewN ?_ _)
theorem free_any (f : Int) (u : Nat) (o : Int) (w : World) (hu : u < 256) : Calls Try.prog 18 #[sl f u, .int .i64 o] w fun e w' => e = .returned (frV f u o) ∧ Ev w w' := by
  unfold frV frE
  rcases ckE_cases f with ⟨h, -⟩ | ⟨h, h0, h1⟩
  · rw [h]; exact free_A f u o w h
  · rw [h]
    rcases spE_cases o with ho | ho
    · rw [ho]; exact free_B f u o w h ho
    · rw [ho]
      by_cases hf : spF o = f
      · obtain ⟨a, b, c, d⟩ := sp_ok ho
        obtain ⟨p, hp⟩ : ∃ p : Nat, spP o = p := ⟨(spP o).toNat, by rw [d]; omega⟩
        have hp8 : p < 8 := by rw [d] at hp; omega
        rw [hp, Int.toNat_natCast]
        rcases Nat.mod_two_eq_zero_or_one (u / 2 ^ p) with hb | hb
        · rw [hb]; simp [hf]; exact free_D f u p o w h ho hf hu hp8 hp hb
        · rw [hb]; simp [hf]; exact free_E f u p o w h ho hf hu hp8 hp hb
      · simp [hf]; exact free_C f u o w h ho hf
theorem rfree_A (f : Int) (u : Nat) (o : Int) (w : World) (h : ckE f = 2) : Calls Try.prog 19 #[sl f u, .int .i64 o] w fun e w' => e = .returned (.tuple #[sl 0 0, .int .i64 2]) ∧ Ev w w' := by
  have H1 := Lib.hid fun W => rcheck_any f u W
  rw [h] at H1
  have HB := Lib.hid (bs2 w f 0 u 0)
  clear h
  go_enter Try.func19, Try.ntmps19
  go_wp2_with fail
  refine (H1.out _).mono ?_
  rintro e w1 ⟨rfl, hev⟩
  have HB1 := Lib.hid (HB.out.1.ev hev)
  have HC1 := Lib.hid (HB.out.2.1.ev hev)
  have HE1 := Lib.hid (HB.out.2.2.step hev)
  clear hev
  obtain ⟨l1, c1, c2, f1, f2⟩ := HB1.out
  obtain ⟨l2, d1, d2, g1, g2⟩ := HC1.out
  have hE := HE1.out
  go_wp2_with fail
  refine bodyPost_ret (v := .tuple #[sl 0 0, .int .i64 2]) (by simp [results, Try.results19, go_sem, d1, d2]) rfl ⟨rfl, ?_⟩
  repeat (first | with_reducible exact hE | with_reducible refine Ev.setC ?_ (by simp) _ | with_reducible refine Ev.drew ?_ | with_reducible refine Ev.drewN ?_ _)
theorem rfree_B (f : Int) (u : Nat) (o : Int) (w : World) (h : ckE f = 0) (ho : spE o = 2) : Calls Try.prog 19 #[sl f u, .int .i64 o] w fun e w' => e = .returned (.tuple #[sl 0 0, .int .i64 2]) ∧ Ev w w' := by
  have H1 := Lib.hid fun W => rcheck_any f u W
  rw [h] at H1
  have H2 := Lib.hid fun W => rsplit_any o W
  rw [ho] at H2
  have HB := Lib.hid (bs2 w f 0 u 0)
  clear h ho
  go_enter Try.func19, Try.ntmps19
  go_wp2_with fail
  refine (H1.out _).mono ?_
  rintro e w1 ⟨rfl, hev⟩
  have HB1 := Lib.hid (HB.out.1.ev hev)
  have HC1 := Lib.hid (HB.out.2.1.ev hev)
  have HE1 := Lib.hid (HB.out.2.2.step hev)
  clear hev
  go_wp2_with fail
  refine (H2.out _).mono ?_
  rintro e w1 ⟨rfl, rfl⟩
  obtain ⟨l1, c1, c2, f1, f2⟩ := HB1.out
  obtain ⟨l2, d1, d2, g1, g2⟩ := HC1.out
  have hE := HE1.out
  go_wp2_with fail
  refine bodyPost_ret (v := .tuple #[sl 0 0, .int .i64 2]) (by simp [results, Try.results19, go_sem, d1, d2]) rfl ⟨rfl, ?_⟩
  repeat (first | with_reducible exact hE | with_reducible refine Ev.setC ?_ (by simp) _ | with_reducible refine Ev.drew ?_ | with_reducible refine Ev.drewN ?_ _)
theorem rfree_C (f : Int) (u : Nat) (o : Int) (w : World) (h : ckE f = 0) (ho : spE o = 0) (hf : spF o ≠ f) : Calls Try.prog 19 #[sl f u, .int .i64 o] w fun e w' => e = .returned (.tuple #[sl 0 0, .int .i64 6]) ∧ Ev w w' := by
  have H1 := Lib.hid fun W => rcheck_any f u W
  rw [h] at H1
  have H2 := Lib.hid fun W => rsplit_any o W
  rw [ho] at H2
  have hp : 0 ≤ spP o ∧ spP o < 8 := by obtain ⟨a, b, c, d⟩ := sp_ok ho; rw [d]; omega
  have hq : (spF o != f) = true := by simpa using hf
  generalize spP o = p at *
  generalize spF o = g at *
  obtain ⟨p0, p1⟩ := hp
  have HB := Lib.hid (bs2 w f 0 u 0)
  clear h ho hf
  go_enter Try.func19, Try.ntmps19
  go_wp2_with fail
  refine (H1.out _).mono ?_
  rintro e w1 ⟨rfl, hev⟩
  have HB1 := Lib.hid (HB.out.1.ev hev)
  have HC1 := Lib.hid (HB.out.2.1.ev hev)
  have HE1 := Lib.hid (HB.out.2.2.step hev)
  clear hev
  go_wp2_with fail
  refine (H2.out _).mono ?_
  rintro e w1 ⟨rfl, rfl⟩
  obtain ⟨l1, c1, c2, f1, f2⟩ := HB1.out
  obtain ⟨l2, d1, d2, g1, g2⟩ := HC1.out
  have hE := HE1.out
  go_wp2_with fail
  refine bodyPost_ret (v := .tuple #[sl 0 0, .int .i64 6]) (by simp [results, Try.results19, go_sem, d1, d2]) rfl ⟨rfl, ?_⟩
  repeat (first | with_reducible exact hE | with_reducible refine Ev.setC ?_ (by simp) _ | with_reducible refine Ev.drew ?_ | with_reducible refine Ev.drewN ?_ _)
set_option maxHeartbeats 1000000 in
theorem rfree_D (f : Int) (u p : Nat) (o : Int) (w : World) (h : ckE f = 0) (ho : spE o = 0) (hf : spF o = f) (hu : u < 256) (hp : p < 8) (hpo : spP o = p) (hb : u / 2 ^ p % 2 = 0) : Calls Try.prog 19 #[sl f u, .int .i64 o] w fun e w' => e = .returned (.tuple #[sl 0 0, .int .i64 6]) ∧ Ev w w' := by
  have H1 := Lib.hid fun W => rcheck_any f u W
  rw [h] at H1
  have H2 := Lib.hid fun W => rsplit_any o W
  rw [ho, hf, hpo] at H2
  have hq : (f != f) = false := by simp
  have HB := Lib.hid (bs2 w f 0 u 0)
  have HU := Lib.hid fun W => used_of f u p false hp (by rw [hb]; rfl) hu W
  clear h ho hf hpo hb
  go_enter Try.func19, Try.ntmps19
  go_wp2_with fail
  refine (H1.out _).mono ?_
  rintro e w1 ⟨rfl, hev⟩
  have HB1 := Lib.hid (HB.out.1.ev hev)
  have HC1 := Lib.hid (HB.out.2.1.ev hev)
  have HE1 := Lib.hid (HB.out.2.2.step hev)
  clear hev
  go_wp2_with fail
  refine (H2.out _).mono ?_
  rintro e w1 ⟨rfl, rfl⟩
  obtain ⟨l1, c1, c2, f1, f2⟩ := HB1.out
  obtain ⟨l2, d1, d2, g1, g2⟩ := HC1.out
  go_wp2_with fail
  refine (HU.out _).mono ?_
  rintro e w2 ⟨rfl, hev⟩
  have HB2 := Lib.hid (HB1.out.ev hev)
  have HC2 := Lib.hid (HC1.out.ev hev)
  have HE2 := Lib.hid (HE1.out.step hev)
  clear hev l1 c1 c2 f1 f2 l2 d1 d2 g1 g2
  obtain ⟨l1, c1, c2, f1, f2⟩ := HB2.out
  obtain ⟨l2, d1, d2, g1, g2⟩ := HC2.out
  have hE := HE2.out
  go_wp2_with fail
  refine bodyPost_ret (v := .tuple #[sl 0 0, .int .i64 6]) (by simp [results, Try.results19, go_sem, d1, d2]) rfl ⟨rfl, ?_⟩
  repeat (first | with_reducible exact hE | with_reducible refine Ev.setC ?_ (by simp) _ | with_reducible refine Ev.drew ?_ | with_reducible refine Ev.drewN ?_ _)
set_option maxHeartbeats 1000000 in
theorem rfree_E (f : Int) (u p : Nat) (o : Int) (w : World) (h : ckE f = 0) (ho : spE o = 0) (hf : spF o = f) (hu : u < 256) (hp : p < 8) (hpo : spP o = p) (hb : u / 2 ^ p % 2 = 1) : Calls Try.prog 19 #[sl f u, .int .i64 o] w fun e w' => e = .returned (.tuple #[sl f (u - 2 ^ p), .int .i64 0]) ∧ Ev w w' := by
  have H1 := Lib.hid fun W => rcheck_any f u W
  rw [h] at H1
  have H2 := Lib.hid fun W => rsplit_any o W
  rw [ho, hf, hpo] at H2
  have hq : (f != f) = false := by simp
  have HB := Lib.hid (bs2 w f 0 u 0)
  have HU := Lib.hid fun W => used_of f u p true hp (by rw [hb]; rfl) hu W
  have ha := ((anF ⟨u, hu⟩ ⟨p, hp⟩).2 hb).2.2
  simp only at ha
  generalize u - 2 ^ p = v at *
  clear h ho hf hpo hb
  go_enter Try.func19, Try.ntmps19
  go_wp2_with fail
  refine (H1.out _).mono ?_
  rintro e w1 ⟨rfl, hev⟩
  have HB1 := Lib.hid (HB.out.1.ev hev)
  have HC1 := Lib.hid (HB.out.2.1.ev hev)
  have HE1 := Lib.hid (HB.out.2.2.step hev)
  clear hev
  go_wp2_with fail
  refine (H2.out _).mono ?_
  rintro e w1 ⟨rfl, rfl⟩
  obtain ⟨l1, c1, c2, f1, f2⟩ := HB1.out
  obtain ⟨l2, d1, d2, g1, g2⟩ := HC1.out
  go_wp2_with fail
  refine (HU.out _).mono ?_
  rintro e w2 ⟨rfl, hev⟩
  have HB2 := Lib.hid (HB1.out.ev hev)
  have HC2 := Lib.hid (HC1.out.ev hev)
  have HE2 := Lib.hid (HE1.out.step hev)
  clear hev l1 c1 c2 f1 f2 l2 d1 d2 g1 g2
  obtain ⟨l1, c1, c2, f1, f2⟩ := HB2.out
  obtain ⟨l2, d1, d2, g1, g2⟩ := HC2.out
  have hE := HE2.out
  go_wp2_with fail
  refine bodyPost_ret (v := .tuple #[sl f (v), .int .i64 0]) (by simp [results, Try.results19, go_sem, d1, d2]) rfl ⟨rfl, ?_⟩
  repeat (first | with_reducible exact hE | with_reducible refine Ev.setC ?_ (by simp) _ | with_reducible refine Ev.drew ?_ | with_reducible refine Ev.drewN ?_ _)
theorem rfree_any (f : Int) (u : Nat) (o : Int) (w : World) (hu : u < 256) : Calls Try.prog 19 #[sl f u, .int .i64 o] w fun e w' => e = .returned (frV f u o) ∧ Ev w w' := by
  unfold frV frE
  rcases ckE_cases f with ⟨h, -⟩ | ⟨h, h0, h1⟩
  · rw [h]; exact rfree_A f u o w h
  · rw [h]
    rcases spE_cases o with ho | ho
    · rw [ho]; exact rfree_B f u o w h ho
    · rw [ho]
      by_cases hf : spF o = f
      · obtain ⟨a, b, c, d⟩ := sp_ok ho
        obtain ⟨p, hp⟩ : ∃ p : Nat, spP o = p := ⟨(spP o).toNat, by rw [d]; omega⟩
        have hp8 : p < 8 := by rw [d] at hp; omega
        rw [hp, Int.toNat_natCast]
        rcases Nat.mod_two_eq_zero_or_one (u / 2 ^ p) with hb | hb
        · rw [hb]; simp [hf]; exact rfree_D f u p o w h ho hf hu hp8 hp hb
        · rw [hb]; simp [hf]; exact rfree_E f u p o w h ho hf hu hp8 hp hb
      · simp [hf]; exact rfree_C f u o w h ho hf
end Go.Proofs.Ytabojlbodjfphaa
