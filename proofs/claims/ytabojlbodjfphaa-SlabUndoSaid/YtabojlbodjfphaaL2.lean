import Derived.Test.YtabojlbodjfphaaL1
namespace Go.Proofs.Ytabojlbodjfphaa
open Go.RowKit Go.Shelf
theorem objects_any (f : Int) (u : Nat) (w : World) (hu : u < 256) : Calls Try.prog 20 #[sl f u] w fun e w' => ∃ v, e = .returned (.tuple #[v, .int .i64 (ckE f)]) ∧ OwnI w' w.heap.size v (obs f u) ∧ Ev w w' := by
  unfold obs
  rcases ckE_cases f with ⟨h, -⟩ | ⟨h, h0, h1⟩
  · rw [h, if_pos rfl]
    exact (objects_bad f u w h).mono fun e w' ⟨a, b⟩ => ⟨_, a, World.ownsRow_nil _ _ _ _, b⟩
  · rw [h, if_neg (by decide)]
    exact objects_ok f u w h h0 h1 hu
theorem obs_len (f : Int) {u : Nat} (hu : u < 256) : (obs f u).length ≤ 8 := by
  unfold obs
  split
  · simp
  · rw [obK_cn f hu]; exact (cnF ⟨u, hu⟩).2.1
theorem objectsR (f : Int) (u : Nat) (w : World) (hu : u < 256) : Calls Try.prog 20 #[sl f u] w fun e w' => ∃ A cap, e = .returned (.tuple #[.slice A (obs f u).length cap, .int .i64 (ckE f)]) ∧ RdI w' A (obs f u) ∧ Ev w w' :=
  (objects_any f u w hu).mono fun e w' ⟨v, h1, h2, h3⟩ => by
    obtain ⟨A, cap, rfl, hr⟩ := RdI.of_own h2 (by have := obs_len f hu; omega)
    exact ⟨A, cap, h1, hr, h3⟩
theorem robjectsR (f : Int) (u : Nat) (w : World) (hu : u < 256) : Calls Try.prog 21 #[sl f u] w fun e w' => ∃ A cap, e = .returned (.tuple #[.slice A (obs f u).length cap, .int .i64 (ckE f)]) ∧ RdI w' A (obs f u) ∧ Ev w w' :=
  (robjects_any f u w hu).mono fun e w' ⟨v, h1, h2, h3⟩ => by
    obtain ⟨A, cap, rfl, hr⟩ := RdI.of_own h2 (by have := obs_len f hu; omega)
    exact ⟨A, cap, h1, hr, h3⟩
theorem alV_cases (f : Int) {u : Nat} (hu : u < 256) : ∃ (F : Int) (U : Nat) (O E : Int), U < 256 ∧ alV f u = .tuple #[sl F U, .int .i64 O, .int .i64 E] := by
  unfold alV
  split
  · exact ⟨0, 0, 0, 2, by omega, rfl⟩
  · split
    · exact ⟨0, 0, 0, 5, by omega, rfl⟩
    · exact ⟨f, nx u, _, 0, nx_lt (by omega), rfl⟩
theorem frV_cases (f o : Int) {u : Nat} (hu : u < 256) : ∃ (F : Int) (U : Nat) (E : Int), U < 256 ∧ frV f u o = .tuple #[sl F U, .int .i64 E] := by
  unfold frV
  split
  · exact ⟨f, _, 0, Nat.lt_of_le_of_lt (Nat.sub_le _ _) hu, rfl⟩
  · exact ⟨0, 0, _, by omega, rfl⟩
/-- a store of a slab elsewhere -/
theorem BS.far {W : World} {b : Nat} {f : Int} {u : Nat} (h : BS W b f u) {k : Nat} (hk : b ≠ k) (g : Int) (v : Nat) : BS ((W.setCell ⟨k, 0, none⟩ (.int .i64 g)).setCell ⟨k, 1, none⟩ (.int .u8 (v : Int))) b f u := by
  obtain ⟨h0, h1, h2, h3, h4⟩ := h
  exact ⟨by simpa using h0, by simp [h1, go_sem], by simp [h2, go_sem], by simp [h3, go_sem], by simp [h4, go_sem]⟩
set_option maxRecDepth 100000 in
set_option maxHeartbeats 4000000 in
theorem steps_law (f o : Int) (u : Nat) (w : World) (hu : u < 256) : Calls Try.prog 3 #[sl f u, .int .i64 o] w fun e w' => e = .returned (.bool true) ∧ Ev w w' := by
  have A1 := Lib.hid fun W => State_any f u W
  have A2 := Lib.hid fun W => rState_any f u W hu
  have A3 := Lib.hid fun W => check_any f u W
  have A4 := Lib.hid fun W => rcheck_any f u W
  have A5 := Lib.hid fun W => Count_any f u W hu
  have A6 := Lib.hid fun W => rCount_any f u W hu
  have A7 := Lib.hid fun W => alloc_any f u W hu
  have A8 := Lib.hid fun W => ralloc_any f u W hu
  have A9 := Lib.hid fun W => free_any f u o W hu
  have A10 := Lib.hid fun W => rfree_any f u o W hu
  have A11 := Lib.hid fun W => objectsR f u W hu
  have A12 := Lib.hid fun W => robjectsR f u W hu
  have AW := Lib.hid awake_any
  obtain ⟨F, U, O, E, hU, hal⟩ := alV_cases f hu
  obtain ⟨F2, U2, E2, hU2, hfr⟩ := frV_cases f o hu
  rw [hal] at A7 A8
  rw [hfr] at A9 A10
  generalize (if ckE f = 2 then 0 else stN u) = s1 at *
  generalize (if ckE f = 2 then (0 : Int) else (cn u : Int)) = s2 at *
  generalize ckE f = er at *
  generalize obs f u = l at *
  have HX := Lib.hid (BS.new w f u)
  have HE := Lib.hid ((Ev.refl w).alloc (slO f u))
  clear hal hfr hu hU hU2
  have e1 : (s1 != s1) = false := by simp
  have e2 : (s2 != s2) = false := by simp
  have e3 : (er != er) = false := by simp
  have e4 : (O != O) = false := by simp
  have e5 : (E != E) = false := by simp
  have e6 : (E2 == E2) = true := by simp
  have e7 : (er == er) = true := by simp
  go_enter Try.func3, Try.ntmps3
  go_wp2_with fail
  obtain ⟨W0, hW0⟩ : ∃ W0, W0 = w.alloc (slO f u) := ⟨_, rfl⟩
  rw [← hW0] at HX HE
  rw [← hW0]
  have hz : w.heap.size < W0.heap.size := HX.out.1
  clear hW0
  obtain ⟨l1, c1, c2, -, -⟩ := HX.out
  go_wp2_with fail
  refine (A1.out _).mono ?_
  rintro e w1 ⟨rfl, hev⟩
  have HX := Lib.hid (HX.out.ev hev)
  have HE := Lib.hid (HE.out.step hev)
  clear hev l1 c1 c2
  obtain ⟨l1, c1, c2, -, -⟩ := HX.out
  go_wp2_with fail
  refine (A2.out _).mono ?_
  rintro e w2 ⟨rfl, hev⟩
  have HX := Lib.hid (HX.out.ev hev)
  have HE := Lib.hid (HE.out.step hev)
  clear hev l1 c1 c2
  obtain ⟨l1, c1, c2, -, -⟩ := HX.out
  go_wp2_with fail
  have HS : Hid (∀ W', Ev w2 W' → (W'.cell? ⟨w.heap.size, 0, none⟩ = some (.int .i64 f) ∧ W'.cell? ⟨w.heap.size, 1, none⟩ = some (.int .u8 (u : Int))) ∧ Ev w2 W') := Lib.hid fun W' e => ⟨⟨(HX.out.ev e).2.1, (HX.out.ev e).2.2.1⟩, e⟩
  have K1 : Hid (∀ W', Ev w2 W' → Calls Try.prog 12 #[sl f u] W' fun e w' => e = .returned (.int .i64 er) ∧ Ev w2 w') := Lib.hid fun W' e => evS e (A3.out W')
  have K2 : Hid (∀ W', Ev w2 W' → Calls Try.prog 13 #[sl f u] W' fun e w' => e = .returned (.int .i64 er) ∧ Ev w2 w') := Lib.hid fun W' e => evS e (A4.out W')
  have hev := Ev.refl w2
  go_region_held3 (fun w' => (w'.cell? ⟨w.heap.size, 0, none⟩ = some (.int .i64 f) ∧ w'.cell? ⟨w.heap.size, 1, none⟩ = some (.int .u8 (u : Int))) ∧ Ev w2 w')
    (first | with_reducible exact HS.out _ (by with_reducible assumption) | with_reducible exact HS.out _ (Ev.drew (by with_reducible assumption)))
    (first | (go_at_call 12; ((with_reducible refine (K1.out _ (by first | assumption | exact Ev.drew (by with_reducible assumption))).mono ?_); clear hev; rintro e w' ⟨rfl, hev⟩)) | (go_at_call 13; ((with_reducible refine (K2.out _ (by first | assumption | exact Ev.drew (by with_reducible assumption))).mono ?_); clear hev; rintro e w' ⟨rfl, hev⟩)))
  have HX := Lib.hid (HX.out.ev hev)
  have HE := Lib.hid (HE.out.step hev)
  clear hev l1 c1 c2 HS K1 K2
  obtain ⟨l1, c1, c2, -, -⟩ := HX.out
  go_wp2_with fail
  refine (A5.out _).mono ?_
  rintro e w3 ⟨rfl, hev⟩
  have HX := Lib.hid (HX.out.ev hev)
  have HE := Lib.hid (HE.out.step hev)
  clear hev l1 c1 c2
  obtain ⟨l1, c1, c2, -, -⟩ := HX.out
  go_wp2_with fail
  refine (A6.out _).mono ?_
  rintro e w4 ⟨rfl, hev⟩
  have HX := Lib.hid (HX.out.ev hev)
  have HE := Lib.hid (HE.out.step hev)
  clear hev l1 c1 c2
  obtain ⟨l1, c1, c2, -, -⟩ := HX.out
  go_wp2_with fail
  refine (A7.out _).mono ?_
  rintro e w5 ⟨rfl, hev⟩
  have HP := Lib.hid (BS.new w5 F U)
  have HX := Lib.hid ((HX.out.ev hev).ev ((Ev.refl _).alloc (slO F U)))
  have HE := Lib.hid ((HE.out.step hev).alloc (slO F U))
  have z5 : w.heap.size < w5.heap.size := by have := hev.sz; omega
  clear hev l1 c1 c2
  obtain ⟨l1, c1, c2, -, -⟩ := HX.out
  go_wp2_with fail
  refine (A8.out _).mono ?_
  rintro e w6 ⟨rfl, hev⟩
  have HP := Lib.hid ((HP.out.ev hev).ev ((Ev.refl _).alloc (slO F U)))
  have HQ := Lib.hid (BS.new w6 F U)
  have HX := Lib.hid ((HX.out.ev hev).ev ((Ev.refl _).alloc (slO F U)))
  have HE := Lib.hid ((HE.out.step hev).alloc (slO F U))
  have z6 : w5.heap.size < w6.heap.size := by have := hev.sz; simp at this; omega
  clear hev l1 c1 c2
  obtain ⟨l2, d1, d2, f1, f2⟩ := HP.out
  obtain ⟨l3, g1, g2, h1, h2⟩ := HQ.out
  obtain ⟨l1, c1, c2, -, -⟩ := HX.out
  go_wp2_with fail
  refine (A9.out _).mono ?_
  rintro e w7 ⟨rfl, hev⟩
  have HP := Lib.hid (HP.out.ev hev)
  have HQ := Lib.hid (HQ.out.ev hev)
  have HX := Lib.hid (HX.out.ev hev)
  have HE := Lib.hid (HE.out.step hev)
  clear hev l1 c1 c2 l2 d1 d2 f1 f2 l3 g1 g2 h1 h2
  have HP2 := Lib.hid (BS.set HP.out F2 U2)
  have HQ2 := Lib.hid (BS.far HQ.out (k := w5.heap.size) (by omega) F2 U2)
  have HX2 := Lib.hid (BS.far HX.out (k := w5.heap.size) (by omega) F2 U2)
  have HE2 := Lib.hid ((HE.out.setC (p := ⟨w5.heap.size, 0, none⟩) (by simp only []; omega) (.int .i64 F2)).setC (p := ⟨w5.heap.size, 1, none⟩) (by simp only []; omega) (.int .u8 (U2 : Int)))
  obtain ⟨l2, d1, d2, f1, f2⟩ := HP.out
  obtain ⟨l1, c1, c2, -, -⟩ := HX.out
  go_wp2_with fail
  obtain ⟨W7, hW7⟩ : ∃ W7, W7 = (w7.setCell ⟨w5.heap.size, 0, none⟩ (.int .i64 F2)).setCell ⟨w5.heap.size, 1, none⟩ (.int .u8 (U2 : Int)) := ⟨_, rfl⟩
  rw [← hW7] at HP2 HQ2 HX2 HE2
  rw [← hW7]
  have z7 : w6.heap.size < W7.heap.size := HQ2.out.1
  clear hW7 l2 d1 d2 f1 f2 l1 c1 c2
  refine (A10.out _).mono ?_
  rintro e w8 ⟨rfl, hev⟩
  have HP := Lib.hid (HP2.out.ev hev)
  have HQ := Lib.hid (HQ2.out.ev hev)
  have HX := Lib.hid (HX2.out.ev hev)
  have HE := Lib.hid (HE2.out.step hev)
  clear hev HP2 HQ2 HX2 HE2
  have HP2 := Lib.hid (BS.far HP.out (k := w6.heap.size) (by omega) F2 U2)
  have HQ2 := Lib.hid (BS.set HQ.out F2 U2)
  have HX2 := Lib.hid (BS.far HX.out (k := w6.heap.size) (by omega) F2 U2)
  have HE2 := Lib.hid ((HE.out.setC (p := ⟨w6.heap.size, 0, none⟩) (by simp only []; omega) (.int .i64 F2)).setC (p := ⟨w6.heap.size, 1, none⟩) (by simp only []; omega) (.int .u8 (U2 : Int)))
  obtain ⟨l3, g1, g2, h1, h2⟩ := HQ.out
  obtain ⟨l1, c1, c2, -, -⟩ := HX.out
  go_wp2_with fail
  obtain ⟨W8, hW8⟩ : ∃ W8, W8 = (w8.setCell ⟨w6.heap.size, 0, none⟩ (.int .i64 F2)).setCell ⟨w6.heap.size, 1, none⟩ (.int .u8 (U2 : Int)) := ⟨_, rfl⟩
  rw [← hW8] at HP2 HQ2 HX2 HE2
  rw [← hW8]
  clear hW8 l3 g1 g2 h1 h2 l1 c1 c2
  refine (A11.out _).mono ?_
  rintro e w9 ⟨P1, cap1, rfl, hr1, hev⟩
  have HP := Lib.hid (HP2.out.ev hev)
  have HQ := Lib.hid (HQ2.out.ev hev)
  have HX := Lib.hid (HX2.out.ev hev)
  have HE := Lib.hid (HE2.out.step hev)
  have HR1 := Lib.hid hr1
  clear hev hr1 HP2 HQ2 HX2 HE2
  obtain ⟨l1, c1, c2, -, -⟩ := HX.out
  go_wp2_with fail
  refine (A12.out _).mono ?_
  rintro e w10 ⟨P2, cap2, rfl, hr2, hev⟩
  have HP := Lib.hid (HP.out.ev hev)
  have HQ := Lib.hid (HQ.out.ev hev)
  have HE := Lib.hid (HE.out.step hev)
  have HR1 := Lib.hid (HR1.out.ev hev)
  have HSM := Lib.hid (sameI P1 P2 cap1 cap2 l w10 HR1.out hr2)
  clear hev hr2 l1 c1 c2
  obtain ⟨l2, d1, d2, -, -⟩ := HP.out
  obtain ⟨l3, g1, g2, -, -⟩ := HQ.out
  go_wp2_with fail
  refine HSM.out.mono ?_
  rintro e w11 ⟨rfl, hev⟩
  have HE := Lib.hid (HE.out.step hev)
  clear hev l2 d1 d2 l3 g1 g2
  go_wp2_with fail
  refine (AW.out _).mono ?_
  rintro e w12 ⟨rfl, hev⟩
  have hE := HE.out.step hev
  clear hev
  go_wp2_with fail
  go_ret
  exact ⟨rfl, hE⟩
end Go.Proofs.Ytabojlbodjfphaa
