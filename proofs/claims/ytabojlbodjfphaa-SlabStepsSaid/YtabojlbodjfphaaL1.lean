import Derived.Test.YtabojlbodjfphaaS9
namespace Go.Proofs.Ytabojlbodjfphaa
open Go.RowKit Go.Shelf
theorem tmod_lt (n m : Int) (h : 1 ≤ m) : -m < n.tmod m ∧ n.tmod m < m := by
  have h1 := Int.emod_nonneg n (show m ≠ 0 by omega)
  have h2 := Int.emod_lt_of_pos n (show 0 < m by omega)
  rw [Int.tmod_eq_emod]
  split <;> omega
theorem tmod_neg (n m : Int) (h : 1 ≤ m) : n.tmod m < 0 → n.tmod m + m = n % m := by
  have h1 := Int.emod_nonneg n (show m ≠ 0 by omega)
  have h2 := Int.emod_lt_of_pos n (show 0 < m by omega)
  rw [Int.tmod_eq_emod]
  split <;> omega
theorem tmod_pos (n m : Int) (h : 1 ≤ m) : 0 ≤ n.tmod m → n.tmod m = n % m := by
  have h2 := Int.emod_lt_of_pos n (show 0 < m by omega)
  rw [Int.tmod_eq_emod]
  split <;> omega
theorem mod_any (n m : Int) (w : World) (h1 : 1 ≤ m) (h2 : m ≤ 1099511627776) : Calls Try.prog 36 #[.int .i64 n, .int .i64 m] w fun e w' => e = .returned (.int .i64 (n % m)) ∧ w = w' := by
  obtain ⟨t1, t2⟩ := tmod_lt n m h1
  have t3 := Lib.hid (tmod_neg n m h1)
  have t4 := Lib.hid (tmod_pos n m h1)
  have t5 : IntKind.i64.wrap (n.tmod m) = n.tmod m := IntWalk.i64_in _ (by omega)
  have hm : (m == 0) = false := by simp; omega
  go_enter Try.func36, Try.ntmps36
  go_wp2
  · go_ret
    exact ⟨ret_i64 (t3.out (by omega)), rfl⟩
  · go_ret
    exact ⟨ret_i64 (t4.out (by omega)), rfl⟩

set_option maxRecDepth 100000 in
set_option maxHeartbeats 1000000 in
theorem splits_law (n : Int) (w : World) : Calls Try.prog 4 #[.int .i64 n] w fun e w' => e = .returned (.bool true) ∧ Ev w w' := by
  have L1 := Lib.hid (split_any n w)
  have L2 := Lib.hid (rsplit_any n w)
  have L9 := Lib.hid (awake_any w)
  generalize spF n = a1 at *
  generalize spP n = a2 at *
  generalize spE n = a3 at *
  go_enter Try.func4, Try.ntmps4
  go_wp2_with fail
  refine L1.out.mono ?_
  rintro e w' ⟨rfl, rfl⟩
  go_wp2_with fail
  refine L2.out.mono ?_
  rintro e w' ⟨rfl, rfl⟩
  have ea1 : (a1 == a1) = true := by simp
  have ea2 : (a2 == a2) = true := by simp
  have ea3 : (a3 == a3) = true := by simp
  go_wp2_with fail
  refine L9.out.mono ?_
  rintro e w' ⟨rfl, hev⟩
  go_wp2_with fail
  go_ret
  exact ⟨rfl, hev⟩
theorem BS.set {W : World} {k : Nat} {f : Int} {u : Nat} (h : BS W k f u) (g : Int) (v : Nat) : BS ((W.setCell ⟨k, 0, none⟩ (.int .i64 g)).setCell ⟨k, 1, none⟩ (.int .u8 (v : Int))) k g v := by
  obtain ⟨h0, h1, h2, h3, h4⟩ := h
  exact ⟨by simpa using h0, by simp [h1, go_sem], by simp [h2, go_sem], by simp [h3, go_sem], by simp [h4, go_sem]⟩
theorem fillF : ∀ k : Fin 8, nx (2 ^ k.1 - 1) = 2 ^ (k.1 + 1) - 1 ∧ lo (2 ^ k.1 - 1) = k.1 ∧ 2 ^ k.1 - 1 < 255 := by decide +kernel
set_option maxRecDepth 100000 in
set_option maxHeartbeats 2000000 in
theorem fills_law (n : Int) (w : World) : Calls Try.prog 8 #[.int .i64 n] w fun e w' => e = .returned (.bool true) ∧ Ev w w' := by
  have M := Lib.hid (mod_any n 256 w (by omega) (by omega))
  have hf0 : 0 ≤ n % 256 ∧ n % 256 < 256 := ⟨Int.emod_nonneg _ (by omega), Int.emod_lt_of_pos _ (by omega)⟩
  generalize n % 256 = f at *
  obtain ⟨f0, f1⟩ := hf0
  have hck : ckE f = 0 := if_pos ⟨f0, f1⟩
  have HAL : Hid (∀ k : Nat, k < 8 → ∀ W, Calls Try.prog 16 #[sl f (2 ^ k - 1)] W fun e w' => e = .returned (.tuple #[sl f (2 ^ (k + 1) - 1), .int .i64 (f * 8 + (k : Int)), .int .i64 0]) ∧ Ev W w') := Lib.hid fun k hk W => by
    have h := alloc_ok f (2 ^ k - 1) W f0 f1 (fillF ⟨k, hk⟩).2.2
    rw [(fillF ⟨k, hk⟩).1, (fillF ⟨k, hk⟩).2.1] at h
    exact h
  have HSP : Hid (∀ k : Nat, k < 8 → ∀ W, Calls Try.prog 24 #[.int .i64 (f * 8 + (k : Int))] W fun e w' => e = .returned (.tuple #[.int .i64 f, .int .i64 (k : Int), .int .i64 0]) ∧ W = w') := Lib.hid fun k hk W => by
    have h := split_any (f * 8 + (k : Int)) W
    unfold spF spP spE at h
    rw [if_pos (by omega), if_pos (by omega), if_pos (by omega), show (f * 8 + (k : Int)) / 8 = f from by omega, show (f * 8 + (k : Int)) % 8 = k from by omega] at h
    exact h
  have HST : Hid (∀ W, Calls Try.prog 32 #[sl f 255, .int .i64 3] W fun e w' => e = .returned (.bool true) ∧ Ev W w') := Lib.hid fun W => by
    have h := state_any f 3 255 W
    rw [hck] at h
    exact h
  have AW := Lib.hid awake_any
  have HB := Lib.hid (BS.new w f 0)
  have HE := Lib.hid ((Ev.refl w).alloc (slO f 0))
  clear hck
  go_enter Try.func8, Try.ntmps8
  go_wp2_with fail
  refine M.out.mono ?_
  rintro e w' ⟨rfl, rfl⟩
  go_wp2_with fail
  go_loopw [4] (fun i wr => ∃ k : Nat, k ≤ 8 ∧ i = .int .i64 k ∧ BS wr w.heap.size f (2 ^ k - 1) ∧ Ev w wr) (fun i _ => 8 - (intOf i).toNat)
  case atStart => exact ⟨0, by omega, rfl, HB.out, HE.out⟩
  case round =>
    obtain ⟨k, hk, rfl, hbs, hev⟩ := hrel
    have HBS := Lib.hid hbs
    have HEV := Lib.hid hev
    clear hbs hev
    obtain ⟨l1, c1, c2, g1, g2⟩ := HBS.out
    by_cases hlt : k < 8
    · have HAL := Lib.hid (HAL.out k hlt)
      have HSP := Lib.hid (HSP.out k hlt)
      obtain ⟨u2, hu2⟩ : ∃ u2, 2 ^ (k + 1) - 1 = u2 := ⟨_, rfl⟩
      have HU2 := Lib.hid hu2
      rw [hu2] at HAL
      clear hu2
      generalize 2 ^ k - 1 = u1 at *
      go_wp2_with fail
      refine (HAL.out _).mono ?_
      rintro e w2 ⟨rfl, hev⟩
      have HB2 := Lib.hid (BS.new w2 f u2)
      have HX2 := Lib.hid ((HBS.out.ev hev).ev ((Ev.refl _).alloc (slO f u2)))
      have HE2 := Lib.hid ((HEV.out.step hev).alloc (slO f u2))
      have hne : w.heap.size < w2.heap.size := Nat.lt_of_lt_of_le HBS.out.1 hev.sz
      clear hev l1 c1 c2 g1 g2
      obtain ⟨W2, hW2⟩ : ∃ W2, W2 = w2.alloc (slO f u2) := ⟨_, rfl⟩
      rw [← hW2] at HB2 HX2 HE2
      go_wp2_with fail
      rw [← hW2]
      clear hW2
      refine (HSP.out _).mono ?_
      rintro e w' ⟨rfl, rfl⟩
      obtain ⟨l1, c1, c2, g1, g2⟩ := HX2.out
      obtain ⟨l2, d1, d2, -, -⟩ := HB2.out
      have e1 : (f != f) = false := by simp
      have e2 : ((k : Int) != (k : Int)) = false := by simp
      have HF := Lib.hid (BS.set HX2.out f u2)
      have HF2 := Lib.hid ((HE2.out.setC (p := ⟨w.heap.size, 0, none⟩) (by simp) (.int .i64 f)).setC (p := ⟨w.heap.size, 1, none⟩) (by simp) (.int .u8 (u2 : Int)))
      go_wp2_with fail
      go_roundw
      case rel => exact ⟨k + 1, by omega, by go_num, by rw [HU2.out]; exact HF.out, HF2.out⟩
      case measure => simp [intOf]; omega
    · obtain rfl : k = 8 := by omega
      go_wp2_with fail
      refine (HST.out _).mono ?_
      rintro e w2 ⟨rfl, hev⟩
      have HE2 := Lib.hid (HEV.out.step hev)
      clear hev
      go_wp2_with fail
      refine (AW.out _).mono ?_
      rintro e w3 ⟨rfl, hev⟩
      have hE := HE2.out.step hev
      go_wp2_with fail
      go_ret
      exact ⟨rfl, hE⟩
end Go.Proofs.Ytabojlbodjfphaa
