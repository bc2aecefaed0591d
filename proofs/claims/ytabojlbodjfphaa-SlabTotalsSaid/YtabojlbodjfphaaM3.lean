import Derived.Test.YtabojlbodjfphaaM2
namespace Go.Proofs.Ytabojlbodjfphaa
open Go.RowKit Go.Shelf
theorem erK_ok {L : List Sl} {k : Nat} (h : erK L k = 0) : ckE (fr L k) = 0 ∧ us L k ≠ 0 := by
  unfold erK at h
  rcases ckE_cases (fr L k) with ⟨hc, -⟩ | ⟨hc, -, -⟩
  · rw [hc] at h; simp at h
  · refine ⟨hc, fun e => ?_⟩
    rw [hc, if_neg (by decide), if_pos e] at h
    omega
theorem stN_two (u : Nat) (h : u ≠ 0) : (u = 255 ∧ stN u = 3) ∨ (u ≠ 255 ∧ stN u = 2) := by
  unfold stN
  by_cases h2 : u = 255
  · left; exact ⟨h2, by rw [if_neg h, if_pos h2]⟩
  · right; exact ⟨h2, by rw [if_neg h, if_neg h2]⟩
def sumC (L : List Sl) : Nat → Nat
  | 0 => 0
  | k + 1 => sumC L k + cn (us L k)
theorem cn_le {u : Nat} (h : u < 256) : cn u ≤ 8 := (cnF ⟨u, h⟩).2.1
theorem sumC_le (L : List Sl) (n : Nat) (h : ∀ j, j < n → us L j < 256) : sumC L n ≤ 8 * n := by
  induction n with
  | zero => simp [sumC]
  | succ n ih =>
    have h1 := ih (fun j hj => h j (by omega))
    have h2 := cn_le (h n (by omega))
    rw [sumC]; omega
theorem First_err (A : Option Addr) (c m : Nat) (L : List Sl) (w : World) (hr : RdS w A L) (hm : m < L.length) (hz : ∀ j, j < m → erK L j = 0) (E : Int) (hE : E = erK L m ∧ E ≠ 0) :
    Calls Try.prog 28 #[.slice A L.length c] w fun e w' => e = .returned (.tuple #[.int .i64 0, .int .i64 E]) ∧ Ev w w' := by
  have H := Lib.hid (clist_any A c m L w hr (by omega) hz E (.inr ⟨hm, hE⟩))
  have hE0 : (E != 0) = true := by simpa using hE.2
  generalize (if E = 0 then (0 : Int) else (m : Int)) = x at H
  clear hE hz hr
  go_enter Try.func28, Try.ntmps28
  go_wp2_with fail
  refine H.out.mono ?_
  rintro e w1 ⟨rfl, hev⟩
  go_wp2_with fail
  go_ret2
  exact ⟨rfl, hev⟩
theorem rFirst_err (A : Option Addr) (c m : Nat) (L : List Sl) (w : World) (hr : RdS w A L) (hm : m < L.length) (hz : ∀ j, j < m → erK L j = 0) (E : Int) (hE : E = erK L m ∧ E ≠ 0) :
    Calls Try.prog 29 #[.slice A L.length c] w fun e w' => e = .returned (.tuple #[.int .i64 0, .int .i64 E]) ∧ Ev w w' := by
  have H := Lib.hid (rclist_any A c m L w hr (by omega) hz E (.inr ⟨hm, hE⟩))
  have hE0 : (E != 0) = true := by simpa using hE.2
  generalize (if E = 0 then (0 : Int) else (m : Int)) = x at H
  clear hE hz hr
  go_enter Try.func29, Try.ntmps29
  go_wp2_with fail
  refine H.out.mono ?_
  rintro e w1 ⟨rfl, hev⟩
  go_wp2_with fail
  go_ret2
  exact ⟨rfl, hev⟩
theorem Total_err (A : Option Addr) (c m : Nat) (L : List Sl) (w : World) (hr : RdS w A L) (hm : m < L.length) (hz : ∀ j, j < m → erK L j = 0) (E : Int) (hE : E = erK L m ∧ E ≠ 0) :
    Calls Try.prog 30 #[.slice A L.length c] w fun e w' => e = .returned (.tuple #[.int .i64 0, .int .i64 E]) ∧ Ev w w' := by
  have H := Lib.hid (clist_any A c m L w hr (by omega) hz E (.inr ⟨hm, hE⟩))
  have hE0 : (E != 0) = true := by simpa using hE.2
  generalize (if E = 0 then (0 : Int) else (m : Int)) = x at H
  clear hE hz hr
  go_enter Try.func30, Try.ntmps30
  go_wp2_with fail
  refine H.out.mono ?_
  rintro e w1 ⟨rfl, hev⟩
  go_wp2_with fail
  go_ret2
  exact ⟨rfl, hev⟩
theorem rTotal_err (A : Option Addr) (c m : Nat) (L : List Sl) (w : World) (hr : RdS w A L) (hm : m < L.length) (hz : ∀ j, j < m → erK L j = 0) (E : Int) (hE : E = erK L m ∧ E ≠ 0) :
    Calls Try.prog 31 #[.slice A L.length c] w fun e w' => e = .returned (.tuple #[.int .i64 0, .int .i64 E]) ∧ Ev w w' := by
  have H := Lib.hid (rclist_any A c m L w hr (by omega) hz E (.inr ⟨hm, hE⟩))
  have hE0 : (E != 0) = true := by simpa using hE.2
  generalize (if E = 0 then (0 : Int) else (m : Int)) = x at H
  clear hE hz hr
  go_enter Try.func31, Try.ntmps31
  go_wp2_with fail
  refine H.out.mono ?_
  rintro e w1 ⟨rfl, hev⟩
  go_wp2_with fail
  go_ret2
  exact ⟨rfl, hev⟩
set_option maxRecDepth 100000 in
set_option maxHeartbeats 4000000 in
theorem First_ok (A : Option Addr) (c : Nat) (L : List Sl) (w : World) (hr : RdS w A L) (hl : L.length ≤ 60) (hz : ∀ j, j < L.length → erK L j = 0) (R : Int) (hR : (R = -1 ∧ ∀ j, j < L.length → us L j = 255) ∨ ∃ m, m < L.length ∧ R = (m : Int) ∧ us L m ≠ 255 ∧ ∀ j, j < m → us L j = 255) :
    Calls Try.prog 28 #[.slice A L.length c] w fun e w' => e = .returned (.tuple #[.int .i64 R, .int .i64 0]) ∧ Ev w w' := by
  have H : Hid (Calls Try.prog 26 #[.slice A L.length c] w fun e w' => e = .returned (.tuple #[.int .i64 0, .int .i64 0]) ∧ Ev w w') := Lib.hid (by have h := clist_any A c L.length L w hr (Nat.le_refl _) hz 0 (.inl ⟨rfl, rfl⟩); exact h)
  have HR := Lib.hid hr
  have HZ : Hid (∀ j, j < L.length → ckE (fr L j) = 0 ∧ us L j ≠ 0) := Lib.hid fun j hj => erK_ok (hz j hj)
  have H2 : Hid (∀ f u W, Calls Try.prog 37 #[sl f u] W fun e w' => e = .returned (.int .i64 (stN u)) ∧ Ev W w') := Lib.hid of_any
  have HRR := Lib.hid hR
  clear hR
  clear hr hz
  go_enter Try.func28, Try.ntmps28
  go_wp2_with fail
  refine H.out.mono ?_
  rintro e w1 ⟨rfl, hev1⟩
  have HE1 := Lib.hid hev1
  clear hev1
  go_wp2_with fail
  go_loopw [18] (fun i wr => ∃ k : Nat, k ≤ L.length ∧ i = .int .i64 k ∧ (∀ j, j < k → us L j = 255) ∧ Ev w wr) (fun i _ => L.length - (intOf i).toNat)
  case atStart => exact ⟨0, by omega, rfl, fun j hj => by omega, HE1.out⟩
  case round =>
    obtain ⟨k, hk, rfl, hp, hev⟩ := hrel
    have HEV := Lib.hid hev
    have HP := Lib.hid hp
    clear hev hp
    by_cases hlt : k < L.length
    · have hdec : (us L k = 255 ∧ k + 1 ≤ L.length) ∨ (us L k ≠ 255 ∧ R = (k : Int)) := by
        by_cases h255 : us L k = 255
        · left; exact ⟨h255, by omega⟩
        · right
          refine ⟨h255, ?_⟩
          rcases HRR.out with ⟨-, h⟩ | ⟨m, h1, h2, h3, h4⟩
          · exact absurd (h k hlt) h255
          · rcases Nat.lt_trichotomy k m with h | h | h
            · exact absurd (h4 k h) h255
            · rw [h2, h]
            · exact absurd (HP.out m h) h3
      obtain ⟨hu, b, o, rfl, hb, c1, c2⟩ := (HR.out.ev HEV.out).2 k hlt
      have hlt' : (k : Int) < (L.length : Int) := by omega
      have hk0 : 0 ≤ (k : Int) := by omega
      have hfr : fr L k = (L.getD k (0, 0)).1 := rfl
      have hus : us L k = (L.getD k (0, 0)).2 := rfl
      obtain ⟨z1, z2⟩ := HZ.out k hlt
      rw [← hfr] at c1
      rw [← hus] at c2 hu
      clear hfr hus
      have HO := Lib.hid (H2.out (fr L k) (us L k))
      have HE := Lib.hid (HEV.out.alloc (slO (fr L k) (us L k)))
      rcases stN_two (us L k) z2 with ⟨h1, h2⟩ | ⟨h1, h2⟩
      · have HP2 : Hid (∀ j, j < k + 1 → us L j = 255) := Lib.hid fun j hj => by rcases Nat.lt_succ_iff_lt_or_eq.1 hj with h | rfl; exact HP.out j h; exact h1
        rw [h2] at HO
        generalize us L k = u at *
        generalize fr L k = f at *
        clear hdec h1 h2 z1 z2
        go_wp2_with fail
        refine (HO.out _).mono ?_
        rintro e w2 ⟨rfl, hev⟩
        have HE := Lib.hid (HE.out.step hev)
        clear hev c1 c2
        go_wp2_with fail
        go_roundw
        case rel => exact ⟨k + 1, by omega, by go_num, HP2.out, HE.out⟩
        case measure => simp [intOf]; omega
      · obtain rfl : R = (k : Int) := by rcases hdec with ⟨h, -⟩ | ⟨-, h⟩; exact absurd h h1; exact h
        rw [h2] at HO
        generalize us L k = u at *
        generalize fr L k = f at *
        clear hdec h1 h2 z1 z2
        go_wp2_with fail
        refine (HO.out _).mono ?_
        rintro e w2 ⟨rfl, hev⟩
        have hE := HE.out.step hev
        clear hev c1 c2
        go_wp2_with fail
        go_ret2
        exact ⟨rfl, hE⟩
    · obtain rfl : k = L.length := by omega
      obtain rfl : R = -1 := by
        rcases HRR.out with ⟨h, -⟩ | ⟨m, h1, h2, h3, h4⟩
        · exact h
        · exact absurd (HP.out m h1) h3
      have hlt' : ¬ ((L.length : Nat) : Int) < (L.length : Int) := by omega
      have hE := HEV.out
      go_wp2_with fail
      go_ret2
      exact ⟨rfl, hE⟩
set_option maxRecDepth 100000 in
set_option maxHeartbeats 4000000 in
theorem rFirst_ok (A : Option Addr) (c : Nat) (L : List Sl) (w : World) (hr : RdS w A L) (hl : L.length ≤ 60) (hz : ∀ j, j < L.length → erK L j = 0) (R : Int) (hR : (R = -1 ∧ ∀ j, j < L.length → us L j = 255) ∨ ∃ m, m < L.length ∧ R = (m : Int) ∧ us L m ≠ 255 ∧ ∀ j, j < m → us L j = 255) :
    Calls Try.prog 29 #[.slice A L.length c] w fun e w' => e = .returned (.tuple #[.int .i64 R, .int .i64 0]) ∧ Ev w w' := by
  have H : Hid (Calls Try.prog 27 #[.slice A L.length c] w fun e w' => e = .returned (.tuple #[.int .i64 0, .int .i64 0]) ∧ Ev w w') := Lib.hid (by have h := rclist_any A c L.length L w hr (Nat.le_refl _) hz 0 (.inl ⟨rfl, rfl⟩); exact h)
  have HR := Lib.hid hr
  have HZ : Hid (∀ j, j < L.length → ckE (fr L j) = 0 ∧ us L j ≠ 0) := Lib.hid fun j hj => erK_ok (hz j hj)
  have H2 : Hid (∀ f u, u < 256 → ckE f = 0 → ∀ W, Calls Try.prog 15 #[sl f u] W fun e w' => e = .returned (.tuple #[.int .i64 (cn u : Int), .int .i64 0]) ∧ Ev W w') := Lib.hid fun f u hu hc W => by
    have h := rCount_any f u W hu
    rw [hc] at h
    exact h
  have HRR := Lib.hid hR
  clear hR
  clear hr hz
  go_enter Try.func29, Try.ntmps29
  go_wp2_with fail
  refine H.out.mono ?_
  rintro e w1 ⟨rfl, hev1⟩
  have HE1 := Lib.hid hev1
  clear hev1
  go_wp2_with fail
  go_loopw [6] (fun i wr => ∃ k : Nat, k ≤ L.length ∧ i = .int .i64 k ∧ (∀ j, j < k → us L j = 255) ∧ Ev w wr) (fun i _ => L.length - (intOf i).toNat)
  case atStart => exact ⟨0, by omega, rfl, fun j hj => by omega, HE1.out⟩
  case round =>
    obtain ⟨k, hk, rfl, hp, hev⟩ := hrel
    have HEV := Lib.hid hev
    have HP := Lib.hid hp
    clear hev hp
    by_cases hlt : k < L.length
    · have hdec : (us L k = 255 ∧ k + 1 ≤ L.length) ∨ (us L k ≠ 255 ∧ R = (k : Int)) := by
        by_cases h255 : us L k = 255
        · left; exact ⟨h255, by omega⟩
        · right
          refine ⟨h255, ?_⟩
          rcases HRR.out with ⟨-, h⟩ | ⟨m, h1, h2, h3, h4⟩
          · exact absurd (h k hlt) h255
          · rcases Nat.lt_trichotomy k m with h | h | h
            · exact absurd (h4 k h) h255
            · rw [h2, h]
            · exact absurd (HP.out m h) h3
      obtain ⟨hu, b, o, rfl, hb, c1, c2⟩ := (HR.out.ev HEV.out).2 k hlt
      have hlt' : (k : Int) < (L.length : Int) := by omega
      have hk0 : 0 ≤ (k : Int) := by omega
      have hfr : fr L k = (L.getD k (0, 0)).1 := rfl
      have hus : us L k = (L.getD k (0, 0)).2 := rfl
      obtain ⟨z1, z2⟩ := HZ.out k hlt
      rw [← hfr] at c1
      rw [← hus] at c2 hu
      clear hfr hus
      have HO := Lib.hid (H2.out (fr L k) (us L k) hu z1)
      have HE := Lib.hid HEV.out
      have hcl := cn_le hu
      have hc255 : us L k = 255 ↔ cn (us L k) = 8 := ((cnF ⟨us L k, hu⟩).2.2.2).symm
      by_cases h1 : us L k = 255
      · have HP2 : Hid (∀ j, j < k + 1 → us L j = 255) := Lib.hid fun j hj => by rcases Nat.lt_succ_iff_lt_or_eq.1 hj with h | rfl; exact HP.out j h; exact h1
        rw [hc255.1 h1] at HO
        generalize us L k = u at *
        generalize fr L k = f at *
        clear hdec h1 z1 z2 hc255 hcl
        go_wp2_with fail
        refine (HO.out _).mono ?_
        rintro e w2 ⟨rfl, hev⟩
        have HE := Lib.hid (HE.out.step hev)
        clear hev c1 c2
        go_wp2_with fail
        go_roundw
        case rel => exact ⟨k + 1, by omega, by go_num, HP2.out, HE.out⟩
        case measure => simp [intOf]; omega
      · obtain rfl : R = (k : Int) := by rcases hdec with ⟨h, -⟩ | ⟨-, h⟩; exact absurd h h1; exact h
        have hc8 : (cn (us L k) : Int) < 8 := by have := fun h => h1 (hc255.2 h); omega
        generalize cn (us L k) = cc at *
        generalize us L k = u at *
        generalize fr L k = f at *
        clear hdec h1 z1 z2 hc255 hcl
        go_wp2_with fail
        refine (HO.out _).mono ?_
        rintro e w2 ⟨rfl, hev⟩
        have hE := HE.out.step hev
        clear hev c1 c2
        go_wp2_with fail
        go_ret2
        exact ⟨rfl, hE⟩
    · obtain rfl : k = L.length := by omega
      obtain rfl : R = -1 := by
        rcases HRR.out with ⟨h, -⟩ | ⟨m, h1, h2, h3, h4⟩
        · exact h
        · exact absurd (HP.out m h1) h3
      have hlt' : ¬ ((L.length : Nat) : Int) < (L.length : Int) := by omega
      have hE := HEV.out
      go_wp2_with fail
      go_ret2
      exact ⟨rfl, hE⟩
set_option maxRecDepth 100000 in
set_option maxHeartbeats 4000000 in
theorem Total_ok (A : Option Addr) (c : Nat) (L : List Sl) (w : World) (hr : RdS w A L) (hl : L.length ≤ 60) (hz : ∀ j, j < L.length → erK L j = 0) :
    Calls Try.prog 30 #[.slice A L.length c] w fun e w' => e = .returned (.tuple #[.int .i64 (sumC L L.length : Int), .int .i64 0]) ∧ Ev w w' := by
  have H : Hid (Calls Try.prog 26 #[.slice A L.length c] w fun e w' => e = .returned (.tuple #[.int .i64 0, .int .i64 0]) ∧ Ev w w') := Lib.hid (by have h := clist_any A c L.length L w hr (Nat.le_refl _) hz 0 (.inl ⟨rfl, rfl⟩); exact h)
  have HR := Lib.hid hr
  have HZ : Hid (∀ j, j < L.length → ckE (fr L j) = 0 ∧ us L j ≠ 0) := Lib.hid fun j hj => erK_ok (hz j hj)
  have H2 : Hid (∀ (u : Nat) W, u < 256 → Calls Try.prog 38 #[.int .u8 (u : Int)] W fun e w' => e = .returned (.int .i64 (cn u : Int)) ∧ w' = W) := Lib.hid fun u W hu => by
    have := Try.bits_OnesCount8 (u : Int) W (by omega) (by omega)
    rwa [Int.toNat_natCast] at this
  have HU : Hid (∀ j, j < L.length → us L j < 256) := Lib.hid fun j hj => (HR.out.2 j hj).1
  clear hr hz
  go_enter Try.func30, Try.ntmps30
  go_wp2_with fail
  refine H.out.mono ?_
  rintro e w1 ⟨rfl, hev1⟩
  have HE1 := Lib.hid hev1
  clear hev1
  go_wp2_with fail
  go_loopw [6, 19] (fun t i wr => ∃ k : Nat, k ≤ L.length ∧ i = .int .i64 k ∧ t = .int .i64 (sumC L k : Int) ∧ Ev w wr) (fun _ i _ => L.length - (intOf i).toNat)
  case atStart => exact ⟨0, by omega, rfl, rfl, HE1.out⟩
  case round =>
    obtain ⟨k, hk, rfl, rfl, hev⟩ := hrel
    have HEV := Lib.hid hev
    clear hev
    by_cases hlt : k < L.length
    · obtain ⟨hu, b, o, rfl, hb, c1, c2⟩ := (HR.out.ev HEV.out).2 k hlt
      have hlt' : (k : Int) < (L.length : Int) := by omega
      have hk0 : 0 ≤ (k : Int) := by omega
      have hfr : fr L k = (L.getD k (0, 0)).1 := rfl
      have hus : us L k = (L.getD k (0, 0)).2 := rfl
      obtain ⟨z1, z2⟩ := HZ.out k hlt
      rw [← hfr] at c1
      rw [← hus] at c2 hu
      clear hfr hus
      have hs := sumC_le L k (fun j hj => HU.out j (by omega))
      have hcl := cn_le hu
      have HS : Hid (sumC L (k + 1) = sumC L k + cn (us L k)) := Lib.hid rfl
      have HO := Lib.hid fun W => H2.out (us L k) W hu
      have HE := Lib.hid (HEV.out.alloc (slO (fr L k) (us L k)))
      generalize cn (us L k) = cc at *
      generalize us L k = u at *
      generalize fr L k = f at *
      generalize sumC L k = s at *
      clear z1 z2
      go_wp2_with fail
      refine (HO.out _).mono ?_
      rintro e w2 ⟨rfl, rfl⟩
      go_wp2_with fail
      go_roundw
      case rel => exact ⟨k + 1, by omega, by go_num, by rw [HS.out]; go_num, HE.out⟩
      case measure => simp [intOf]; omega
    · obtain rfl : k = L.length := by omega
      have hlt' : ¬ ((L.length : Nat) : Int) < (L.length : Int) := by omega
      have hE := HEV.out
      go_wp2_with fail
      go_ret2
      exact ⟨rfl, hE⟩
set_option maxRecDepth 100000 in
set_option maxHeartbeats 4000000 in
theorem rTotal_ok (A : Option Addr) (c : Nat) (L : List Sl) (w : World) (hr : RdS w A L) (hl : L.length ≤ 60) (hz : ∀ j, j < L.length → erK L j = 0) :
    Calls Try.prog 31 #[.slice A L.length c] w fun e w' => e = .returned (.tuple #[.int .i64 (sumC L L.length : Int), .int .i64 0]) ∧ Ev w w' := by
  have H : Hid (Calls Try.prog 27 #[.slice A L.length c] w fun e w' => e = .returned (.tuple #[.int .i64 0, .int .i64 0]) ∧ Ev w w') := Lib.hid (by have h := rclist_any A c L.length L w hr (Nat.le_refl _) hz 0 (.inl ⟨rfl, rfl⟩); exact h)
  have HR := Lib.hid hr
  have HZ : Hid (∀ j, j < L.length → ckE (fr L j) = 0 ∧ us L j ≠ 0) := Lib.hid fun j hj => erK_ok (hz j hj)
  have H2 : Hid (∀ f u, u < 256 → ckE f = 0 → ∀ W, Calls Try.prog 15 #[sl f u] W fun e w' => e = .returned (.tuple #[.int .i64 (cn u : Int), .int .i64 0]) ∧ Ev W w') := Lib.hid fun f u hu hc W => by
    have h := rCount_any f u W hu
    rw [hc] at h
    exact h
  have HU : Hid (∀ j, j < L.length → us L j < 256) := Lib.hid fun j hj => (HR.out.2 j hj).1
  clear hr hz
  go_enter Try.func31, Try.ntmps31
  go_wp2_with fail
  refine H.out.mono ?_
  rintro e w1 ⟨rfl, hev1⟩
  have HE1 := Lib.hid hev1
  clear hev1
  go_wp2_with fail
  go_loopw [6, 7] (fun t i wr => ∃ k : Nat, k ≤ L.length ∧ i = .int .i64 k ∧ t = .int .i64 (sumC L k : Int) ∧ Ev w wr) (fun _ i _ => L.length - (intOf i).toNat)
  case atStart => exact ⟨0, by omega, rfl, rfl, HE1.out⟩
  case round =>
    obtain ⟨k, hk, rfl, rfl, hev⟩ := hrel
    have HEV := Lib.hid hev
    clear hev
    by_cases hlt : k < L.length
    · obtain ⟨hu, b, o, rfl, hb, c1, c2⟩ := (HR.out.ev HEV.out).2 k hlt
      have hlt' : (k : Int) < (L.length : Int) := by omega
      have hk0 : 0 ≤ (k : Int) := by omega
      have hfr : fr L k = (L.getD k (0, 0)).1 := rfl
      have hus : us L k = (L.getD k (0, 0)).2 := rfl
      obtain ⟨z1, z2⟩ := HZ.out k hlt
      rw [← hfr] at c1
      rw [← hus] at c2 hu
      clear hfr hus
      have hs := sumC_le L k (fun j hj => HU.out j (by omega))
      have hcl := cn_le hu
      have HS : Hid (sumC L (k + 1) = sumC L k + cn (us L k)) := Lib.hid rfl
      have HO := Lib.hid (H2.out (fr L k) (us L k) hu z1)
      have HE := Lib.hid HEV.out
      generalize cn (us L k) = cc at *
      generalize us L k = u at *
      generalize fr L k = f at *
      generalize sumC L k = s at *
      clear z1 z2
      go_wp2_with fail
      refine (HO.out _).mono ?_
      rintro e w2 ⟨rfl, hev⟩
      have HE := Lib.hid (HE.out.step hev)
      clear hev c1 c2
      go_wp2_with fail
      go_roundw
      case rel => exact ⟨k + 1, by omega, by go_num, by rw [HS.out]; go_num, HE.out⟩
      case measure => simp [intOf]; omega
    · obtain rfl : k = L.length := by omega
      have hlt' : ¬ ((L.length : Nat) : Int) < (L.length : Int) := by omega
      have hE := HEV.out
      go_wp2_with fail
      go_ret2
      exact ⟨rfl, hE⟩
end Go.Proofs.Ytabojlbodjfphaa
