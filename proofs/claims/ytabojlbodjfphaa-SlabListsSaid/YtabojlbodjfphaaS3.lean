import Derived.Test.YtabojlbodjfphaaS2
import Derived.Deep.RegionWith
namespace Go.Proofs.Ytabojlbodjfphaa
open Go.RowKit
set_option maxHeartbeats 1000000 in
theorem alloc_ok (f : Int) (u : Nat) (w : World) (h0 : 0 ≤ f) (h1 : f < 256) (hu : u < 255) : Calls Try.prog 16 #[sl f u] w fun e w' => e = .returned (.tuple #[sl f (nx u), .int .i64 (f * 8 + lo u), .int .i64 0]) ∧ Ev w w' := by
  have H1 := Lib.hid fun W => check_any f u W
  have H2 := Lib.hid fun W => of_any f u W
  rw [show ckE f = 0 from if_pos ⟨h0, h1⟩] at H1
  have hs : (stN u == 3) = false := by unfold stN; split <;> (try split) <;> first | rfl | omega
  have hc := cpl (show u < 256 by omega)
  have H3 := Lib.hid fun W => Try.bits_TrailingZeros8 ((255 - u : Nat) : Int) W (by omega) (by omega)
  have ht : Lib.trailingZeros8 ((255 - u : Nat) : Int).toNat = lo u := by rw [Int.toNat_natCast]; rfl
  rw [ht] at H3
  have hl := lo8 hu
  have HB := Lib.hid (bs2 w f 0 u 0)
  have H4 := Lib.hid fun W => number_any f (lo u : Int) W h0 (by omega) (by omega) (by omega)
  have ho := nx_or hu
  clear ht
  generalize lo u = p at *
  generalize nx u = v at *
  go_enter Try.func16, Try.ntmps16
  go_wp2_with fail
  refine (H1.out _).mono ?_
  rintro e w1 ⟨rfl, hev⟩
  have HB1 := Lib.hid (HB.out.1.ev hev)
  have HC1 := Lib.hid (HB.out.2.1.ev hev)
  have HE1 := Lib.hid (HB.out.2.2.step hev)
  obtain ⟨l1, c1, c2, -, -⟩ := HB1.out
  clear hev
  go_wp2_with fail
  refine (H2.out _).mono ?_
  rintro e w2 ⟨rfl, hev⟩
  have HB2 := Lib.hid (HB1.out.ev hev)
  have HC2 := Lib.hid (HC1.out.ev hev)
  have HE2 := Lib.hid (HE1.out.step hev)
  clear hev
  clear l1 c1 c2
  obtain ⟨l1, c1, c2, f1, f2⟩ := HB2.out
  obtain ⟨l2, d1, d2, g1, g2⟩ := HC2.out
  go_wp2_with fail
  refine (H3.out _).mono ?_
  rintro e w2 ⟨rfl, rfl⟩
  go_wp2_with fail
  go_region
  go_wp2_with fail
  go_region_with (go_at_call 40; refine (H4.out _).mono ?_; rintro e w3 ⟨rfl, rfl⟩)
  all_goals
    go_wp2_with fail
    refine bodyPost_ret (v := .tuple #[sl f v, .int .i64 (f * 8 + (p : Int)), .int .i64 0]) (by simp [results, Try.results16, go_sem, d1, d2]) rfl ⟨rfl, ?_⟩
    have hE := HE2.out
    repeat (first | with_reducible exact hE | with_reducible refine Ev.setC ?_ (by simp) _ | with_reducible refine Ev.drew ?_ | with_reducible refine Ev.drewN ?_ _)
theorem alloc_bad (f : Int) (u : Nat) (w : World) (h : ckE f = 2) : Calls Try.prog 16 #[sl f u] w fun e w' => e = .returned (.tuple #[sl 0 0, .int .i64 0, .int .i64 2]) ∧ Ev w w' := by
  have H1 := Lib.hid fun W => check_any f u W
  rw [h] at H1
  have HB := Lib.hid (bs2 w f 0 u 0)
  clear h
  go_enter Try.func16, Try.ntmps16
  go_wp2_with fail
  refine (H1.out _).mono ?_
  rintro e w1 ⟨rfl, hev⟩
  have HC1 := Lib.hid (HB.out.2.1.ev hev)
  have hE := HB.out.2.2.step hev
  clear hev
  obtain ⟨l2, d1, d2, g1, g2⟩ := HC1.out
  go_wp2_with fail
  refine bodyPost_ret (v := .tuple #[sl 0 0, .int .i64 0, .int .i64 2]) (by simp [results, Try.results16, go_sem, d1, d2]) rfl ⟨rfl, ?_⟩
  repeat (first | with_reducible exact hE | with_reducible refine Ev.setC ?_ (by simp) _ | with_reducible refine Ev.drew ?_ | with_reducible refine Ev.drewN ?_ _)
theorem alloc_full (f : Int) (w : World) (h : ckE f = 0) : Calls Try.prog 16 #[sl f 255] w fun e w' => e = .returned (.tuple #[sl 0 0, .int .i64 0, .int .i64 5]) ∧ Ev w w' := by
  have H1 := Lib.hid fun W => check_any f 255 W
  rw [h] at H1
  have H2 := Lib.hid fun W => of_any f 255 W
  rw [show stN 255 = 3 from rfl] at H2
  have HB := Lib.hid (bs2 w f 0 255 0)
  clear h
  go_enter Try.func16, Try.ntmps16
  go_wp2_with fail
  refine (H1.out _).mono ?_
  rintro e w1 ⟨rfl, hev⟩
  have HB1 := Lib.hid (HB.out.1.ev hev)
  have HC1 := Lib.hid (HB.out.2.1.ev hev)
  have HE1 := Lib.hid (HB.out.2.2.step hev)
  clear hev
  obtain ⟨l1, c1, c2, -, -⟩ := HB1.out
  go_wp2_with fail
  refine (H2.out _).mono ?_
  rintro e w2 ⟨rfl, hev⟩
  have HC2 := Lib.hid (HC1.out.ev hev)
  have hE := HE1.out.step hev
  clear hev l1 c1 c2
  obtain ⟨l2, d1, d2, g1, g2⟩ := HC2.out
  go_wp2_with fail
  refine bodyPost_ret (v := .tuple #[sl 0 0, .int .i64 0, .int .i64 5]) (by simp [results, Try.results16, go_sem, d1, d2]) rfl ⟨rfl, ?_⟩
  repeat (first | with_reducible exact hE | with_reducible refine Ev.setC ?_ (by simp) _ | with_reducible refine Ev.drew ?_ | with_reducible refine Ev.drewN ?_ _)
/-- Alloc's result: the slab, the object and the error -/
def alV (f : Int) (u : Nat) : Value := if ckE f = 2 then .tuple #[sl 0 0, .int .i64 0, .int .i64 2] else if u = 255 then .tuple #[sl 0 0, .int .i64 0, .int .i64 5] else .tuple #[sl f (nx u), .int .i64 (f * 8 + lo u), .int .i64 0]
theorem ckE_cases (f : Int) : (ckE f = 2 ∧ ¬ (0 ≤ f ∧ f < 256)) ∨ (ckE f = 0 ∧ 0 ≤ f ∧ f < 256) := by unfold ckE; split <;> simp <;> omega
theorem alloc_any (f : Int) (u : Nat) (w : World) (hu : u < 256) : Calls Try.prog 16 #[sl f u] w fun e w' => e = .returned (alV f u) ∧ Ev w w' := by
  unfold alV
  rcases ckE_cases f with ⟨h, -⟩ | ⟨h, h0, h1⟩
  · rw [if_pos h]; exact alloc_bad f u w h
  · rw [if_neg (by rw [h]; decide)]
    by_cases hx : u = 255
    · rw [if_pos hx]; subst hx; exact alloc_full f w h
    · rw [if_neg hx]; exact alloc_ok f u w h0 h1 (by omega)
/-- the reference's Alloc -/
theorem ralloc_bad (f : Int) (u : Nat) (w : World) (h : ckE f = 2) : Calls Try.prog 17 #[sl f u] w fun e w' => e = .returned (.tuple #[sl 0 0, .int .i64 0, .int .i64 2]) ∧ Ev w w' := by
  have H1 := Lib.hid fun W => rcheck_any f u W
  rw [h] at H1
  have HB := Lib.hid (bs2 w f 0 u 0)
  clear h
  go_enter Try.func17, Try.ntmps17
  go_wp2_with fail
  refine (H1.out _).mono ?_
  rintro e w1 ⟨rfl, hev⟩
  have HC1 := Lib.hid (HB.out.2.1.ev hev)
  have hE := HB.out.2.2.step hev
  clear hev
  obtain ⟨l2, d1, d2, g1, g2⟩ := HC1.out
  go_wp2_with fail
  refine bodyPost_ret (v := .tuple #[sl 0 0, .int .i64 0, .int .i64 2]) (by simp [results, Try.results17, go_sem, d1, d2]) rfl ⟨rfl, ?_⟩
  repeat (first | with_reducible exact hE | with_reducible refine Ev.setC ?_ (by simp) _ | with_reducible refine Ev.drew ?_ | with_reducible refine Ev.drewN ?_ _)
theorem used_of (f : Int) (u p : Nat) (b : Bool) (hp : p < 8) (hb : decide (u / 2 ^ p % 2 = 1) = b) (hu : u < 256) (w : World) : Calls Try.prog 41 #[sl f u, .int .i64 (p : Int)] w fun e w' => e = .returned (.bool b) ∧ Ev w w' := by
  rw [← hb]; exact used_any f u p w hu hp
theorem lo_used {u p : Nat} (h : u < 255) (hp : p < lo u) : decide (u / 2 ^ p % 2 = 1) = true := by
  have := lo8 h
  exact decide_eq_true ((loF ⟨u, by omega⟩ h).2.2.1 ⟨p, by omega⟩ hp)
theorem lo_free {u : Nat} (h : u < 255) : decide (u / 2 ^ lo u % 2 = 1) = false := by
  have := (loF ⟨u, by omega⟩ h).2.1
  exact decide_eq_false (by simp only at this; omega)
theorem addF : ∀ u : Fin 256, u.1 < 255 → ((u.1 : Int) + 2 ^ lo u.1) % 256 = (nx u.1 : Int) := by decide +kernel
set_option maxHeartbeats 1000000 in
theorem ralloc_ok (f : Int) (u : Nat) (w : World) (h0 : 0 ≤ f) (h1 : f < 256) (hu : u < 255) : Calls Try.prog 17 #[sl f u] w fun e w' => e = .returned (.tuple #[sl f (nx u), .int .i64 (f * 8 + lo u), .int .i64 0]) ∧ Ev w w' := by
  have H1 := Lib.hid fun W => rcheck_any f u W
  rw [show ckE f = 0 from if_pos ⟨h0, h1⟩] at H1
  have HB := Lib.hid (bs2 w f 0 u 0)
  have hl := lo8 hu
  have HY : Hid (∀ p, p < lo u → ∀ W, Calls Try.prog 41 #[sl f u, .int .i64 (p : Int)] W fun e w' => e = .returned (.bool true) ∧ Ev W w') := Lib.hid fun p hp W => used_of f u p true (by omega) (lo_used hu hp) (by omega) W
  have HN : Hid (∀ W, Calls Try.prog 41 #[sl f u, .int .i64 (lo u : Int)] W fun e w' => e = .returned (.bool false) ∧ Ev W w') := Lib.hid fun W => used_of f u _ false hl (lo_free hu) (by omega) W
  have ha := addF ⟨u, by omega⟩ hu
  simp only at ha
  generalize lo u = p at *
  generalize nx u = v at *
  have hc : 8 * f + (p : Int) = f * 8 + p := by omega
  have hx : IntKind.i64.wrap (8 * f) = 8 * f := IntWalk.i64_in _ (by omega)
  have hy : IntKind.i64.wrap (8 * f + p) = 8 * f + p := IntWalk.i64_in _ (by omega)
  have HC := Lib.hid hc
  clear hc
  have HA := Lib.hid ha
  clear ha
  go_enter Try.func17, Try.ntmps17
  go_wp2_with fail
  refine (H1.out _).mono ?_
  rintro e w1 ⟨rfl, hev⟩
  have HB1 := Lib.hid (HB.out.1.ev hev)
  have HC1 := Lib.hid (HB.out.2.1.ev hev)
  have HE1 := Lib.hid (HB.out.2.2.step hev)
  clear hev
  go_wp2_with fail
  go_loopw [6] (fun i wr => ∃ k : Nat, k ≤ p ∧ i = .int .i64 k ∧ BS wr w.heap.size f u ∧ BS wr (w.heap.size + 1) 0 0 ∧ Ev w wr) (fun i _ => 8 - (intOf i).toNat)
  case atStart => exact ⟨0, Nat.zero_le _, rfl, HB1.out, HC1.out, HE1.out⟩
  case round =>
    obtain ⟨k, hk, rfl, b1, b2, hev⟩ := hrel
    have HB1 := Lib.hid b1
    have HC1 := Lib.hid b2
    have HE1 := Lib.hid hev
    clear b1 b2 hev
    obtain ⟨l1, c1, c2, -, -⟩ := HB1.out
    by_cases hlt : k < p
    · have HK := Lib.hid (HY.out k hlt)
      go_wp2_with fail
      refine (HK.out _).mono ?_
      rintro e w2 ⟨rfl, hev⟩
      have HB2 := Lib.hid (HB1.out.ev hev)
      have HC2 := Lib.hid (HC1.out.ev hev)
      have HE2 := Lib.hid (HE1.out.step hev)
      clear hev
      go_wp2_with fail
      go_roundw
      case rel => exact ⟨k + 1, by omega, by go_num, HB2.out, HC2.out, HE2.out⟩
      case measure => simp [intOf]; omega
    · obtain rfl : k = p := by omega
      go_wp2_with fail
      refine (HN.out _).mono ?_
      rintro e w2 ⟨rfl, hev⟩
      have HB2 := Lib.hid (HB1.out.ev hev)
      have HC2 := Lib.hid (HC1.out.ev hev)
      have HE2 := Lib.hid (HE1.out.step hev)
      clear hev l1 c1 c2
      obtain ⟨l1, c1, c2, f1, f2⟩ := HB2.out
      obtain ⟨l2, d1, d2, g1, g2⟩ := HC2.out
      go_wp2_with fail
      go_region
      all_goals
        go_wp2_with fail
        refine bodyPost_ret (v := .tuple #[sl f v, .int .i64 (f * 8 + (k : Int)), .int .i64 0]) (by simp [results, Try.results17, go_sem, d1, d2, HA.out, HC.out]) rfl ⟨rfl, ?_⟩
        have hE := HE2.out
        repeat (first | with_reducible exact hE | with_reducible refine Ev.setC ?_ (by simp) _ | with_reducible refine Ev.drew ?_ | with_reducible refine Ev.drewN ?_ _)
theorem fullF : ∀ p : Fin 8, 255 / 2 ^ p.1 % 2 = 1 := by decide
set_option maxHeartbeats 1000000 in
theorem ralloc_full (f : Int) (w : World) (h : ckE f = 0) : Calls Try.prog 17 #[sl f 255] w fun e w' => e = .returned (.tuple #[sl 0 0, .int .i64 0, .int .i64 5]) ∧ Ev w w' := by
  have H1 := Lib.hid fun W => rcheck_any f 255 W
  rw [h] at H1
  have HB := Lib.hid (bs2 w f 0 255 0)
  have HY : Hid (∀ p, p < 8 → ∀ W, Calls Try.prog 41 #[sl f 255, .int .i64 ((p : Nat) : Int)] W fun e w' => e = .returned (.bool true) ∧ Ev W w') := Lib.hid fun p hp W => used_of f 255 p true (by omega) (decide_eq_true (fullF ⟨p, hp⟩)) (by omega) W
  clear h
  go_enter Try.func17, Try.ntmps17
  go_wp2_with fail
  refine (H1.out _).mono ?_
  rintro e w1 ⟨rfl, hev⟩
  have HB1 := Lib.hid (HB.out.1.ev hev)
  have HC1 := Lib.hid (HB.out.2.1.ev hev)
  have HE1 := Lib.hid (HB.out.2.2.step hev)
  clear hev
  go_wp2_with fail
  go_loopw [6] (fun i wr => ∃ k : Nat, k ≤ 8 ∧ i = .int .i64 k ∧ BS wr w.heap.size f 255 ∧ BS wr (w.heap.size + 1) 0 0 ∧ Ev w wr) (fun i _ => 8 - (intOf i).toNat)
  case atStart => exact ⟨0, Nat.zero_le _, rfl, HB1.out, HC1.out, HE1.out⟩
  case round =>
    obtain ⟨k, hk, rfl, b1, b2, hev⟩ := hrel
    have HB1 := Lib.hid b1
    have HC1 := Lib.hid b2
    have HE1 := Lib.hid hev
    clear b1 b2 hev
    obtain ⟨l1, c1, c2, -, -⟩ := HB1.out
    by_cases hlt : k < 8
    · have HK := Lib.hid (HY.out k hlt)
      go_wp2_with fail
      refine (HK.out _).mono ?_
      rintro e w2 ⟨rfl, hev⟩
      have HB2 := Lib.hid (HB1.out.ev hev)
      have HC2 := Lib.hid (HC1.out.ev hev)
      have HE2 := Lib.hid (HE1.out.step hev)
      clear hev
      go_wp2_with fail
      go_roundw
      case rel => exact ⟨k + 1, by omega, by go_num, HB2.out, HC2.out, HE2.out⟩
      case measure => simp [intOf]; omega
    · obtain rfl : k = 8 := by omega
      clear l1 c1 c2
      obtain ⟨l2, d1, d2, g1, g2⟩ := HC1.out
      go_wp2_with fail
      refine bodyPost_ret (v := .tuple #[sl 0 0, .int .i64 0, .int .i64 5]) (by simp [results, Try.results17, go_sem, d1, d2]) rfl ⟨rfl, ?_⟩
      have hE := HE1.out
      repeat (first | with_reducible exact hE | with_reducible refine Ev.setC ?_ (by simp) _ | with_reducible refine Ev.drew ?_ | with_reducible refine Ev.drewN ?_ _)
theorem ralloc_any (f : Int) (u : Nat) (w : World) (hu : u < 256) : Calls Try.prog 17 #[sl f u] w fun e w' => e = .returned (alV f u) ∧ Ev w w' := by
  unfold alV
  rcases ckE_cases f with ⟨h, -⟩ | ⟨h, h0, h1⟩
  · rw [if_pos h]; exact ralloc_bad f u w h
  · rw [if_neg (by rw [h]; decide)]
    by_cases hx : u = 255
    · rw [if_pos hx]; subst hx; exact ralloc_full f w h
    · rw [if_neg hx]; exact ralloc_ok f u w h0 h1 (by omega)
end Go.Proofs.Ytabojlbodjfphaa
