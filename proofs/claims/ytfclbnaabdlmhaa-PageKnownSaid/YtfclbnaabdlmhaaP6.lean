import Derived.Test.YtfclbnaabdlmhaaP5
namespace Go.Proofs.Ytfclbnaabdlmhaa
open Go.RowKit
theorem one_at (c : Nat → Nat) (i : Nat) (z : Int) (w : World) (hP : Pg c) (hi : i < 64) (hz : z = (i : Int)) : Calls Try.prog 39 #[pg c, .int .i64 z] w fun e w' => e = .returned (.int .u64 (byt c i : Int)) ∧ Ev w w' := by
  subst hz; exact one_any c i w hP hi
set_option maxHeartbeats 2000000 in
theorem rbytes_any (c : Nat → Nat) (a n : Int) (w : World) (hP : Pg c) : Calls Try.prog 17 #[pg c, .int .i64 a, .int .i64 n] w fun e w' => e = .returned (.tuple #[.int .u64 (byV c a n), .int .i64 (inE a n)]) ∧ Ev w w' := by
  have hE := Lib.hid ((Ev.refl w).alloc (pgO c))
  unfold byV
  rcases inE_cases a n with ⟨h, hh⟩ | ⟨h, hh⟩
  · rw [h, if_pos rfl]
    have H1 := Lib.hid fun W => rin_yes a n W hh
    obtain ⟨p, rfl⟩ : ∃ k : Nat, a = (k : Int) := ⟨a.toNat, by omega⟩
    obtain ⟨q, rfl⟩ : ∃ k : Nat, n = (k : Int) := ⟨n.toNat, by omega⟩
    rw [Int.toNat_natCast, Int.toNat_natCast]
    have hq : q ≤ 8 := by omega
    have hp : p + q ≤ 64 := by omega
    have HP := Lib.hid hP
    have HBP := Lib.hid (BP.new w c)
    clear h hh hP
    go_enter Try.func17, Try.ntmps17
    go_wp2_with fail
    refine (H1.out _).mono ?_
    rintro e w1 ⟨rfl, rfl⟩
    go_wp2_with fail
    go_loopw [8, 9] (fun v j wr => ∃ m : Nat, m ≤ q ∧ j = .int .i64 ((m : Int) - 1) ∧ v = .int .u64 (num (byt c) (p + m) (q - m) : Int) ∧ Ev (w.alloc (pgO c)) wr) (fun _ j _ => (intOf j + 1).toNat)
    case atStart => exact ⟨q, Nat.le_refl _, rfl, by simp [num], Ev.refl _⟩
    case round =>
      obtain ⟨m, hm, rfl, rfl, hev⟩ := hrel
      by_cases h0 : m = 0
      · subst h0
        have HEV := Lib.hid hev
        clear hev
        go_wp2_with fail
        go_ret2
        exact ⟨rfl, hE.out.step HEV.out⟩
      · obtain ⟨m, rfl⟩ : ∃ k, m = k + 1 := ⟨m - 1, by omega⟩
        rw [show ((m + 1 : Nat) : Int) - 1 = (m : Int) from by omega]
        obtain ⟨hl, hc, -⟩ := HBP.out.ev hev
        have c0 := hc 0 (by omega)
        have c1 := hc 1 (by omega)
        have c2 := hc 2 (by omega)
        have c3 := hc 3 (by omega)
        have c4 := hc 4 (by omega)
        have c5 := hc 5 (by omega)
        have c6 := hc 6 (by omega)
        have c7 := hc 7 (by omega)
        have HEV := Lib.hid hev
        have hx : num (byt c) (p + (m + 1)) (q - (m + 1)) < 72057594037927936 := by
          have h1 := num_lt (byt_lt c) (p + (m + 1)) (q - (m + 1))
          have h2 : 256 ^ (q - (m + 1)) ≤ 256 ^ 7 := Nat.pow_le_pow_right (by omega) (by omega)
          have h3 : (256 : Nat) ^ 7 = 72057594037927936 := by decide
          omega
        have hy := byt_lt c (p + m)
        have HD : Hid (256 * num (byt c) (p + (m + 1)) (q - (m + 1)) + byt c (p + m) = num (byt c) (p + m) (q - m)) := by
          refine Lib.hid ?_
          rw [show q - m = (q - (m + 1)) + 1 from by omega, num_cons, show p + (m + 1) = p + m + 1 from by omega]
          omega
        have HO := Lib.hid fun z W h => one_at c (p + m) z W HP.out (by omega) h
        clear hev hl hc
        generalize num (byt c) (p + (m + 1)) (q - (m + 1)) = x at *
        generalize byt c (p + m) = y at *
        go_wp2_with fail
        refine (HO.out _ _ (by omega)).mono ?_
        rintro e w2 ⟨rfl, hev2⟩
        have HEV2 := Lib.hid hev2
        clear hev2 c0 c1 c2 c3 c4 c5 c6 c7
        go_wp2_with fail
        go_roundw
        case rel => exact ⟨m, by omega, rfl, by rw [← HD.out]; rfl, HEV.out.step HEV2.out⟩
        case measure => simp [intOf]
  · rw [h, if_neg (by decide)]
    have H1 := Lib.hid fun W => rin_no a n W hh
    clear h hh hP
    go_enter Try.func17, Try.ntmps17
    go_wp2_with fail
    refine (H1.out _).mono ?_
    rintro e w1 ⟨rfl, rfl⟩
    go_wp2_with fail
    go_ret2
    exact ⟨rfl, hE.out⟩
end Go.Proofs.Ytfclbnaabdlmhaa
