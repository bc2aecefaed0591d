import Derived.Test.YtfclbnaabdlmhaaPG
namespace Go.Proofs.Ytfclbnaabdlmhaa
open Go.RowKit
set_option maxRecDepth 100000 in
set_option maxHeartbeats 8000000 in
theorem puts5 (c : Nat → Nat) (v : Nat) (at' : Int) (w : World) (hv : v < 18446744073709551616) (ha : -9223372036854775808 ≤ at' ∧ at' ≤ 9223372036854775807) (hn : (at'.tdiv 64) % 8 = 4) :
    Calls Try.prog 8 #[pg c, .int .u64 (v : Int), .int .i64 at'] w fun e w' => e = .returned (.bool true) ∧ Ev w w' := by
  obtain ⟨k, hk, hke⟩ : ∃ k : Nat, k + 5 ≤ 64 ∧ at' % 60 = (k : Int) := ⟨(at' % 60).toNat, by omega, by omega⟩
  have H0 : Hid (∀ z W, z = at'.tdiv 64 → Calls Try.prog 34 #[.int .i64 z, .int .i64 8] W fun e w' => e = .returned (.int .i64 4) ∧ W = w') := Lib.hid fun z W h => by
    subst h
    have h := mod_any (at'.tdiv 64) 8 W (by omega) (by omega)
    rwa [hn] at h
  have H1 : Hid (∀ W, Calls Try.prog 34 #[.int .i64 at', .int .i64 60] W fun e w' => e = .returned (.int .i64 (k : Int)) ∧ W = w') := Lib.hid fun W => by
    have h := mod_any at' 60 W (by omega) (by omega)
    rwa [hke] at h
  have ht := tdiv_bd at' ha.1 ha.2
  have HD : Hid (pd c k 5 v = pd c k 5 v) := Lib.hid rfl
  have H2 : Hid (∀ W, Calls Try.prog 20 #[pg c, .int .i64 (k : Int), .int .i64 5, .int .u64 (v : Int)] W fun e w' => e = .returned (.tuple #[pg (pd c k 5 v), .int .i64 0]) ∧ Ev W w') := Lib.hid fun W => putb_ok c k 5 v W (by omega) (by omega) hk
  have HBC := Lib.hid fun i W hi => byt_at c i W hi
  have HBD := Lib.hid fun i W hi => byt_at (pd c k 5 v) i W hi
  have hby : ∀ i, byt (pd c k 5 v) i = pb (byt c) k 5 v i := fun i => by rw [pd_byt]
  have HBY := Lib.hid hby
  have H3 : Hid (∀ W, Calls Try.prog 16 #[pg (pd c k 5 v), .int .i64 (k : Int), .int .i64 5] W fun e w' => e = .returned (.tuple #[.int .u64 ((v % 1099511627776 : Nat) : Int), .int .i64 0]) ∧ Ev W w') := Lib.hid fun W => by
    have h := bytes_ok (pd c k 5 v) k 5 W (by omega) (by omega) hk
    rw [pd_num] at h
    exact h
  have H4 : Hid (∀ W, Calls Try.prog 20 #[pg (pd c k 5 v), .int .i64 (k : Int), .int .i64 5, .int .u64 ((v % 1099511627776 : Nat) : Int)] W fun e w' => e = .returned (.tuple #[pg (pd c k 5 v), .int .i64 0]) ∧ Ev W w') := Lib.hid fun W => by
    have h := putb_ok (pd c k 5 v) k 5 (v % 1099511627776) W (by omega) (by omega) hk
    have e : wrd (pb (byt (pd c k 5 v)) k 5 (v % 1099511627776)) = pd c k 5 v := pd_again c k 5 v
    rwa [e] at h
  obtain ⟨s, hs⟩ : ∃ s, sg 5 (v % 1099511627776) = s := ⟨_, rfl⟩
  have H5 : Hid (∀ W, Calls Try.prog 18 #[pg (pd c k 5 v), .int .i64 (k : Int), .int .i64 5] W fun e w' => e = .returned (.tuple #[.int .i64 s, .int .i64 0]) ∧ Ev W w') := Lib.hid fun W => by
    have h := signed_ok (pd c k 5 v) k 5 W (by omega) (by omega) hk
    rw [pd_num] at h
    rw [← hs]
    exact h
  have hso : s = ((v % 1099511627776 : Nat) : Int) ∨ s = ((v % 1099511627776 : Nat) : Int) - 1099511627776 := by rw [← hs]; exact sg_or 5 (v % 1099511627776)
  have HSO := Lib.hid hso
  have HXV : Hid (v % 1099511627776 = v % 1099511627776) := Lib.hid rfl
  obtain ⟨x, hx⟩ : ∃ x, x = v % 1099511627776 := ⟨_, rfl⟩
  have hxM : x < 1099511627776 := by rw [hx]; exact Nat.mod_lt _ (by omega)
  rw [← hx] at H3 H4 HSO
  have HX := Lib.hid hx
  have HE0 := Lib.hid (al1 w (pgO c))
  have HC0 := Lib.hid (BP.new w c)
  have HQ : Hid (∀ d W, Sem.run Try.prog (Op.equalIn 10000 24 (pg d) (pg d)) W = .ok true W) := Lib.hid fun d W => by rw [eq24, eqB_self]
  clear hke hn hs hso hx HXV HD hby
  generalize pd c k 5 v = d at *
  go_enter Try.func8, Try.ntmps8
  go_wp2_with fail
  refine (H0.out _ _ (by first | rfl | omega)).mono ?_
  rintro e w1 ⟨rfl, rfl⟩
  go_wp2_with fail
  refine (H1.out _).mono ?_
  rintro e w1 ⟨rfl, rfl⟩
  go_wp2_with fail
  refine (H2.out _).mono ?_
  rintro e w2 ⟨rfl, h2⟩
  have HC2 := Lib.hid ((HC0.out.ev h2).ev ((Ev.refl _).alloc (pgO d)))
  have HE2 := Lib.hid (((Ev.refl w).alloc (pgO c)).step h2 |>.alloc (pgO d))
  have HD2 := Lib.hid (BP.new w2 d)
  clear h2
  go_wp2_with fail
  go_loopw [11] (fun i wr => ∃ j : Nat, j ≤ 64 ∧ i = .int .i64 j ∧ BP wr w.heap.size c ∧ BP wr w2.heap.size d ∧ Ev w wr) (fun i _ => 64 - (intOf i).toNat)
  case atStart => exact ⟨0, by omega, rfl, HC2.out, HD2.out, HE2.out⟩
  case round =>
    obtain ⟨j, hj, rfl, hbc, hbd, hev⟩ := hrel
    have RC := Lib.hid hbc
    have RD := Lib.hid hbd
    have RE := Lib.hid hev
    clear hbc hbd hev
    by_cases hlt : j < 64
    · have hlt' : (j : Int) < 64 := by omega
      have K1 := Lib.hid fun W => HBC.out j W hlt
      have K2 := Lib.hid fun W => HBD.out j W hlt
      have hyb : byt d j = pb (byt c) k 5 v j := HBY.out j
      obtain ⟨-, h8, -⟩ := RC.out
      have c0 := h8 0 (by omega)
      have c1 := h8 1 (by omega)
      have c2 := h8 2 (by omega)
      have c3 := h8 3 (by omega)
      have c4 := h8 4 (by omega)
      have c5 := h8 5 (by omega)
      have c6 := h8 6 (by omega)
      have c7 := h8 7 (by omega)
      clear h8
      rcases (show j < k ∨ (k ≤ j ∧ j < k + 5) ∨ k + 5 ≤ j by omega) with h1 | h1 | h1
      · as_aux_lemma =>
        have e : byt d j = byt c j := by rw [hyb]; unfold pb; rw [if_neg (by omega)]
        rw [e] at K2
        clear hyb e
        generalize byt c j = y at *
        have q1 : ((y : Int) != (y : Int)) = false := by simp
        go_wp2_with fail
        refine (K1.out _).mono ?_
        rintro e w5 ⟨rfl, h5⟩
        have RC5 := Lib.hid (RC.out.ev h5)
        have RD5 := Lib.hid (RD.out.ev h5)
        have RE5 := Lib.hid (RE.out.step h5)
        clear h5
        clear c0 c1 c2 c3 c4 c5 c6 c7
        obtain ⟨-, h8, -⟩ := RD5.out
        have d0 := h8 0 (by omega)
        have d1 := h8 1 (by omega)
        have d2 := h8 2 (by omega)
        have d3 := h8 3 (by omega)
        have d4 := h8 4 (by omega)
        have d5 := h8 5 (by omega)
        have d6 := h8 6 (by omega)
        have d7 := h8 7 (by omega)
        clear h8
        go_wp2_with fail
        refine (K2.out _).mono ?_
        rintro e w6 ⟨rfl, h6⟩
        have RC6 := Lib.hid (RC5.out.ev h6)
        have RD6 := Lib.hid (RD5.out.ev h6)
        have RE6 := Lib.hid (RE5.out.step h6)
        clear h6
        clear d0 d1 d2 d3 d4 d5 d6 d7
        go_wp2_with fail
        go_roundw
        case rel => exact ⟨j + 1, by omega, by go_num, RC6.out, RD6.out, RE6.out⟩
        case measure => simp [intOf]; omega
      · as_aux_lemma =>
        obtain ⟨t, rfl⟩ : ∃ t, j = k + t := ⟨j - k, by omega⟩
        have e : byt d (k + t) = v / 2 ^ (8 * t) % 256 := by
          rw [hyb]; unfold pb; rw [if_pos (by omega), show k + t - k = t from by omega, show (256 : Nat) ^ t = 2 ^ (8 * t) from by rw [Nat.pow_mul]]
        rw [e] at K2
        have ht8 : t < 5 := by omega
        have e3 : (((v / 2 ^ (8 * t) % 256 : Nat) : Int) != ((v : Int) / 2 ^ (8 * t)).tmod 256) = false := by
          rw [Int.tmod_eq_emod_of_nonneg (Int.ediv_nonneg (by omega) (Int.le_of_lt (Int.pow_pos (by omega)))), ← cast_shr]; simp
        have h1b : ¬ k + t < k := by omega
        clear hyb e h1
        generalize byt c (k + t) = y at *
        generalize v / 2 ^ (8 * t) % 256 = z at *
        have e4 : ((k + t : Nat) : Int) - (k : Int) = (t : Int) := by omega
        go_wp2_with fail
        refine (K1.out _).mono ?_
        rintro e w5 ⟨rfl, h5⟩
        have RC5 := Lib.hid (RC.out.ev h5)
        have RD5 := Lib.hid (RD.out.ev h5)
        have RE5 := Lib.hid (RE.out.step h5)
        clear h5
        clear c0 c1 c2 c3 c4 c5 c6 c7
        obtain ⟨-, h8, -⟩ := RD5.out
        have d0 := h8 0 (by omega)
        have d1 := h8 1 (by omega)
        have d2 := h8 2 (by omega)
        have d3 := h8 3 (by omega)
        have d4 := h8 4 (by omega)
        have d5 := h8 5 (by omega)
        have d6 := h8 6 (by omega)
        have d7 := h8 7 (by omega)
        clear h8
        go_wp2_with fail
        refine (K2.out _).mono ?_
        rintro e w6 ⟨rfl, h6⟩
        have RC6 := Lib.hid (RC5.out.ev h6)
        have RD6 := Lib.hid (RD5.out.ev h6)
        have RE6 := Lib.hid (RE5.out.step h6)
        clear h6
        clear d0 d1 d2 d3 d4 d5 d6 d7
        go_wp2_with fail
        go_roundw
        case rel => exact ⟨k + t + 1, by omega, by go_num, RC6.out, RD6.out, RE6.out⟩
        case measure => simp [intOf]; omega
      · as_aux_lemma =>
        have e : byt d j = byt c j := by rw [hyb]; unfold pb; rw [if_neg (by omega)]
        rw [e] at K2
        clear hyb e
        generalize byt c j = y at *
        have q1 : ((y : Int) != (y : Int)) = false := by simp
        go_wp2_with fail
        refine (K1.out _).mono ?_
        rintro e w5 ⟨rfl, h5⟩
        have RC5 := Lib.hid (RC.out.ev h5)
        have RD5 := Lib.hid (RD.out.ev h5)
        have RE5 := Lib.hid (RE.out.step h5)
        clear h5
        clear c0 c1 c2 c3 c4 c5 c6 c7
        obtain ⟨-, h8, -⟩ := RD5.out
        have d0 := h8 0 (by omega)
        have d1 := h8 1 (by omega)
        have d2 := h8 2 (by omega)
        have d3 := h8 3 (by omega)
        have d4 := h8 4 (by omega)
        have d5 := h8 5 (by omega)
        have d6 := h8 6 (by omega)
        have d7 := h8 7 (by omega)
        clear h8
        go_wp2_with fail
        refine (K2.out _).mono ?_
        rintro e w6 ⟨rfl, h6⟩
        have RC6 := Lib.hid (RC5.out.ev h6)
        have RD6 := Lib.hid (RD5.out.ev h6)
        have RE6 := Lib.hid (RE5.out.step h6)
        clear h6
        clear d0 d1 d2 d3 d4 d5 d6 d7
        go_wp2_with fail
        go_roundw
        case rel => exact ⟨j + 1, by omega, by go_num, RC6.out, RD6.out, RE6.out⟩
        case measure => simp [intOf]; omega
    · as_aux_lemma =>
      obtain rfl : j = 64 := by omega
      obtain ⟨-, h8, -⟩ := RD.out
      have d0 := h8 0 (by omega)
      have d1 := h8 1 (by omega)
      have d2 := h8 2 (by omega)
      have d3 := h8 3 (by omega)
      have d4 := h8 4 (by omega)
      have d5 := h8 5 (by omega)
      have d6 := h8 6 (by omega)
      have d7 := h8 7 (by omega)
      clear h8
      go_wp2_with fail
      refine (H3.out _).mono ?_
      rintro e w3 ⟨rfl, h3⟩
      have RD3 := Lib.hid (RD.out.ev h3)
      have RE3 := Lib.hid (RE.out.step h3)
      clear h3
      clear d0 d1 d2 d3 d4 d5 d6 d7
      obtain ⟨-, h8, -⟩ := RD3.out
      have d0 := h8 0 (by omega)
      have d1 := h8 1 (by omega)
      have d2 := h8 2 (by omega)
      have d3 := h8 3 (by omega)
      have d4 := h8 4 (by omega)
      have d5 := h8 5 (by omega)
      have d6 := h8 6 (by omega)
      have d7 := h8 7 (by omega)
      clear h8
      go_wp2_with fail
      refine (H4.out _).mono ?_
      rintro e w4 ⟨rfl, h4⟩
      have RD4 := Lib.hid ((RD3.out.ev h4).ev ((Ev.refl _).alloc (pgO d)))
      have RE4 := Lib.hid ((RE3.out.step h4).alloc (pgO d))
      have RN4 := Lib.hid (BP.new w4 d)
      clear h4
      clear d0 d1 d2 d3 d4 d5 d6 d7
      obtain ⟨-, h8, -⟩ := RD4.out
      have d0 := h8 0 (by omega)
      have d1 := h8 1 (by omega)
      have d2 := h8 2 (by omega)
      have d3 := h8 3 (by omega)
      have d4 := h8 4 (by omega)
      have d5 := h8 5 (by omega)
      have d6 := h8 6 (by omega)
      have d7 := h8 7 (by omega)
      clear h8
      go_wp2_with fail
      refine (H5.out _).mono ?_
      rintro e w5 ⟨rfl, h5⟩
      have RD5 := Lib.hid (RD4.out.ev h5)
      have RN5 := Lib.hid (RN4.out.ev h5)
      have RE5 := Lib.hid (RE4.out.step h5)
      clear h5
      clear d0 d1 d2 d3 d4 d5 d6 d7
      obtain ⟨-, h8, -⟩ := RD5.out
      have d0 := h8 0 (by omega)
      have d1 := h8 1 (by omega)
      have d2 := h8 2 (by omega)
      have d3 := h8 3 (by omega)
      have d4 := h8 4 (by omega)
      have d5 := h8 5 (by omega)
      have d6 := h8 6 (by omega)
      have d7 := h8 7 (by omega)
      clear h8
      obtain ⟨-, h8, -⟩ := RN5.out
      have g0 := h8 0 (by omega)
      have g1 := h8 1 (by omega)
      have g2 := h8 2 (by omega)
      have g3 := h8 3 (by omega)
      have g4 := h8 4 (by omega)
      have g5 := h8 5 (by omega)
      have g6 := h8 6 (by omega)
      have g7 := h8 7 (by omega)
      clear h8
      have hq := HQ.out
      have q5 : ((x : Int) == (v : Int) % 1099511627776) = true := by rw [HX.out]; simp
      have q6 : (IntKind.u64.wrap (IntKind.u64.wrap s * 16777216) == (x : Int) * 16777216) = true := by
        have h := HSO.out
        rw [IntKind.wrap_u64, IntKind.wrap_u64]; simp; omega
      go_wp2_with fail
      refine (awake_any _).mono ?_
      rintro e w6 ⟨rfl, h6⟩
      have RE6 := Lib.hid (RE5.out.step h6)
      clear h6
      go_wp2_with fail
      go_ret
      exact ⟨rfl, RE6.out⟩
end Go.Proofs.Ytfclbnaabdlmhaa
