import Derived.Test.YtnlbkaabhnkkfaaPK0
namespace Go.Proofs.Ytnlbkaabhnkkfaa
open Go.RowKit
/-- awake behind one number more -/
theorem want_step {b c : Int} (hbc : b < c) (aw : Bool) (x : Int) : nxV b c aw x = if c ≤ x then false else if x < b then true else aw := by
  unfold nxV
  by_cases h1 : c ≤ x
  · rw [if_pos h1, decide_eq_false (by omega), decide_eq_false (by omega)]; simp
  · rw [if_neg h1]
    by_cases h2 : x < b
    · rw [if_pos h2, decide_eq_true h2]; rfl
    · rw [if_neg h2, decide_eq_false h2, decide_eq_true (by omega)]; simp
theorem rnV_upto {a b c : Int} {l : List Int} (h : asE a b c l = 0) : rnV a b c l = upto (fun j => gS b c l (j + 1)) l.length := by unfold rnV; rw [if_pos h]; exact runV_upto b c l
theorem upto_getD {α : Type} (f : Nat → α) (d : α) (k j : Nat) (h : j < k) : (upto f k).getD j d = f j := by unfold upto; simp [h]
theorem spV_eq {a b c : Int} {l : List Int} (h : asE a b c l = 0) : spV a b c l = (spF (upto (fun j => (j, gS b c l (j + 1))) l.length)).1 := by unfold spV; rw [if_pos h]
set_option maxRecDepth 100000 in
set_option maxHeartbeats 4000000 in
theorem last_any (n : Int) (A0 : Option Addr) (cap0 : Nat) (nums : List Int) (w : World) (hn : -9223372036854775808 ≤ n) (hn2 : n ≤ 9223372036854775807) (hr0 : RdI w A0 nums) : Calls Try.prog 6 #[.int .i64 n, .slice A0 nums.length cap0] w fun e w' => e = .returned (.bool true) ∧ Ev w w' := by
  have HM := Lib.hid (made_any n w hn hn2)
  have HHI : Hid (∀ W, Ev w W → Calls Try.prog 33 #[.slice A0 nums.length cap0] W fun e w' => ∃ A cap, e = .returned (.slice A (hiL nums).length cap) ∧ RdI w' A (hiL nums) ∧ Ev W w') := Lib.hid fun W e => (history_any A0 cap0 nums W (hr0.ev e)).mono fun _ _ ⟨v, h1, h2, h3⟩ => by
    obtain ⟨A, cap, rfl, hr⟩ := RdI.of_own h2 (by have := hiL_len nums; omega)
    exact ⟨A, cap, h1, hr, h3⟩
  have hL4 := hiL_len nums
  have hLb := Lib.hid (hi_bd nums)
  have AW := Lib.hid awake_any
  clear hr0
  generalize hiL nums = l at *
  go_enter Try.func6, Try.ntmps6
  go_wp2_with fail
  refine HM.out.mono ?_
  rintro e w1 ⟨a, b, c, rfl, hv, hev⟩
  have has := asE_hist hv hL4 hLb.out
  have hsp := Lib.hid (spV_eq has)
  have hbc : b < c := hv.2.2.1
  have HSO := Lib.hid (spans_ok b c l hbc)
  have HRN := Lib.hid (rnV_upto has)
  have HASE := Lib.hid has
  clear has
  go_wp2_with fail
  refine (HHI.out _ hev).mono ?_
  rintro e w2 ⟨A, cap, rfl, hr, hev2⟩
  have HB : Hid (∀ W, Ev (w2.alloc (mb a b c)) W → W.cell? ⟨w2.heap.size, 0, none⟩ = some (.int .i64 a) ∧ W.cell? ⟨w2.heap.size, 1, none⟩ = some (.int .i64 b) ∧ W.cell? ⟨w2.heap.size, 2, none⟩ = some (.int .i64 c)) := Lib.hid fun W e => by refine ⟨?_, ?_, ?_⟩ <;> (rw [e.cell (by simp)]; simp)
  have HEW : Hid (∀ W, Ev (w2.alloc (mb a b c)) W → Ev w W) := Lib.hid fun W e => (((hev.step hev2).alloc _).step e)
  have HR : Hid (∀ W, Ev (w2.alloc (mb a b c)) W → RdI W A l) := Lib.hid fun W e => (hr.ev ((Ev.refl _).alloc _)).ev e
  clear hev hev2 hr hv
  go_wp2_with fail
  refine (Run_any a b c A cap l _ (HR.out _ (Ev.refl _))).mono ?_
  rintro e w3 ⟨v1, rfl, ho, hev⟩
  obtain ⟨B1, d1, rfl, hb1⟩ := RdB.of_own ho (by have := rnV_len a b c l; omega)
  rw [HRN.out] at hb1 ⊢
  rw [HASE.out]
  have HB1 := Lib.hid hb1
  have HE := Lib.hid hev
  clear ho hb1 hev
  simp only [upto_length]
  obtain ⟨x0, x1, x2⟩ := HB.out _ HE.out
  go_wp2_with fail
  go_loopw [9, 10] (fun wt i wr => ∃ j : Nat, j ≤ l.length ∧ i = .int .i64 j ∧ wt = .bool (gS b c l j) ∧ Ev w3 wr) (fun _ i _ => l.length - (intOf i).toNat)
  case atStart => exact ⟨0, by omega, rfl, rfl, Ev.refl _⟩
  case round =>
    clear x0 x1 x2
    obtain ⟨j, hj, rfl, rfl, hev⟩ := hrel
    have HEV := Lib.hid hev
    have HE2 := Lib.hid (HE.out.step hev)
    obtain ⟨x0, x1, x2⟩ := HB.out _ HE2.out
    by_cases hlt : j < l.length
    · obtain ⟨b1, o1, rfl, hb1, c1⟩ := (HR.out _ HE2.out).2 j hlt
      obtain ⟨b2, o2, hq2, hb2, c2⟩ := (HB1.out.ev hev).2 j (by rw [upto_length]; exact hlt)
      rw [upto_getD _ _ _ _ hlt] at c2
      obtain rfl := hq2
      have hws : gS b c l (j + 1) = if c ≤ l.getD j 0 then false else if l.getD j 0 < b then true else gS b c l j := want_step hbc (gS b c l j) (l.getD j 0)
      have hlt' : (j : Int) < (l.length : Int) := by omega
      have hj0 : 0 ≤ (j : Int) := by omega
      generalize l.getD j 0 = x at *
      generalize hg1 : gS b c l (j + 1) = g1 at *
      generalize hg0 : gS b c l j = g0 at *
      have HG1 := Lib.hid hg1
      clear hg1 hg0 hev hb1 hb2
      rcases (show c ≤ x ∨ (x < c ∧ x < b) ∨ (x < c ∧ b ≤ x) by omega) with h1 | ⟨h1, h2⟩ | ⟨h1, h2⟩
      · rw [if_pos h1] at hws
        subst hws
        have h2 : b ≤ x := by omega
        go_wp2_with fail
        go_quiet (fail)
        go_wp2_with fail
        go_quiet (fail)
        go_wp2_with fail
        go_roundw
        case rel => exact ⟨j + 1, by omega, by go_num, by rw [HG1.out], by repeat (first | exact HEV.out | apply Ev.drewN)⟩
        case measure => simp [intOf]; omega
      · rw [if_neg (by omega), if_pos h2] at hws
        subst hws
        go_wp2_with fail
        go_quiet (fail)
        go_wp2_with fail
        go_quiet (fail)
        go_wp2_with fail
        go_roundw
        case rel => exact ⟨j + 1, by omega, by go_num, by rw [HG1.out], by repeat (first | exact HEV.out | apply Ev.drewN)⟩
        case measure => simp [intOf]; omega
      · rw [if_neg (by omega), if_neg (by omega)] at hws
        subst hws
        go_wp2_with fail
        go_quiet (fail)
        go_wp2_with fail
        go_quiet (fail)
        go_wp2_with fail
        go_roundw
        case rel => exact ⟨j + 1, by omega, by go_num, by rw [HG1.out], by repeat (first | exact HEV.out | apply Ev.drewN)⟩
        case measure => simp [intOf]; omega
    · obtain rfl : j = l.length := by omega
      clear hev
      go_wp2_with fail
      refine (Spans_any a b c A cap l _ (HR.out _ HE2.out)).mono ?_
      clear x0 x1 x2
      rintro e w5 ⟨v2, rfl, ho, hev⟩
      rw [hsp.out] at ho
      rw [HASE.out]
      have hSl : (spF (upto (fun j => (j, gS b c l (j + 1))) l.length)).1.length ≤ 40 := by
        have := spF_len (upto (fun j => (j, gS b c l (j + 1))) l.length)
        rw [upto_length] at this
        omega
      obtain ⟨B3, d3, rfl, hb3⟩ := RdP.of_own ho (by omega)
      have HB3 := Lib.hid hb3
      have HE5 := Lib.hid (HE2.out.step hev)
      clear ho hb3 hev
      generalize (spF (upto (fun j => (j, gS b c l (j + 1))) l.length)).1 = S at *
      go_wp2_with fail
      go_loopw [12] (fun i wr => ∃ j : Nat, j ≤ S.length ∧ i = .int .i64 j ∧ Ev w5 wr) (fun i _ => S.length - (intOf i).toNat)
      case atStart => exact ⟨0, by omega, rfl, Ev.refl _⟩
      case round =>
        obtain ⟨j, hj, rfl, hev⟩ := hrel
        have HEV := Lib.hid hev
        have HE6 := Lib.hid (HE5.out.step hev)
        by_cases hlt : j < S.length
        · obtain ⟨bs, os, rfl, hbs, c1, c2⟩ := (HB3.out.ev hev).2 j hlt
          have hmem : S.getD j (0, 0) ∈ S := by simp [List.getD, hlt]
          obtain ⟨f, t, hft, h1, h2, h3, h4⟩ := HSO.out _ hmem
          rw [hft] at c1 c2
          simp only at c1 c2
          have HE7 : Hid (∀ o, Ev (w2.alloc (mb a b c)) (wr.alloc o)) := Lib.hid fun o => HE6.out.alloc o
          obtain ⟨x0, x1, x2⟩ := HB.out _ (HE7.out (.cells #[.int .i64 f, .int .i64 t] 51))
          obtain ⟨bl, ol, rfl, -, k1⟩ := (HR.out _ (HE7.out (.cells #[.int .i64 f, .int .i64 t] 51))).2 f (by omega)
          have HR2 := Lib.hid ((HR.out _ (HE7.out (.cells #[.int .i64 f, .int .i64 t] 51))).2)
          generalize l.getD f 0 = lf at *
          have hlt' : (j : Int) < (S.length : Int) := by omega
          have hj0 : 0 ≤ (j : Int) := by omega
          have f0 : 0 ≤ (f : Int) := by omega
          have g1 : decide ((f : Int) < 0) = false := by simp
          have g2 : decide (t < f) = false := by simp; omega
          have g3 : decide (l.length ≤ t) = false := by simp; omega
          have g4 : decide (b ≤ lf) = false := by simp; omega
          have flt : (f : Int) < (l.length : Int) := by omega
          clear hev hbs hmem hft
          by_cases ht : t + 1 < l.length
          · obtain ⟨bl2, ol2, hq, -, k2⟩ := HR2.out (t + 1) ht
            obtain ⟨rfl, rfl⟩ : bl = bl2 ∧ ol = ol2 := by injection hq with h; injection h with h1 h2; exact ⟨h1, h2⟩
            have h4' := h4 ht
            generalize l.getD (t + 1) 0 = lt at *
            have g5 : decide (lt < c) = false := by simp; omega
            have t0 : 0 ≤ (t : Int) + 1 := by omega
            have tlt : (t : Int) + 1 < (l.length : Int) := by omega
            clear h4 hq
            go_wp2_with fail
            go_quiet (fail)
            go_wp2_with fail
            go_roundw
            case rel => exact ⟨j + 1, by omega, by go_num, by repeat (first | exact HEV.out.alloc _ | apply Ev.drewN)⟩
            case measure => simp [intOf]; omega
          · have g5 : ¬ (t : Int) + 1 < (l.length : Int) := by omega
            have g6 : decide ((t : Int) + 1 < (l.length : Int)) = false := decide_eq_false g5
            clear h4
            go_wp2_with fail
            go_quiet (fail)
            go_wp2_with fail
            go_roundw
            case rel => exact ⟨j + 1, by omega, by go_num, by repeat (first | exact HEV.out.alloc _ | apply Ev.drewN)⟩
            case measure => simp [intOf]; omega
        · obtain rfl : j = S.length := by omega
          clear hev
          go_wp2_with fail
          refine (AW.out _).mono ?_
          rintro e w9 ⟨rfl, hev⟩
          have HF := Lib.hid (HEW.out _ (HE6.out.step hev))
          clear hev
          go_wp2_with fail
          go_ret
          exact ⟨rfl, HF.out⟩
end Go.Proofs.Ytnlbkaabhnkkfaa
