import Derived.Test.YtnlbkaabhnkkfaaP3
namespace Go.Proofs.Ytnlbkaabhnkkfaa
open Go.RowKit
set_option maxHeartbeats 1000000 in
theorem asks_any (a b c : Int) (A : Option Addr) (cap : Nat) (l : List Int) (w : World) (hr : RdI w A l) :
    Calls Try.prog 37 #[mk a b c, .slice A l.length cap] w fun e w' => e = .returned (.int .i64 (asE a b c l)) ∧ Ev w w' := by
  have H : Hid (∀ W, Calls Try.prog 12 #[mk a b c] W fun e w' => e = .returned (.int .i64 (mkE a b c)) ∧ Ev W w') := Lib.hid fun W => rcheck_any a b c W
  have hlen := hr.1
  obtain ⟨R, hR⟩ : ∃ R, R = asE a b c l := ⟨_, rfl⟩
  rw [← hR]
  have HRD := Lib.hid hr
  clear hr
  by_cases h1 : mkE a b c = 0
  · have e : asE a b c l = hsE l := by unfold asE; rw [if_neg (by simp [h1])]
    rw [e] at hR
    rw [h1] at H
    clear e h1
    by_cases h2 : 400 < l.length
    · have HR : Hid (R = 4) := Lib.hid (by rw [hR]; unfold hsE; rw [if_pos h2])
      have h2' : 400 < (l.length : Int) := by omega
      clear h2 hR
      go_enter Try.func37, Try.ntmps37
      go_wp2_with fail
      refine (H.out _).mono ?_
      rintro e w1 ⟨rfl, hev⟩
      have he := ((Ev.refl w).alloc (mb a b c)).step hev
      clear hev
      go_wp2_with fail
      refine wp_loop_rounds 1 ?_
      rw [rounds_succ]
      go_wp2_with fail
      go_ret
      exact ⟨ret_i64 HR.out.symm, he⟩
    · have HE : Hid (R = if l.any badB then 2 else 0) := Lib.hid (by rw [hR]; unfold hsE; rw [if_neg h2])
      have h2' : ¬ 400 < (l.length : Int) := by omega
      clear h2 hR
      go_enter Try.func37, Try.ntmps37
      go_wp2_with fail
      refine (H.out _).mono ?_
      rintro e w1 ⟨rfl, hev⟩
      have he := ((Ev.refl w).alloc (mb a b c)).step hev
      clear hev
      go_wp2_with fail
      go_loop [5, 6] (fun er i => ∃ (j : Nat) (e : Int), j ≤ l.length ∧ i = .int .i64 j ∧ er = .int .i64 e ∧ ((e = 0 ∧ (l.drop j).any badB = l.any badB) ∨ (e = 2 ∧ l.any badB = true))) (fun _ i => l.length - (intOf i).toNat)
      case atStart => exact ⟨0, 0, by omega, rfl, rfl, .inl ⟨rfl, rfl⟩⟩
      case round =>
        obtain ⟨j, er, hj, rfl, rfl, hd⟩ := hrel
        rcases hd with ⟨rfl, hd⟩ | ⟨rfl, hd⟩
        · by_cases hlt : j < l.length
          · rw [drop_any hlt] at hd
            obtain ⟨b', o, rfl, hb, c1⟩ := (HRD.out.ev he).2 j hlt
            generalize l.getD j 0 = x at *
            have HD := Lib.hid hd
            have hlt' : (j : Int) < (l.length : Int) := by omega
            have hj0 : 0 ≤ (j : Int) := by omega
            clear hd
            rcases (show x < 0 ∨ (0 ≤ x ∧ 256 < x) ∨ (0 ≤ x ∧ x ≤ 256) by omega) with hx | ⟨hx, hx2⟩ | ⟨hx, hx2⟩
            · have hbd : badB x = true := by unfold badB; exact decide_eq_true (by omega)
              have HT : Hid (l.any badB = true) := Lib.hid (by rw [← HD.out, hbd]; rfl)
              clear hbd HD
              go_wp2_with fail
              go_round
              case rel => exact ⟨j + 1, 2, by omega, by go_num, rfl, .inr ⟨rfl, HT.out⟩⟩
              case measure => simp [intOf]; omega
            · have hbd : badB x = true := by unfold badB; exact decide_eq_true (by omega)
              have HT : Hid (l.any badB = true) := Lib.hid (by rw [← HD.out, hbd]; rfl)
              clear hbd HD
              go_wp2_with fail
              go_round
              case rel => exact ⟨j + 1, 2, by omega, by go_num, rfl, .inr ⟨rfl, HT.out⟩⟩
              case measure => simp [intOf]; omega
            · have hbd : badB x = false := by unfold badB; exact decide_eq_false (by omega)
              have HT : Hid ((l.drop (j + 1)).any badB = l.any badB) := Lib.hid (by rw [← HD.out, hbd]; rfl)
              clear hbd HD
              go_wp2_with fail
              go_round
              case rel => exact ⟨j + 1, 0, by omega, by go_num, rfl, .inl ⟨rfl, HT.out⟩⟩
              case measure => simp [intOf]; omega
          · obtain rfl : j = l.length := by omega
            have HD : Hid (l.any badB = false) := Lib.hid (by rw [← hd]; simp)
            clear hd
            go_wp2_with fail
            go_ret
            refine ⟨?_, he⟩
            rw [HE.out, HD.out]
            rfl
        · have HD := Lib.hid hd
          clear hd
          by_cases hlt : j < l.length
          · have hlt' : (j : Int) < (l.length : Int) := by omega
            go_wp2_with fail
            go_ret
            refine ⟨?_, he⟩
            rw [HE.out, HD.out]
            rfl
          · obtain rfl : j = l.length := by omega
            go_wp2_with fail
            go_ret
            refine ⟨?_, he⟩
            rw [HE.out, HD.out]
            rfl
  · have e : asE a b c l = mkE a b c := by unfold asE; rw [if_pos h1]
    rw [e] at hR
    have h1' : (R != 0) = true := by rw [hR]; simpa using h1
    have h1'' : (R == 0) = false := by rw [hR]; simpa using h1
    rw [← hR] at H
    clear e h1 hR
    go_enter Try.func37, Try.ntmps37
    go_wp2_with fail
    refine (H.out _).mono ?_
    rintro e w1 ⟨rfl, hev⟩
    have he := ((Ev.refl w).alloc (mb a b c)).step hev
    clear hev
    go_wp2_with fail
    refine wp_loop_rounds 1 ?_
    rw [rounds_succ]
    by_cases hl : l.length = 0
    · rw [hl]
      go_wp2_with fail
      go_ret
      exact ⟨rfl, he⟩
    · have hl' : 0 < (l.length : Int) := by omega
      go_wp2_with fail
      go_ret
      exact ⟨rfl, he⟩
/-- the two blocks that a question of one number lays -/
abbrev q2w (w : World) (a b c x : Int) : World := (w.alloc (mb a b c)).alloc (.cells #[.int .i64 x] 3)
theorem q2_in (w : World) (a b c x : Int) (W : World) (e : Ev (q2w w a b c x) W) : (W.cell? ⟨w.heap.size, 0, none⟩ = some (.int .i64 a) ∧ W.cell? ⟨w.heap.size, 1, none⟩ = some (.int .i64 b) ∧ W.cell? ⟨w.heap.size, 2, none⟩ = some (.int .i64 c)) ∧ Ev w W := by
  refine ⟨⟨?_, ?_, ?_⟩, (((Ev.refl w).alloc _).alloc _).step e⟩
  all_goals
    rw [e.cell (by simp; omega), cellA _ _ _ _ (by simp)]
    simp
end Go.Proofs.Ytnlbkaabhnkkfaa
