import Derived.Test.YtfiglmbnjfgdlaaDoorD2
namespace Go.Proofs.YtfiglmbnjfgdlaaDoor
open Go.RowKit
theorem box3_new (W : World) (s f w : Int) : Box3 (W.alloc (rdO s f w)) W.heap.size s f w := ⟨by simp, by simp, by simp⟩
theorem tri (n : Int) : (n != -1) = false ∧ ¬ (n ≠ -1 ∧ inF n = false) ∨ (n != -1) = true ∧ inF n = true ∧ ¬ (n ≠ -1 ∧ inF n = false) ∨ (n != -1) = true ∧ inF n = false ∧ (n ≠ -1 ∧ inF n = false) := by
  by_cases h : n = -1
  · left; exact ⟨by simp [h], fun hc => hc.1 h⟩
  · right
    have h1 : (n != -1) = true := by simp [h]
    rcases h2 : inF n with _ | _
    · right; exact ⟨h1, rfl, h, rfl⟩
    · left; exact ⟨h1, rfl, fun hc => by simp at hc⟩
set_option maxRecDepth 100000 in
set_option maxHeartbeats 8000000 in
theorem check_any (s f w : Int) (W : World) : Calls Tryd.prog 10 #[rd s f w] W fun e w' => e = .returned (.int .i64 (ck s f w)) ∧ Ev W w' := by
  have HE : Hid (Ev W (W.alloc (rdO s f w))) := Lib.hid (al1 _ _)
  by_cases h1 : s < 1
  · have HV : Hid (ck s f w = 9) := Lib.hid (by unfold ck; rw [if_pos (by omega)])
    go_enter Tryd.func10, Tryd.ntmps10
    go_wp2_with fail
    go_ret
    exact ⟨by rw [HV.out]; rfl, HE.out⟩
  by_cases h8 : 8 < s
  · have HV : Hid (ck s f w = 9) := Lib.hid (by unfold ck; rw [if_pos (by omega)])
    go_enter Tryd.func10, Tryd.ntmps10
    go_wp2_with fail
    go_ret
    exact ⟨by rw [HV.out]; rfl, HE.out⟩
  have HS : Hid (¬ (s < 1 ∨ 8 < s)) := Lib.hid (by omega)
  have CF := Lib.hid fun W => isF_any f W
  have CW := Lib.hid fun W => isF_any w W
  have HV0 : Hid (ck s f w = if (f ≠ -1 ∧ inF f = false) ∨ (w ≠ -1 ∧ inF w = false) then 2 else if fitsV s f w then 0 else 3) := Lib.hid (by unfold ck; rw [if_neg HS.out])
  have CT := Lib.hid fun W => fits_any s f w W
  have i0 : ∀ w', (Instr.index 58 (.agg #[.int .i64 f, .int .i64 w]) (.int .i64 0)).run Tryd.prog w' = .ok (.int .i64 f) w' := fun _ => by kernel_rfl
  have i1 : ∀ w', (Instr.index 58 (.agg #[.int .i64 f, .int .i64 w]) (.int .i64 1)).run Tryd.prog w' = .ok (.int .i64 w) w' := fun _ => by kernel_rfl
  rcases tri f with ⟨a, na⟩ | ⟨a, b, na⟩ | ⟨a, b, na⟩
  · rcases tri w with ⟨c, nc⟩ | ⟨c, d, nc⟩ | ⟨c, d, nc⟩
    · skip
      have HV : Hid (ck s f w = if fitsV s f w then 0 else 3) := Lib.hid (by rw [HV0.out, if_neg (fun h => h.elim na nc)])
      clear na nc
      rcases hq : fitsV s f w with _ | _
      all_goals
        rw [hq] at CT HV
        clear hq
        go_enter Tryd.func10, Tryd.ntmps10
        go_upto_region 4 with fail
        refine wp_loop_rounds 3 ?_
        rw [rounds_succ]
        go_wp2_with fail
        rw [rounds_succ]
        go_wp2_with fail
        rw [rounds_succ]
        go_wp2_with fail
        refine (CT.out _).mono ?_
        rintro e w5 ⟨rfl, hev⟩
        have HE5 := Lib.hid (HE.out.step hev)
        clear hev
        go_wp2_with fail
        go_ret
        exact ⟨by rw [HV.out]; rfl, HE5.out⟩
    · skip
      rw [d] at CW
      have HV : Hid (ck s f w = if fitsV s f w then 0 else 3) := Lib.hid (by rw [HV0.out, if_neg (fun h => h.elim na nc)])
      clear na nc d
      rcases hq : fitsV s f w with _ | _
      all_goals
        rw [hq] at CT HV
        clear hq
        go_enter Tryd.func10, Tryd.ntmps10
        go_upto_region 4 with fail
        refine wp_loop_rounds 3 ?_
        rw [rounds_succ]
        go_wp2_with fail
        rw [rounds_succ]
        go_wp2_with fail
        refine (CW.out _).mono ?_
        rintro e w5 ⟨rfl, rfl⟩
        go_wp2_with fail
        rw [rounds_succ]
        go_wp2_with fail
        refine (CT.out _).mono ?_
        rintro e w5 ⟨rfl, hev⟩
        have HE5 := Lib.hid (HE.out.step hev)
        clear hev
        go_wp2_with fail
        go_ret
        exact ⟨by rw [HV.out]; rfl, HE5.out⟩
    · skip
      rw [d] at CW
      have HV : Hid (ck s f w = 2) := Lib.hid (by rw [HV0.out, if_pos (.inr nc)])
      clear na nc d
      go_enter Tryd.func10, Tryd.ntmps10
      go_upto_region 4 with fail
      refine wp_loop_rounds 3 ?_
      rw [rounds_succ]
      go_wp2_with fail
      rw [rounds_succ]
      go_wp2_with fail
      refine (CW.out _).mono ?_
      rintro e w5 ⟨rfl, rfl⟩
      go_wp2_with fail
      go_ret
      exact ⟨by rw [HV.out]; rfl, HE.out⟩
  · rcases tri w with ⟨c, nc⟩ | ⟨c, d, nc⟩ | ⟨c, d, nc⟩
    · rw [b] at CF
      have HV : Hid (ck s f w = if fitsV s f w then 0 else 3) := Lib.hid (by rw [HV0.out, if_neg (fun h => h.elim na nc)])
      clear na nc b
      rcases hq : fitsV s f w with _ | _
      all_goals
        rw [hq] at CT HV
        clear hq
        go_enter Tryd.func10, Tryd.ntmps10
        go_upto_region 4 with fail
        refine wp_loop_rounds 3 ?_
        rw [rounds_succ]
        go_wp2_with fail
        refine (CF.out _).mono ?_
        rintro e w5 ⟨rfl, rfl⟩
        go_wp2_with fail
        rw [rounds_succ]
        go_wp2_with fail
        rw [rounds_succ]
        go_wp2_with fail
        refine (CT.out _).mono ?_
        rintro e w5 ⟨rfl, hev⟩
        have HE5 := Lib.hid (HE.out.step hev)
        clear hev
        go_wp2_with fail
        go_ret
        exact ⟨by rw [HV.out]; rfl, HE5.out⟩
    · rw [b] at CF
      rw [d] at CW
      have HV : Hid (ck s f w = if fitsV s f w then 0 else 3) := Lib.hid (by rw [HV0.out, if_neg (fun h => h.elim na nc)])
      clear na nc b d
      rcases hq : fitsV s f w with _ | _
      all_goals
        rw [hq] at CT HV
        clear hq
        go_enter Tryd.func10, Tryd.ntmps10
        go_upto_region 4 with fail
        refine wp_loop_rounds 3 ?_
        rw [rounds_succ]
        go_wp2_with fail
        refine (CF.out _).mono ?_
        rintro e w5 ⟨rfl, rfl⟩
        go_wp2_with fail
        rw [rounds_succ]
        go_wp2_with fail
        refine (CW.out _).mono ?_
        rintro e w5 ⟨rfl, rfl⟩
        go_wp2_with fail
        rw [rounds_succ]
        go_wp2_with fail
        refine (CT.out _).mono ?_
        rintro e w5 ⟨rfl, hev⟩
        have HE5 := Lib.hid (HE.out.step hev)
        clear hev
        go_wp2_with fail
        go_ret
        exact ⟨by rw [HV.out]; rfl, HE5.out⟩
    · rw [b] at CF
      rw [d] at CW
      have HV : Hid (ck s f w = 2) := Lib.hid (by rw [HV0.out, if_pos (.inr nc)])
      clear na nc b d
      go_enter Tryd.func10, Tryd.ntmps10
      go_upto_region 4 with fail
      refine wp_loop_rounds 3 ?_
      rw [rounds_succ]
      go_wp2_with fail
      refine (CF.out _).mono ?_
      rintro e w5 ⟨rfl, rfl⟩
      go_wp2_with fail
      rw [rounds_succ]
      go_wp2_with fail
      refine (CW.out _).mono ?_
      rintro e w5 ⟨rfl, rfl⟩
      go_wp2_with fail
      go_ret
      exact ⟨by rw [HV.out]; rfl, HE.out⟩
  · rw [b] at CF
    have HV : Hid (ck s f w = 2) := Lib.hid (by rw [HV0.out, if_pos (.inl na)])
    clear na b
    go_enter Tryd.func10, Tryd.ntmps10
    go_upto_region 4 with fail
    refine wp_loop_rounds 3 ?_
    rw [rounds_succ]
    go_wp2_with fail
    refine (CF.out _).mono ?_
    rintro e w5 ⟨rfl, rfl⟩
    go_wp2_with fail
    go_ret
    exact ⟨by rw [HV.out]; rfl, HE.out⟩
end Go.Proofs.YtfiglmbnjfgdlaaDoor
