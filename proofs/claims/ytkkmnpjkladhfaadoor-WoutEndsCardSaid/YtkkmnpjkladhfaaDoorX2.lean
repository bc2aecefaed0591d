import Derived.Test.YtkkmnpjkladhfaaDoorX1
namespace Go.Proofs.YtkkmnpjkladhfaaDoor
open Go.RowKit
theorem pE_iff (s r k : Int) : (posB s k = true ∧ fitB s r k = true) ↔ pE s r k = 0 := by
  unfold pE
  cases posB s k <;> cases fitB s r k <;> simp
set_option maxHeartbeats 2000000 in
theorem rAllowed_any (s r c : Int) (w : World) : Calls Tryd.prog 13 #[wt s r c] w fun e w' => ∃ v, e = .returned (.tuple #[v, .int .i64 (oChk s r c)]) ∧ OwnI w' w.heap.size v (alV s r c) ∧ Ev w w' := by
  have HB := Lib.hid (B3 w s r c)
  have HA := Lib.hid ((Ev.refl w).alloc (.cells #[.int .i64 s, .int .i64 r, .int .i64 c] 23))
  have H : Hid (∀ W, Calls Tryd.prog 15 #[wt s r c] W fun e w' => e = .returned (.int .i64 (oChk s r c)) ∧ Ev W w') := Lib.hid fun W => rcheck_any s r c W
  by_cases h : oChk s r c = 0
  · have e : alV s r c = alS s r 6 := by unfold alV; rw [if_pos h]
    have hok := oChk_ok h
    rw [e, h]
    rw [h] at H
    obtain ⟨i0, hi0, hz0, hz1, hz2⟩ := info_parts info3
    have s1 : 1 ≤ s := hok.1
    have s6 : s ≤ 6 := hok.2.1
    have r0 : 0 ≤ r := hok.2.2.1
    clear e h hok
    go_enter Tryd.func13, Tryd.ntmps13
    go_wp2_with fail
    refine (H.out _).mono ?_
    rintro e w1 ⟨rfl, hev⟩
    have HE := Lib.hid hev
    clear hev
    go_wp2_with fail
    go_loopw [5, 6] (fun v i wr => ∃ k : Nat, k ≤ 6 ∧ i = .int .i64 ((k : Int) + 1) ∧ wr.ownsRow (w.heap.size + 1) 3 1 v (alS s r k).length (IV (alS s r k)) ∧ Ev (w.alloc (.cells #[.int .i64 s, .int .i64 r, .int .i64 c] 23)) wr) (fun _ i _ => 7 - (intOf i).toNat)
    case atStart => exact ⟨0, by omega, rfl, World.ownsRow_nil _ _ _ _, HE.out⟩
    case round =>
      obtain ⟨k, hk, rfl, hown, hev⟩ := hrel
      have HOWN := Lib.hid hown
      have HEV := Lib.hid hev
      obtain ⟨⟨x0, x1, x2⟩, -⟩ := HB.out _ hev
      clear hown hev
      by_cases hlt : k < 6
      · have HP := Lib.hid fun W => rpossible_any s r c ((k : Int) + 1) W s1 s6 (by omega) (by omega) r0
        have HS : Hid (alS s r (k + 1) = alS s r k ++ if pE s r ((k : Int) + 1) = 0 then [((k : Int) + 1)] else []) := Lib.hid (by rw [alS]; congr 1; simp only [Int.natCast_add, Int.cast_ofNat_Int, pE_iff])
        have hsl := alS_len s r k
        have hk1 : (k : Int) + 1 ≤ 6 := by omega
        have hk0 : 0 ≤ (k : Int) := by omega
        by_cases hp : pE s r ((k : Int) + 1) = 0
        · rw [hp] at HP
          rw [if_pos hp] at HS
          have H3 : Hid ((alS s r k).length + 1 ≤ maxLen) := Lib.hid (by unfold maxLen; omega)
          have H4 : Hid (((alS s r k).length + 1) * 8 ≤ 140737488355328) := Lib.hid (by omega)
          clear hp hsl
          go_wp2_with fail
          refine (HP.out _).mono ?_
          clear x0 x1 x2
          rintro e w2 ⟨rfl, hev⟩
          have HO2 := Lib.hid (Ev.own hev HOWN.out)
          have HE2 := Lib.hid (HEV.out.step hev)
          have H5 : Hid (∀ o, w.heap.size + 1 ≤ (w2.alloc o).heap.size) := Lib.hid (by intro o; have := HE2.out.sz; simp at this ⊢; omega)
          clear hev
          go_wp2_with (at_builtin; go_loud (refine wpList_append_own _ rfl (.tmp 20) (.tmp 22) 29 rfl (w.heap.size + 1) 3 i0 (.int .i64 0) 1 8 Tryd.underlying29 hi0 hz0 hz1 hz2 rfl Nat.one_pos u5 (alS s r k).length (IV (alS s r k)) rfl (HO2.out.alloc _) ⟨w2.heap.size, 0, none⟩ 1 1 [.int .i64 ((k : Int) + 1)] rfl rfl (one_cell _ _ _) (by simp [Value.oneCell']) H3.out H4.out (H5.out _) ?_); intro v1 w4 hown4 hg4 _)
          have HW4 := Lib.hid (Ev.grown (HE2.out.alloc _) hg4 (fun g hg => by have := (HO2.out.lt g hg).1; simp; omega))
          have HOW4 := Lib.hid hown4
          clear hg4 hown4
          go_wp2_with fail
          go_roundw
          case rel => exact ⟨k + 1, by omega, by go_num, by rw [HS.out]; unfold IV; rw [List.map_append, List.length_append]; exact HOW4.out, HW4.out⟩
          case measure => simp [intOf]; omega
        · rw [if_neg hp, List.append_nil] at HS
          have hp' : (pE s r ((k : Int) + 1) == 0) = false := by simpa using hp
          clear hp
          generalize pE s r ((k : Int) + 1) = er at *
          go_wp2_with fail
          refine (HP.out _).mono ?_
          clear x0 x1 x2
          rintro e w2 ⟨rfl, hev⟩
          have HO2 := Lib.hid (Ev.own hev HOWN.out)
          have HE2 := Lib.hid (HEV.out.step hev)
          clear hev
          go_wp2_with fail
          go_roundw
          case rel => exact ⟨k + 1, by omega, by go_num, by rw [HS.out]; exact HO2.out, HE2.out⟩
          case measure => simp [intOf]; omega
      · obtain rfl : k = 6 := by omega
        go_wp2_with fail
        go_ret2
        exact ⟨_, rfl, own_weaken HOWN.out (by omega), (HB.out _ HEV.out).2⟩
  · have e : alV s r c = [] := by unfold alV; rw [if_neg h]
    have h' : (oChk s r c != 0) = true := by simpa using h
    rw [e]
    clear e h
    generalize oChk s r c = er at *
    go_enter Tryd.func13, Tryd.ntmps13
    go_wp2_with fail
    refine (H.out _).mono ?_
    rintro e w1 ⟨rfl, hev⟩
    have hf := HA.out.step hev
    clear hev
    go_wp2_with fail
    go_ret2
    exact ⟨_, rfl, World.ownsRow_nil _ _ _ _, hf⟩
end Go.Proofs.YtkkmnpjkladhfaaDoor
