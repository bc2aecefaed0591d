import Derived.Test.YtkkmnpjkladhfaaDoorW8
namespace Go.Proofs.YtkkmnpjkladhfaaDoor
open Go.RowKit

set_option maxHeartbeats 1000000 in
theorem rnext_any (s r c k p : Int) (w : World) : Calls Tryd.prog 11 #[wt s r c, ev k p] w fun e w' => e = .returned (.tuple #[wt (nxS s r c k p) (nxR s r c k p) (nxC s r c k p), .int .i64 (nxE s r c k p)]) ∧ Ev w w' := by
  have N : Hid (∀ W, Ev (w3 w s r c k p) W → NB w W s r c k p) := Lib.hid fun W e => NB.of e
  have H1 : Hid (∀ W, Ev (w3 w s r c k p) W → Calls Tryd.prog 15 #[wt s r c] W fun e w' => e = .returned (.int .i64 (oChk s r c)) ∧ Ev (w3 w s r c k p) w') := Lib.hid fun W e => evN e (rcheck_any s r c W)
  by_cases h1 : oChk s r c = 0
  · have a := oChk_ok h1
    rw [h1] at H1
    by_cases h2 : evE k p = 0
    · have b := evE_ok h2
      have H3 : Hid (∀ W, Ev (w3 w s r c k p) W → Calls Tryd.prog 37 #[wt s r c, .int .i64 k] W fun e w' => e = .returned (.int .i64 (pE s r k)) ∧ Ev (w3 w s r c k p) w') := Lib.hid fun W e => evN e (rpossible_any s r c k W (by omega) (by omega) (by omega) (by omega) (by omega))
      have k1 : 1 ≤ k := by omega
      have k6 : k ≤ 6 := by omega
      by_cases h3 : pE s r k = 0
      · have e : nxE s r c k p = 0 := by unfold nxE; rw [if_neg (by simp [h1]), if_neg (by simp [h2])]; exact h3
        have H5 : Hid (∀ W, Ev (w3 w s r c k p) W → Calls Tryd.prog 38 #[wt s r c, ev k p] W fun e w' => e = .returned (wt (afS s r k) (afR s r k) (afC s r c k p)) ∧ Ev (w3 w s r c k p) w') := Lib.hid fun W ee => evN ee (rafter_any W e)
        have e1 : nxS s r c k p = afS s r k := by unfold nxS; rw [if_pos e]
        have e2 : nxR s r c k p = afR s r k := by unfold nxR; rw [if_pos e]
        have e3 : nxC s r c k p = afC s r c k p := by unfold nxC; rw [if_pos e]
        rw [e, e1, e2, e3]
        rw [h3] at H3
        have hk : (k = 4 ∧ 1 ≤ p ∧ p ≤ 8) ∨ ((k == 4) = false ∧ (k != 4) = true ∧ p = 0) := by simp; omega
        clear h1 h2 h3 e e1 e2 e3 a b
        generalize afS s r k = s' at *
        generalize afR s r k = r' at *
        generalize afC s r c k p = c' at *
        rcases hk with ⟨rfl, p1, p8⟩ | ⟨d1, d2, rfl⟩
        all_goals
          go_enter Tryd.func11, Tryd.ntmps11
          go_wp2_with fail
          refine (H1.out _ (Ev.refl _)).mono ?_
          rintro e w0' ⟨rfl, hev⟩
          obtain ⟨⟨x0, x1, x2⟩, ⟨y0, y1⟩, ⟨z0, z1, z2⟩, ⟨f0, f1, f2⟩, hE, hz⟩ := N.out _ hev
          go_wp2_with fail
          refine (H3.out _ hev).mono ?_
          clear hev x0 x1 x2 y0 y1 z0 z1 z2 f0 f1 f2 hE hz
          rintro e w1' ⟨rfl, hev⟩
          obtain ⟨⟨x0, x1, x2⟩, ⟨y0, y1⟩, ⟨z0, z1, z2⟩, ⟨f0, f1, f2⟩, hE, hz⟩ := N.out _ hev
          go_wp2_with fail
          refine (H5.out _ hev).mono ?_
          clear hev x0 x1 x2 y0 y1 z0 z1 z2 f0 f1 f2 hE hz
          rintro e w2' ⟨rfl, hev⟩
          obtain ⟨⟨x0, x1, x2⟩, ⟨y0, y1⟩, ⟨z0, z1, z2⟩, ⟨f0, f1, f2⟩, hE, hz⟩ := N.out _ hev
          go_wp2_with fail
          refine bodyPost_ret (v := .tuple #[wt s' r' c', .int .i64 0]) (by simp [results, Tryd.results11, go_sem, z0, z1, z2]) rfl ⟨rfl, ?_⟩
          exact ((hE.setC (by simp only []; omega) _).setC (by simp only []; omega) _).setC (by simp only []; omega) _
      · have e : nxE s r c k p = pE s r k := by unfold nxE; rw [if_neg (by simp [h1]), if_neg (by simp [h2])]; rfl
        have e1 : nxS s r c k p = 0 := by unfold nxS; rw [if_neg (by rw [e]; exact h3)]
        have e2 : nxR s r c k p = 0 := by unfold nxR; rw [if_neg (by rw [e]; exact h3)]
        have e3 : nxC s r c k p = 0 := by unfold nxC; rw [if_neg (by rw [e]; exact h3)]
        rw [e, e1, e2, e3]
        have h3' : (pE s r k != 0) = true := by simpa using h3
        have hk : (k = 4 ∧ 1 ≤ p ∧ p ≤ 8) ∨ ((k == 4) = false ∧ (k != 4) = true ∧ p = 0) := by simp; omega
        clear h1 h2 h3 e e1 e2 e3 a b
        generalize pE s r k = ee at *
        rcases hk with ⟨rfl, p1, p8⟩ | ⟨d1, d2, rfl⟩
        all_goals
          go_enter Tryd.func11, Tryd.ntmps11
          go_wp2_with fail
          refine (H1.out _ (Ev.refl _)).mono ?_
          rintro e w0' ⟨rfl, hev⟩
          obtain ⟨⟨x0, x1, x2⟩, ⟨y0, y1⟩, ⟨z0, z1, z2⟩, ⟨f0, f1, f2⟩, hE, hz⟩ := N.out _ hev
          go_wp2_with fail
          refine (H3.out _ hev).mono ?_
          clear hev x0 x1 x2 y0 y1 z0 z1 z2 f0 f1 f2 hE hz
          rintro e w1' ⟨rfl, hev⟩
          obtain ⟨⟨x0, x1, x2⟩, ⟨y0, y1⟩, ⟨z0, z1, z2⟩, ⟨f0, f1, f2⟩, hE, hz⟩ := N.out _ hev
          go_wp2_with fail
          refine bodyPost_ret (v := .tuple #[wt 0 0 0, .int .i64 ee]) (by simp [results, Tryd.results11, go_sem, z0, z1, z2]) rfl ⟨rfl, ?_⟩
          exact ((hE.setC (by simp only []; omega) _).setC (by simp only []; omega) _).setC (by simp only []; omega) _
    · have e : nxE s r c k p = evE k p := by unfold nxE; rw [if_neg (by simp [h1]), if_pos h2]
      have e1 : nxS s r c k p = 0 := by unfold nxS; rw [if_neg (by rw [e]; exact h2)]
      have e2 : nxR s r c k p = 0 := by unfold nxR; rw [if_neg (by rw [e]; exact h2)]
      have e3 : nxC s r c k p = 0 := by unfold nxC; rw [if_neg (by rw [e]; exact h2)]
      rw [e, e1, e2, e3]
      clear e e1 e2 e3 a h1
      by_cases h4 : k < 1 ∨ 6 < k
      · have ee : evE k p = 16 := by unfold evE; rw [if_pos h4]
        rw [ee]
        clear ee h2
        go_enter Tryd.func11, Tryd.ntmps11
        go_wp2_with fail
        refine (H1.out _ (Ev.refl _)).mono ?_
        rintro e w0' ⟨rfl, hev⟩
        obtain ⟨⟨x0, x1, x2⟩, ⟨y0, y1⟩, ⟨z0, z1, z2⟩, ⟨f0, f1, f2⟩, hE, hz⟩ := N.out _ hev
        go_wp2_with fail
        all_goals first
          | (exfalso; omega)
          | (refine bodyPost_ret (v := .tuple #[wt 0 0 0, .int .i64 16]) (by simp [results, Tryd.results11, go_sem, z0, z1, z2]) rfl ⟨rfl, ?_⟩
             exact ((hE.setC (by simp only []; omega) _).setC (by simp only []; omega) _).setC (by simp only []; omega) _)
      · have k1 : 1 ≤ k := by omega
        have k6 : k ≤ 6 := by omega
        by_cases h5 : k = 4
        · subst h5
          have hp : p < 1 ∨ 8 < p := by
            by_cases hh : p < 1 ∨ 8 < p
            · exact hh
            · exfalso; apply h2; unfold evE; rw [if_neg h4, if_pos rfl, if_neg hh]
          have ee : evE 4 p = 2 := by unfold evE; rw [if_neg h4, if_pos rfl, if_pos hp]
          rw [ee]
          clear ee h2 h4
          go_enter Tryd.func11, Tryd.ntmps11
          go_wp2_with fail
          refine (H1.out _ (Ev.refl _)).mono ?_
          rintro e w0' ⟨rfl, hev⟩
          obtain ⟨⟨x0, x1, x2⟩, ⟨y0, y1⟩, ⟨z0, z1, z2⟩, ⟨f0, f1, f2⟩, hE, hz⟩ := N.out _ hev
          go_wp2_with fail
          all_goals first
            | (exfalso; omega)
            | (refine bodyPost_ret (v := .tuple #[wt 0 0 0, .int .i64 2]) (by simp [results, Tryd.results11, go_sem, z0, z1, z2]) rfl ⟨rfl, ?_⟩
               exact ((hE.setC (by simp only []; omega) _).setC (by simp only []; omega) _).setC (by simp only []; omega) _)
        · have hp : p ≠ 0 := by
            intro hh
            apply h2; unfold evE; rw [if_neg h4, if_neg h5, if_neg (by simp [hh])]
          have ee : evE k p = 3 := by unfold evE; rw [if_neg h4, if_neg h5, if_pos hp]
          rw [ee]
          have d1 : (k == 4) = false := by simpa using h5
          have d2 : (k != 4) = true := by simpa using h5
          have d3 : (p != 0) = true := by simpa using hp
          clear ee h2 h4 h5 hp
          go_enter Tryd.func11, Tryd.ntmps11
          go_wp2_with fail
          refine (H1.out _ (Ev.refl _)).mono ?_
          rintro e w0' ⟨rfl, hev⟩
          obtain ⟨⟨x0, x1, x2⟩, ⟨y0, y1⟩, ⟨z0, z1, z2⟩, ⟨f0, f1, f2⟩, hE, hz⟩ := N.out _ hev
          go_wp2_with fail
          refine bodyPost_ret (v := .tuple #[wt 0 0 0, .int .i64 3]) (by simp [results, Tryd.results11, go_sem, z0, z1, z2]) rfl ⟨rfl, ?_⟩
          exact ((hE.setC (by simp only []; omega) _).setC (by simp only []; omega) _).setC (by simp only []; omega) _
  · have e : nxE s r c k p = oChk s r c := by unfold nxE; rw [if_pos h1]
    have e1 : nxS s r c k p = 0 := by unfold nxS; rw [if_neg (by rw [e]; exact h1)]
    have e2 : nxR s r c k p = 0 := by unfold nxR; rw [if_neg (by rw [e]; exact h1)]
    have e3 : nxC s r c k p = 0 := by unfold nxC; rw [if_neg (by rw [e]; exact h1)]
    rw [e, e1, e2, e3]
    have h1' : (oChk s r c != 0) = true := by simpa using h1
    clear h1 e e1 e2 e3
    generalize oChk s r c = ee at *
    go_enter Tryd.func11, Tryd.ntmps11
    go_wp2_with fail
    refine (H1.out _ (Ev.refl _)).mono ?_
    rintro e w0' ⟨rfl, hev⟩
    obtain ⟨⟨x0, x1, x2⟩, ⟨y0, y1⟩, ⟨z0, z1, z2⟩, ⟨f0, f1, f2⟩, hE, hz⟩ := N.out _ hev
    go_wp2_with fail
    refine bodyPost_ret (v := .tuple #[wt 0 0 0, .int .i64 ee]) (by simp [results, Tryd.results11, go_sem, z0, z1, z2]) rfl ⟨rfl, ?_⟩
    exact ((hE.setC (by simp only []; omega) _).setC (by simp only []; omega) _).setC (by simp only []; omega) _
end Go.Proofs.YtkkmnpjkladhfaaDoor
