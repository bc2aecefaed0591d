import Derived.Test.YtfiglmbnjfgdlaaDoorD5
namespace Go.Proofs.YtfiglmbnjfgdlaaDoor
open Go.RowKit
theorem cell3 {W W' : World} {s f w : Int} (h : Ev (W.alloc (rdO s f w)) W') : W'.cell? ⟨W.heap.size, 0, none⟩ = some (.int .i64 s) ∧ W'.cell? ⟨W.heap.size, 1, none⟩ = some (.int .i64 f) ∧ W'.cell? ⟨W.heap.size, 2, none⟩ = some (.int .i64 w) :=
  (box3_new W s f w).ev (by simp) h
set_option maxRecDepth 100000 in
set_option maxHeartbeats 16000000 in
theorem cev_any (s f w e n : Int) (W : World) (hT : Tab W) (hc : ck s f w = 0) : Calls Tryd.prog 37 #[rd s f w, .int .i64 e, .int .i64 n] W fun x w' => x = .returned (.int .i64 (cev s w e n)) ∧ Ev W w' := by
  have HE : Hid (Ev W (W.alloc (rdO s f w))) := Lib.hid (al1 _ _)
  have HT := Lib.hid (hT.ev HE.out)
  by_cases h1 : e < 1 ∨ 6 < e
  · have HV : Hid (cev s w e n = 16) := Lib.hid (by unfold cev; rw [if_pos h1])
    rcases (show e < 1 ∨ (¬ e < 1 ∧ 6 < e) by omega) with h2 | ⟨h2, h3⟩
    all_goals
      clear h1 hc hT
      go_enter Tryd.func37, Tryd.ntmps37
      go_wp2_with fail
      go_ret
      exact ⟨by rw [HV.out]; rfl, HE.out⟩
  · have CM := Lib.hid fun W h => may_any s f w e W h hc (by omega)
    have CF := Lib.hid fun W => isF_any n W
    have HC := Lib.hid hc
    have g1 : ¬ e < 1 := by omega
    have g2 : ¬ 6 < e := by omega
    have H1 := Lib.hid h1
    clear hc hT h1
    by_cases h2 : e = 1
    · subst h2
      rcases h3 : inF n with _ | _
      · have HV : Hid (cev s w 1 n = 2) := Lib.hid (by unfold cev; rw [if_neg H1.out, if_pos (by left; exact ⟨rfl, h3⟩)])
        rw [h3] at CF
        clear h3
        go_enter Tryd.func37, Tryd.ntmps37
        go_wp2_with fail
        refine (CF.out _).mono ?_
        rintro e w5 ⟨rfl, rfl⟩
        go_wp2_with fail
        go_ret
        exact ⟨by rw [HV.out]; rfl, HE.out⟩
      · have HV0 : Hid (cev s w 1 n = if mayV s w 1 = false then 9 else if n ≠ -1 ∧ n = w then 7 else 0) := Lib.hid (by unfold cev; rw [if_neg H1.out, if_neg (by simp [h3])])
        rw [h3] at CF
        have hn : (n != -1) = true := by unfold inF at h3; have := of_decide_eq_true h3; simp; omega
        clear h3
        rcases h4 : mayV s w 1 with _ | _
        · have HV : Hid (cev s w 1 n = 9) := Lib.hid (by rw [HV0.out, if_pos h4])
          rw [h4] at CM
          clear h4
          go_enter Tryd.func37, Tryd.ntmps37
          go_wp2_with fail
          refine (CF.out _).mono ?_
          rintro e w5 ⟨rfl, rfl⟩
          go_wp2_with fail
          refine (CM.out _ HT.out).mono ?_
          rintro e w5 ⟨rfl, hev⟩
          have HE5 := Lib.hid (HE.out.step hev)
          clear hev
          go_wp2_with fail
          go_ret
          exact ⟨by rw [HV.out]; rfl, HE5.out⟩
        · obtain ⟨b, hb⟩ : ∃ b, (n == w) = b := ⟨_, rfl⟩
          have HV : Hid (cev s w 1 n = if b then 7 else 0) := Lib.hid (by
            rw [HV0.out, if_neg (by simp [h4])]
            have : n ≠ -1 := by simpa using hn
            subst hb
            by_cases h : n = w
            · rw [if_pos ⟨this, h⟩, h]; simp
            · rw [if_neg (fun hc => h hc.2)]; simp [h])
          rw [h4] at CM
          clear h4
          cases b
          all_goals
            go_enter Tryd.func37, Tryd.ntmps37
            go_wp2_with fail
            refine (CF.out _).mono ?_
            rintro e w5 ⟨rfl, rfl⟩
            go_wp2_with fail
            refine (CM.out _ HT.out).mono ?_
            rintro e w5 ⟨rfl, hev⟩
            have HE5 := Lib.hid (HE.out.step hev)
            obtain ⟨c0, c1, c2⟩ := cell3 hev
            clear hev
            go_wp2_with fail
            go_ret
            exact ⟨by rw [HV.out]; rfl, HE5.out⟩
    · have e1 : (e == 1) = false := by simp [h2]
      have e2 : (e != 1) = true := by simp [h2]
      by_cases h3 : n = -1
      · have n1 : (n != -1) = false := by simp [h3]
        have HV0 : Hid (cev s w e n = if mayV s w e = false then 9 else 0) := Lib.hid (by unfold cev; rw [if_neg H1.out, if_neg (by simp [h2, h3])]; simp [h3])
        clear h3 h2
        rcases h4 : mayV s w e with _ | _
        · have HV : Hid (cev s w e n = 9) := Lib.hid (by rw [HV0.out, if_pos h4])
          rw [h4] at CM
          clear h4
          go_enter Tryd.func37, Tryd.ntmps37
          go_wp2_with fail
          refine (CM.out _ HT.out).mono ?_
          rintro e w5 ⟨rfl, hev⟩
          have HE5 := Lib.hid (HE.out.step hev)
          clear hev
          go_wp2_with fail
          go_ret
          exact ⟨by rw [HV.out]; rfl, HE5.out⟩
        · have HV : Hid (cev s w e n = 0) := Lib.hid (by rw [HV0.out, if_neg (by simp [h4])])
          rw [h4] at CM
          clear h4
          go_enter Tryd.func37, Tryd.ntmps37
          go_wp2_with fail
          refine (CM.out _ HT.out).mono ?_
          rintro e w5 ⟨rfl, hev⟩
          have HE5 := Lib.hid (HE.out.step hev)
          clear hev
          go_wp2_with fail
          go_ret
          exact ⟨by rw [HV.out]; rfl, HE5.out⟩
      · have n1 : (n != -1) = true := by simp [h3]
        have HV : Hid (cev s w e n = 2) := Lib.hid (by unfold cev; rw [if_neg H1.out, if_pos (by right; exact ⟨h2, h3⟩)])
        clear h3 h2
        go_enter Tryd.func37, Tryd.ntmps37
        go_wp2_with fail
        go_ret
        exact ⟨by rw [HV.out]; rfl, HE.out⟩
/-- a beginning -/
def bgE (n : Int) : Int := if n = -1 ∨ inF n then 0 else 2
def bgV (n : Int) : Value := if bgE n = 0 then rd 1 (-1) n else rd 0 0 0
set_option maxHeartbeats 4000000 in
theorem begin_any (n : Int) (W : World) : Calls Tryd.prog 8 #[.int .i64 n] W fun x w' => x = .returned (.tuple #[bgV n, .int .i64 (bgE n)]) ∧ Ev W w' := by
  have CF := Lib.hid fun W => isF_any n W
  rcases tri n with ⟨a, na⟩ | ⟨a, b, na⟩ | ⟨a, b, na⟩
  · have HQ : Hid (bgE n = 0) := Lib.hid (by unfold bgE; rw [if_pos (by left; simpa using a)])
    have HV : Hid (bgV n = rd 1 (-1) n) := Lib.hid (by unfold bgV; rw [if_pos HQ.out])
    clear na
    go_enter Tryd.func8, Tryd.ntmps8
    go_wp2_with fail
    exact bodyPost_ret (v := .tuple #[rd 1 (-1) n, .int .i64 0]) (by simp [results, Tryd.results8, go_sem]) rfl ⟨by rw [HQ.out, HV.out], Ev.alloc (Ev.refl W) (rdO 1 (-1) n)⟩
  · have HQ : Hid (bgE n = 0) := Lib.hid (by unfold bgE; rw [if_pos (by right; exact b)])
    have HV : Hid (bgV n = rd 1 (-1) n) := Lib.hid (by unfold bgV; rw [if_pos HQ.out])
    rw [b] at CF
    clear na b
    go_enter Tryd.func8, Tryd.ntmps8
    go_wp2_with fail
    refine (CF.out _).mono ?_
    rintro e w5 ⟨rfl, rfl⟩
    go_wp2_with fail
    exact bodyPost_ret (v := .tuple #[rd 1 (-1) n, .int .i64 0]) (by simp [results, Tryd.results8, go_sem]) rfl ⟨by rw [HQ.out, HV.out], Ev.alloc (Ev.refl W) (rdO 1 (-1) n)⟩
  · have HQ : Hid (bgE n = 2) := Lib.hid (by unfold bgE; rw [if_neg (by rintro (h | h); exact na.1 h; rw [b] at h; cases h)])
    have HV : Hid (bgV n = rd 0 0 0) := Lib.hid (by unfold bgV; rw [if_neg (by rw [HQ.out]; decide)])
    rw [b] at CF
    clear na b
    go_enter Tryd.func8, Tryd.ntmps8
    go_wp2_with fail
    refine (CF.out _).mono ?_
    rintro e w5 ⟨rfl, rfl⟩
    go_wp2_with fail
    exact bodyPost_ret (v := .tuple #[rd 0 0 0, .int .i64 2]) (by simp [results, Tryd.results8, go_sem]) rfl ⟨by rw [HQ.out, HV.out], Ev.alloc (Ev.refl W) (rdO 0 0 0)⟩
set_option maxHeartbeats 4000000 in
theorem rbegin_any (n : Int) (W : World) : Calls Tryd.prog 9 #[.int .i64 n] W fun x w' => x = .returned (.tuple #[bgV n, .int .i64 (bgE n)]) ∧ Ev W w' := by
  by_cases h : n < -1 ∨ 256 ≤ n
  · have HQ : Hid (bgE n = 2) := Lib.hid (by unfold bgE inF; rw [if_neg (by simp; omega)])
    have HV : Hid (bgV n = rd 0 0 0) := Lib.hid (by unfold bgV; rw [if_neg (by rw [HQ.out]; decide)])
    rcases (show n < -1 ∨ (¬ n < -1 ∧ 256 ≤ n) by omega) with g1 | ⟨g1, g2⟩
    all_goals
      clear h
      go_enter Tryd.func9, Tryd.ntmps9
      go_wp2_with fail
      exact bodyPost_ret (v := .tuple #[rd 0 0 0, .int .i64 2]) (by simp [results, Tryd.results9, go_sem]) rfl ⟨by rw [HQ.out, HV.out], Ev.alloc (Ev.refl W) (rdO 0 0 0)⟩
  · have HQ : Hid (bgE n = 0) := Lib.hid (by unfold bgE inF; rw [if_pos (by simp; omega)])
    have HV : Hid (bgV n = rd 1 (-1) n) := Lib.hid (by unfold bgV; rw [if_pos HQ.out])
    have g1 : ¬ n < -1 := by omega
    have g2 : ¬ 256 ≤ n := by omega
    clear h
    go_enter Tryd.func9, Tryd.ntmps9
    go_wp2_with fail
    exact bodyPost_ret (v := .tuple #[rd 1 (-1) n, .int .i64 0]) (by simp [results, Tryd.results9, go_sem]) rfl ⟨by rw [HQ.out, HV.out], Ev.alloc (Ev.refl W) (rdO 1 (-1) n)⟩
end Go.Proofs.YtfiglmbnjfgdlaaDoor
