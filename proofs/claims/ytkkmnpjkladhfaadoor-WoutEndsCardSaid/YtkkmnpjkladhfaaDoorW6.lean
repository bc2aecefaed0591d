import Derived.Test.YtkkmnpjkladhfaaDoorW5
namespace Go.Proofs.YtkkmnpjkladhfaaDoor
open Go.RowKit
set_option maxHeartbeats 400000 in
theorem after_4 (s r c p : Int) (w : World) : Calls Tryd.prog 36 #[wt s r c, ev 4 p] w fun e w' => e = .returned (wt 3 r p) ∧ Ev w w' := by
  go_enter Tryd.func36, Tryd.ntmps36
  go_wp2
  go_region
  all_goals
    go_wp2
    refine bodyPost_ret (v := wt 3 r p) (by simp [results, Tryd.results36, go_sem]) rfl ⟨rfl, ?_⟩
    repeat (first | (with_reducible exact Ev.refl _) | (with_reducible apply Ev.drew) | (with_reducible apply Ev.alloc))
/-- after, for what is possible -/
theorem after_any {s r c k p : Int} (w : World) (h : nxE s r c k p = 0) : Calls Tryd.prog 36 #[wt s r c, ev k p] w fun e w' => e = .returned (wt (afS s r k) (afR s r k) (afC s r c k p)) ∧ Ev w w' := by
  obtain ⟨h1, h2, h3, h4⟩ := nxE_ok h
  have a := oChk_ok h1
  have b := evE_ok h2
  unfold posB at h3
  unfold fitB at h4
  simp at h3
  rcases (show k = 1 ∨ k = 2 ∨ k = 3 ∨ k = 4 ∨ k = 5 ∨ k = 6 by omega) with rfl | rfl | rfl | rfl | rfl | rfl
  · have e1 : afS s r 1 = s := by simp [afS]
    have e2 : afR s r 1 = r + 1 := by simp [afR]
    have e3 : afC s r c 1 p = c := by simp [afC]
    rw [e1, e2, e3]
    exact after_1 s r c p w (by omega) (by omega)
  · simp at h4
    have e2 : afR s r 2 = r - 1 := by simp [afR]
    have e3 : afC s r c 2 p = c := by simp [afC]
    rw [e2, e3]
    by_cases h14 : s = 1 ∨ s = 4
    · have e1 : afS s r 2 = if r = 1 then 6 else s := by unfold afS; rw [if_pos rfl]; simp [h14]
      rw [e1]
      exact after_2b s r c p w (by omega) (by omega) h14
    · have e1 : afS s r 2 = s := by unfold afS; rw [if_pos rfl, if_neg (fun x => h14 x.1)]
      rw [e1]
      exact after_2a s r c p w (by omega) (by omega) (by omega) (by omega)
  · have e1 : afS s r 3 = 2 := by simp [afS]
    have e2 : afR s r 3 = r := by simp [afR]
    have e3 : afC s r c 3 p = c := by simp [afC]
    rw [e1, e2, e3]
    exact after_3 s r c p w
  · have e1 : afS s r 4 = 3 := by simp [afS]
    have e2 : afR s r 4 = r := by simp [afR]
    have e3 : afC s r c 4 p = p := by simp [afC]
    rw [e1, e2, e3]
    exact after_4 s r c p w
  · have e1 : afS s r 5 = 2 := by simp [afS]
    have e2 : afR s r 5 = r := by simp [afR]
    have e3 : afC s r c 5 p = 0 := by simp [afC]
    rw [e1, e2, e3]
    exact after_5 s r c p w
  · have e1 : afS s r 6 = stS s r true := by simp [afS, stS]
    have e2 : afR s r 6 = stR s r true := by simp [afR, stR]; split <;> (try split) <;> omega
    have e3 : afC s r c 6 p = stC s r c true := by simp [afC, stC]; split <;> (try split) <;> omega
    rw [e1, e2, e3]
    exact after_6 s r c p w (by omega) (by omega)
/-! the reference's after, possible, least, Check -/
set_option maxHeartbeats 1000000 in
theorem rafter_any {s r c k p : Int} (w : World) (h : nxE s r c k p = 0) : Calls Tryd.prog 38 #[wt s r c, ev k p] w fun e w' => e = .returned (wt (afS s r k) (afR s r k) (afC s r c k p)) ∧ Ev w w' := by
  obtain ⟨h1, h2, h3, h4⟩ := nxE_ok h
  have a := oChk_ok h1
  have b := evE_ok h2
  have r0 : 0 ≤ r := by omega
  have r1 : r ≤ 512 := by omega
  unfold posB at h3
  unfold fitB at h4
  simp at h3
  rcases (show k = 1 ∨ k = 2 ∨ k = 3 ∨ k = 4 ∨ k = 5 ∨ k = 6 by omega) with rfl | rfl | rfl | rfl | rfl | rfl
  · have e1 : afS s r 1 = s := by simp [afS]
    have e2 : afR s r 1 = r + 1 := by simp [afR]
    have e3 : afC s r c 1 p = c := by simp [afC]
    rw [e1, e2, e3]
    clear h h1 h2 h3 h4 a b e1 e2 e3
    go_enter Tryd.func38, Tryd.ntmps38
    go_wp2
    refine bodyPost_ret (v := wt s (r + 1) c) (by simp [results, Tryd.results38, go_sem]) rfl ⟨rfl, ?_⟩
    repeat (first | (with_reducible exact Ev.refl _) | (with_reducible apply Ev.drew) | (with_reducible apply Ev.alloc))
  · simp at h4
    have e2 : afR s r 2 = r - 1 := by simp [afR]
    have e3 : afC s r c 2 p = c := by simp [afC]
    have r2 : 1 ≤ r := by omega
    rw [e2, e3]
    by_cases h14 : s = 1 ∨ s = 4
    · have e1 : afS s r 2 = if r = 1 then 6 else s := by unfold afS; rw [if_pos rfl]; simp [h14]
      rw [e1]
      rcases h14 with rfl | rfl <;> rcases (show r = 1 ∨ r ≠ 1 by omega) with rfl | hr
      all_goals
        clear h h1 h2 h3 h4 a b e1 e2 e3
      · go_enter Tryd.func38, Tryd.ntmps38
        go_wp2
        refine bodyPost_ret (v := wt 6 0 c) (by simp [results, Tryd.results38, go_sem]) rfl ⟨rfl, ?_⟩
        repeat (first | (with_reducible exact Ev.refl _) | (with_reducible apply Ev.drew) | (with_reducible apply Ev.alloc))
      · rw [if_neg hr]
        have hr' : (r - 1 == 0) = false := by simp; omega
        clear hr
        go_enter Tryd.func38, Tryd.ntmps38
        go_wp2
        refine bodyPost_ret (v := wt 1 (r - 1) c) (by simp [results, Tryd.results38, go_sem]) rfl ⟨rfl, ?_⟩
        repeat (first | (with_reducible exact Ev.refl _) | (with_reducible apply Ev.drew) | (with_reducible apply Ev.alloc))
      · go_enter Tryd.func38, Tryd.ntmps38
        go_wp2
        refine bodyPost_ret (v := wt 6 0 c) (by simp [results, Tryd.results38, go_sem]) rfl ⟨rfl, ?_⟩
        repeat (first | (with_reducible exact Ev.refl _) | (with_reducible apply Ev.drew) | (with_reducible apply Ev.alloc))
      · rw [if_neg hr]
        have hr' : (r - 1 == 0) = false := by simp; omega
        clear hr
        go_enter Tryd.func38, Tryd.ntmps38
        go_wp2
        refine bodyPost_ret (v := wt 4 (r - 1) c) (by simp [results, Tryd.results38, go_sem]) rfl ⟨rfl, ?_⟩
        repeat (first | (with_reducible exact Ev.refl _) | (with_reducible apply Ev.drew) | (with_reducible apply Ev.alloc))
    · have e1 : afS s r 2 = s := by unfold afS; rw [if_pos rfl, if_neg (fun x => h14 x.1)]
      rw [e1]
      have g1 : (s == 1) = false := by simp; omega
      have g4 : (s == 4) = false := by simp; omega
      rcases (show r = 1 ∨ r ≠ 1 by omega) with rfl | hr
      all_goals
        clear h h1 h2 h3 h4 a b e1 e2 e3 h14
      · go_enter Tryd.func38, Tryd.ntmps38
        go_wp2
        refine bodyPost_ret (v := wt s 0 c) (by simp [results, Tryd.results38, go_sem]) rfl ⟨rfl, ?_⟩
        repeat (first | (with_reducible exact Ev.refl _) | (with_reducible apply Ev.drew) | (with_reducible apply Ev.alloc))
      · have hr' : (r - 1 == 0) = false := by simp; omega
        clear hr
        go_enter Tryd.func38, Tryd.ntmps38
        go_wp2
        refine bodyPost_ret (v := wt s (r - 1) c) (by simp [results, Tryd.results38, go_sem]) rfl ⟨rfl, ?_⟩
        repeat (first | (with_reducible exact Ev.refl _) | (with_reducible apply Ev.drew) | (with_reducible apply Ev.alloc))
  · have e1 : afS s r 3 = 2 := by simp [afS]
    have e2 : afR s r 3 = r := by simp [afR]
    have e3 : afC s r c 3 p = c := by simp [afC]
    rw [e1, e2, e3]
    clear h h1 h2 h3 h4 a b e1 e2 e3
    go_enter Tryd.func38, Tryd.ntmps38
    go_wp2
    refine bodyPost_ret (v := wt 2 r c) (by simp [results, Tryd.results38, go_sem]) rfl ⟨rfl, ?_⟩
    repeat (first | (with_reducible exact Ev.refl _) | (with_reducible apply Ev.drew) | (with_reducible apply Ev.alloc))
  · have e1 : afS s r 4 = 3 := by simp [afS]
    have e2 : afR s r 4 = r := by simp [afR]
    have e3 : afC s r c 4 p = p := by simp [afC]
    rw [e1, e2, e3]
    clear h h1 h2 h3 h4 a b e1 e2 e3
    go_enter Tryd.func38, Tryd.ntmps38
    go_wp2
    go_region
    all_goals
      go_wp2
      refine bodyPost_ret (v := wt 3 r p) (by simp [results, Tryd.results38, go_sem]) rfl ⟨rfl, ?_⟩
      repeat (first | (with_reducible exact Ev.refl _) | (with_reducible apply Ev.drew) | (with_reducible apply Ev.alloc))
  · have e1 : afS s r 5 = 2 := by simp [afS]
    have e2 : afR s r 5 = r := by simp [afR]
    have e3 : afC s r c 5 p = 0 := by simp [afC]
    rw [e1, e2, e3]
    clear h h1 h2 h3 h4 a b e1 e2 e3
    go_enter Tryd.func38, Tryd.ntmps38
    go_wp2
    refine bodyPost_ret (v := wt 2 r 0) (by simp [results, Tryd.results38, go_sem]) rfl ⟨rfl, ?_⟩
    repeat (first | (with_reducible exact Ev.refl _) | (with_reducible apply Ev.drew) | (with_reducible apply Ev.alloc))
  · rcases (show s = 3 ∨ (s ≠ 3 ∧ r = 0) ∨ (s ≠ 3 ∧ r ≠ 0) by omega) with rfl | ⟨h3', rfl⟩ | ⟨h3', hr⟩
    · have e1 : afS 3 r 6 = 5 := by simp [afS]; omega
      have e2 : afR 3 r 6 = r - 1 := by simp [afR]; omega
      have e3 : afC 3 r c 6 p = 0 := by simp [afC]; omega
      rw [e1, e2, e3]
      clear h h1 h2 h3 h4 b e1 e2 e3
      have r2 : 1 ≤ r := by omega
      clear a
      go_enter Tryd.func38, Tryd.ntmps38
      go_wp2
      refine bodyPost_ret (v := wt 5 (r - 1) 0) (by simp [results, Tryd.results38, go_sem]) rfl ⟨rfl, ?_⟩
      repeat (first | (with_reducible exact Ev.refl _) | (with_reducible apply Ev.drew) | (with_reducible apply Ev.alloc))
    · have e1 : afS s 0 6 = 6 := by simp [afS]
      have e2 : afR s 0 6 = 0 := by simp [afR]
      have e3 : afC s 0 c 6 p = c := by simp [afC]
      rw [e1, e2, e3]
      have g3 : (s == 3) = false := by simpa using h3'
      clear h h1 h2 h3 h4 a b e1 e2 e3 h3'
      go_enter Tryd.func38, Tryd.ntmps38
      go_wp2
      refine bodyPost_ret (v := wt 6 0 c) (by simp [results, Tryd.results38, go_sem]) rfl ⟨rfl, ?_⟩
      repeat (first | (with_reducible exact Ev.refl _) | (with_reducible apply Ev.drew) | (with_reducible apply Ev.alloc))
    · have e1 : afS s r 6 = 4 := by simp [afS, hr, h3']
      have e2 : afR s r 6 = r := by simp [afR, h3']
      have e3 : afC s r c 6 p = c := by simp [afC, h3']
      rw [e1, e2, e3]
      have g3 : (s == 3) = false := by simpa using h3'
      have g0 : (r == 0) = false := by simpa using hr
      clear h h1 h2 h3 h4 a b e1 e2 e3 h3' hr
      go_enter Tryd.func38, Tryd.ntmps38
      go_wp2
      refine bodyPost_ret (v := wt 4 r c) (by simp [results, Tryd.results38, go_sem]) rfl ⟨rfl, ?_⟩
      repeat (first | (with_reducible exact Ev.refl _) | (with_reducible apply Ev.drew) | (with_reducible apply Ev.alloc))
end Go.Proofs.YtkkmnpjkladhfaaDoor
