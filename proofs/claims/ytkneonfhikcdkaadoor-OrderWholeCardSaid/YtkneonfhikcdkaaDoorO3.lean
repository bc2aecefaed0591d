import Derived.Test.YtkneonfhikcdkaaDoorO2
namespace Go.Proofs.YtkneonfhikcdkaaDoor
open Go.RowKit

theorem childE_eq (x o : Int) : childE x o = if blkE x o ≠ 0 then blkE x o else if o = 6 then 2 else 0 := rfl
set_option maxHeartbeats 400000 in
theorem child_any (x o : Int) (w : World) : Calls Tryd.prog 41 #[bk x o] w fun e w' => e = .returned (.int .i64 (childE x o)) ∧ Ev w w' := by
  have hC := check_any x o
  by_cases h : blkE x o = 0
  · have e : childE x o = if o = 6 then 2 else 0 := by unfold childE; rw [if_neg (by simp [h])]
    rw [e]
    rw [h] at hC
    have H := Lib.hid hC
    clear e h hC
    rcases (show o = 6 ∨ o ≠ 6 by omega) with rfl | h6
    · go_enter Tryd.func41, Tryd.ntmps41
      go_wp2_with (go_at_call 22; refine (H.out _).mono ?_; rintro e w' ⟨rfl, hb⟩; have hc1 := (bc hb).1)
      go_ret
      exact ⟨rfl, nxt0 hb⟩
    · rw [if_neg h6]
      have h6' : (o == 6) = false := by simpa using h6
      clear h6
      go_enter Tryd.func41, Tryd.ntmps41
      go_wp2_with (go_at_call 22; refine (H.out _).mono ?_; rintro e w' ⟨rfl, hb⟩; have hc1 := (bc hb).1)
      go_ret
      exact ⟨rfl, nxt0 hb⟩
  · have e : childE x o = blkE x o := by unfold childE; rw [if_pos h]
    rw [e]
    have h0 : (blkE x o != 0) = true := by simpa using h
    have H := Lib.hid hC
    clear e h hC
    go_enter Tryd.func41, Tryd.ntmps41
    go_wp2_with (go_at_call 22; refine (H.out _).mono ?_; rintro e w' ⟨rfl, hb⟩; have hc1 := (bc hb).1)
    go_ret
    exact ⟨rfl, nxt0 hb⟩
set_option maxHeartbeats 400000 in
theorem rbuddy1_any (x o : Int) (w : World) (h : blkE x o = 0) : Calls Tryd.prog 43 #[bk x o] w fun e w' => e = .returned (bk (bud x o) o) ∧ Ev w w' := by
  obtain ⟨h1, h2, h3, h4, h6⟩ := blkE_ok h
  have HZ : Hid (∀ W, Calls Tryd.prog 40 #[.int .i64 o] W fun e w' => e = .returned (.int .i64 (sz o)) ∧ W = w') := Lib.hid fun W => rsize_any o W (by omega) (by omega)
  obtain ⟨z1, z2⟩ := sz_bd o
  have hbd : bud x o = if x % (2 * sz o) = 0 then x + sz o else x - sz o := rfl
  rw [hbd]
  clear h h4 hbd
  generalize sz o = z at *
  by_cases hm : x % (2 * z) = 0
  · rw [if_pos hm]
    have hm' : (x % (2 * z) == 0) = true := by simp [hm]
    clear hm
    go_enter Tryd.func43, Tryd.ntmps43
    go_wp2_with (go_at_call 40; refine (HZ.out _).mono ?_; rintro e w' ⟨rfl, rfl⟩)
    refine bodyPost_ret (v := bk (x + z) o) (by simp [results, Tryd.results43, go_sem]) rfl ⟨rfl, ?_⟩
    repeat (first | (with_reducible exact Ev.refl _) | (with_reducible apply Ev.drew) | (with_reducible apply Ev.alloc))
  · rw [if_neg hm]
    have hm' : (x % (2 * z) == 0) = false := by simp [hm]
    clear hm
    go_enter Tryd.func43, Tryd.ntmps43
    go_wp2_with (go_at_call 40; refine (HZ.out _).mono ?_; rintro e w' ⟨rfl, rfl⟩)
    refine bodyPost_ret (v := bk (x - z) o) (by simp [results, Tryd.results43, go_sem]) rfl ⟨rfl, ?_⟩
    repeat (first | (with_reducible exact Ev.refl _) | (with_reducible apply Ev.drew) | (with_reducible apply Ev.alloc))
set_option maxHeartbeats 400000 in
theorem parent1_any (x o : Int) (w : World) (h : blkE x o = 0) (h5 : o ≠ 6) : Calls Tryd.prog 44 #[bk x o] w fun e w' => e = .returned (bk (par x o) (o + 1)) ∧ Ev w w' := by
  obtain ⟨h1, h2, h3, h4, h6⟩ := blkE_ok h
  obtain ⟨z1, z2⟩ := sz_bd o
  have hx : x ≤ 256 := by omega
  clear h h4 h6 z1 z2
  rcases (show o = 0 ∨ o = 1 ∨ o = 2 ∨ o = 3 ∨ o = 4 ∨ o = 5 by omega) with rfl | rfl | rfl | rfl | rfl | rfl
  · clear h1 h2 h5
    rw [show par x 0 = x / 2 * 2 by unfold par sz; simp; omega]
    go_enter Tryd.func44, Tryd.ntmps44
    go_wp2
    refine bodyPost_ret (v := bk (x / 2 * 2) 1) (by simp [results, Tryd.results44, go_sem]) rfl ⟨rfl, ?_⟩
    repeat (first | (with_reducible exact Ev.refl _) | (with_reducible apply Ev.drew) | (with_reducible apply Ev.alloc))
  · clear h1 h2 h5
    rw [show par x 1 = x / 4 * 4 by unfold par sz; simp; omega]
    go_enter Tryd.func44, Tryd.ntmps44
    go_wp2
    refine bodyPost_ret (v := bk (x / 4 * 4) 2) (by simp [results, Tryd.results44, go_sem]) rfl ⟨rfl, ?_⟩
    repeat (first | (with_reducible exact Ev.refl _) | (with_reducible apply Ev.drew) | (with_reducible apply Ev.alloc))
  · clear h1 h2 h5
    rw [show par x 2 = x / 8 * 8 by unfold par sz; simp; omega]
    go_enter Tryd.func44, Tryd.ntmps44
    go_wp2
    refine bodyPost_ret (v := bk (x / 8 * 8) 3) (by simp [results, Tryd.results44, go_sem]) rfl ⟨rfl, ?_⟩
    repeat (first | (with_reducible exact Ev.refl _) | (with_reducible apply Ev.drew) | (with_reducible apply Ev.alloc))
  · clear h1 h2 h5
    rw [show par x 3 = x / 16 * 16 by unfold par sz; simp; omega]
    go_enter Tryd.func44, Tryd.ntmps44
    go_wp2
    refine bodyPost_ret (v := bk (x / 16 * 16) 4) (by simp [results, Tryd.results44, go_sem]) rfl ⟨rfl, ?_⟩
    repeat (first | (with_reducible exact Ev.refl _) | (with_reducible apply Ev.drew) | (with_reducible apply Ev.alloc))
  · clear h1 h2 h5
    rw [show par x 4 = x / 32 * 32 by unfold par sz; simp; omega]
    go_enter Tryd.func44, Tryd.ntmps44
    go_wp2
    refine bodyPost_ret (v := bk (x / 32 * 32) 5) (by simp [results, Tryd.results44, go_sem]) rfl ⟨rfl, ?_⟩
    repeat (first | (with_reducible exact Ev.refl _) | (with_reducible apply Ev.drew) | (with_reducible apply Ev.alloc))
  · clear h1 h2 h5
    rw [show par x 5 = x / 64 * 64 by unfold par sz; simp; omega]
    go_enter Tryd.func44, Tryd.ntmps44
    go_wp2
    refine bodyPost_ret (v := bk (x / 64 * 64) 6) (by simp [results, Tryd.results44, go_sem]) rfl ⟨rfl, ?_⟩
    repeat (first | (with_reducible exact Ev.refl _) | (with_reducible apply Ev.drew) | (with_reducible apply Ev.alloc))
end Go.Proofs.YtkneonfhikcdkaaDoor
