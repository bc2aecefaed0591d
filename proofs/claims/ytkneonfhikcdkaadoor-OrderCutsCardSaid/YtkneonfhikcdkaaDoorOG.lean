import Derived.Test.YtkneonfhikcdkaaDoorO9
namespace Go.Proofs.YtkneonfhikcdkaaDoor
open Go.RowKit

/-- one more than an order that is less than the greedy one: it fits; at the greedy one, it does not -/
theorem ordV_lt (a t o : Int) (h0 : 0 ≤ a) (h : a < t) (ht : t ≤ 256) (o0 : 0 ≤ o) (h1 : o < ordV a t) : o < 6 ∧ a % sz (o + 1) = 0 ∧ a + sz (o + 1) ≤ t := by
  have h2 : o + 1 ≤ ctzI a ∧ o + 1 ≤ blI (t - a) - 1 ∧ o + 1 ≤ 6 := by unfold ordV at h1; omega
  have c1 := (ctz_sz a (o + 1) h0 (by omega) (by omega) (by omega)).1 h2.1
  have c2 := (bl_sz (t - a) (o + 1) (by omega) (by omega) (by omega) (by omega)).1 h2.2.1
  exact ⟨by omega, c1, by omega⟩
theorem ordV_at (a t : Int) (h0 : 0 ≤ a) (h : a < t) (ht : t ≤ 256) : ordV a t = 6 ∨ (ordV a t < 6 ∧ a % sz (ordV a t + 1) ≠ 0) ∨ (ordV a t < 6 ∧ a % sz (ordV a t + 1) = 0 ∧ t < a + sz (ordV a t + 1)) := by
  obtain ⟨b0, b1, -⟩ := ordV_bd a t h0 h ht
  by_cases h6 : ordV a t = 6
  · exact .inl h6
  · by_cases hc : a % sz (ordV a t + 1) = 0
    · refine .inr (.inr ⟨by omega, hc, ?_⟩)
      have c1 := (ctz_sz a (ordV a t + 1) h0 (by omega) (by omega) (by omega)).2 hc
      have c2 := (bl_sz (t - a) (ordV a t + 1) (by omega) (by omega) (by omega) (by omega))
      have : ¬ (ordV a t + 1 ≤ blI (t - a) - 1) := by
        intro hh
        have : ordV a t + 1 ≤ ordV a t := by
          conv => rhs; unfold ordV
          omega
        omega
      have h3 : ¬ sz (ordV a t + 1) ≤ t - a := fun hh => this (c2.2 hh)
      omega
    · exact .inr (.inl ⟨by omega, hc⟩)
set_option maxRecDepth 100000 in
set_option maxHeartbeats 1000000 in
theorem rcut_any (f t : Int) (w : World) :
    Calls Tryd.prog 25 #[.int .i64 f, .int .i64 t] w fun e w' => ∃ v, e = .returned (.tuple #[v, .int .i64 (cutE f t)]) ∧ OwnB w' w.heap.size v (if cutE f t = 0 then cutC 256 f t else []) ∧ Ev w w' := by
  obtain ⟨i0, hi0, hz0, hz1, hz2⟩ := info_parts info28
  by_cases h : f < 0 ∨ t < f ∨ 256 < t
  · have e1 : cutE f t = 2 := by unfold cutE; rw [if_pos h]
    rw [e1, if_neg (by decide)]
    go_enter Tryd.func25, Tryd.ntmps25
    go_wp2_with fail
    all_goals first | (exfalso; omega) | (go_ret2; exact ⟨_, rfl, ⟨0, rfl, .inl ⟨rfl, rfl⟩⟩, Ev.refl _⟩)
  · have e1 : cutE f t = 0 := by unfold cutE; rw [if_neg h]
    rw [e1, if_pos rfl]
    have f0 : 0 ≤ f := by omega
    have ft : f ≤ t := by omega
    have t1 : t ≤ 256 := by omega
    clear h e1
    go_enter Tryd.func25, Tryd.ntmps25
    go_wp2_with fail
    go_loopw [6, 7] (fun v i wr => ∃ g a k xs, f ≤ a ∧ a ≤ t ∧ i = .int .i64 a ∧ xs ++ cutC g a t = cutC 256 f t ∧ wr.ownsRow w.heap.size 28 2 v k xs ∧ t - a ≤ g ∧ (k : Int) ≤ a ∧ Ev w wr) (fun _ i _ => (t - intOf i).toNat)
    case atStart => exact ⟨256, f, 0, [], by omega, by omega, rfl, rfl, ⟨rfl, .inl ⟨rfl, rfl⟩⟩, by omega, by omega, Ev.refl _⟩
    case round =>
      obtain ⟨g, a, k, xs, fa, at', rfl, hx, hown, hg, hk, hev⟩ := hrel
      by_cases hlt : a < t
      · obtain ⟨o0, o6, osz⟩ := ordV_bd a t (by omega) hlt t1
        obtain ⟨s1, s2⟩ := sz_bd (ordV a t)
        obtain ⟨g, rfl⟩ : ∃ g', g = g' + 1 := ⟨g - 1, by omega⟩
        have hc : cutC (g + 1) a t = .int .i64 a :: .int .i64 (ordV a t) :: cutC g (a + sz (ordV a t)) t := by rw [cutC, if_pos hlt]
        rw [hc] at hx
        have a0 : 0 ≤ a := by omega
        have HSZ := Lib.hid fun W => rsize_any (ordV a t) W o0 o6
        have HS1 : Hid (∀ o, 0 ≤ o → o < 6 → ∀ W, Calls Tryd.prog 40 #[.int .i64 (o + 1)] W fun e w' => e = .returned (.int .i64 (sz (o + 1))) ∧ W = w') := Lib.hid fun o h0 h6 W => rsize_any (o + 1) W (by omega) (by omega)
        have HLT := Lib.hid fun o h0 h1 => ordV_lt a t o a0 hlt t1 h0 h1
        have HAT := Lib.hid (ordV_at a t a0 hlt t1)
        have hsz : w.heap.size ≤ wr.heap.size := hev.size
        have HX := Lib.hid hx
        have HEV := Lib.hid hev
        have HOWN := Lib.hid hown
        clear hc hx hev hown
        generalize ordV a t = o at *
        generalize hzo : sz o = z at *
        clear hzo
        go_wp2_with fail
        have H0 : Hid (∀ p, (wr.alloc (.cells #[.int .i64 a, .int .i64 p] 28)).ownsRow w.heap.size 28 2 u6 k xs) := Lib.hid fun p => HOWN.out.alloc _
        have H1 := Lib.hid fun p => bk_cells wr a p
        have H2 : Hid (∀ p, ∀ u ∈ [Value.int .i64 a, .int .i64 p], u.oneCell' = true) := Lib.hid (by intro p; simp [Value.oneCell'])
        have H3 := Lib.hid (show k + 1 ≤ maxLen from by unfold maxLen; omega)
        have H4 := Lib.hid (show (k + 1) * 16 ≤ 140737488355328 from by omega)
        have H5 : Hid (∀ p, w.heap.size ≤ (wr.alloc (.cells #[.int .i64 a, .int .i64 p] 28)).heap.size) := Lib.hid (by intro p; simp; omega)
        have HB : Hid (∀ p, Ev w (wr.alloc (.cells #[.int .i64 a, .int .i64 p] 28))) := Lib.hid fun p => HEV.out.alloc _
        go_loop [8] (fun i => ∃ j : Int, 0 ≤ j ∧ j ≤ o ∧ i = .int .i64 j) (fun i => (o - intOf i).toNat)
        case atStart => exact ⟨0, by omega, by omega, rfl⟩
        case round =>
          obtain ⟨j, j0, j1, rfl⟩ := hrel
          by_cases hj : j < o
          · obtain ⟨j6, hm, hle⟩ := HLT.out j j0 hj
            have HC := Lib.hid (HS1.out j j0 j6)
            obtain ⟨y1, y2⟩ := sz_bd (j + 1)
            generalize sz (j + 1) = y at *
            have hy0 : (y == 0) = false := by simp; omega
            have htm : a.tmod y = 0 := by rw [Int.tmod_eq_emod_of_nonneg a0]; exact hm
            go_wp2_with fail
            refine (HC.out _).mono ?_
            rintro e w' ⟨rfl, rfl⟩
            go_wp2_with fail
            refine (HC.out _).mono ?_
            rintro e w' ⟨rfl, rfl⟩
            go_wp2_with fail
            go_round
            case rel => exact ⟨j + 1, by omega, by omega, rfl⟩
            case measure => simp [intOf]; omega
          · obtain rfl : j = o := by omega
            rcases HAT.out with rfl | ⟨h6, hne⟩ | ⟨h6, hm, hgt⟩
            · skip
              go_wp2_with (at_builtin; go_loud (refine wpList_append_own _ rfl (.tmp 45) (.tmp 49) 33 rfl w.heap.size 28 i0 (bk 0 0) 2 16 Tryd.underlying33 hi0 hz0 hz1 hz2 rfl (by decide) u6 k xs rfl (H0.out _) ⟨wr.heap.size, 0, none⟩ 1 1 [.int .i64 a, .int .i64 _] rfl rfl (H1.out _) (H2.out _) H3.out H4.out (H5.out _) ?_); intro v1 w4 hown4 hg4 _)
              have HW4 : Ev w w4 := (HB.out _).grown hg4 (H5.out _) (fun g hg => (HOWN.out.lt g hg).1)
              have HW := Lib.hid HW4
              have HOW4 := Lib.hid hown4
              clear HW4 hg4 hown4
              refine (HSZ.out _).mono ?_
              rintro e w' ⟨rfl, rfl⟩
              go_wp2_with fail
              go_roundw
              case rel => exact ⟨g, a + z, k + 1, _, by omega, by omega, rfl, by rw [List.append_assoc]; exact HX.out, HOW4.out, by omega, by omega, HW.out⟩
              case measure => simp [intOf]; omega
            · have HC := Lib.hid (HS1.out j j0 h6)
              obtain ⟨y1, y2⟩ := sz_bd (j + 1)
              generalize sz (j + 1) = y at *
              have hy0 : (y == 0) = false := by simp; omega
              have htm : (a.tmod y == 0) = false := by rw [Int.tmod_eq_emod_of_nonneg a0]; simpa using hne
              go_wp2_with fail
              refine (HC.out _).mono ?_
              rintro e w' ⟨rfl, rfl⟩
              go_wp2_with (at_builtin; go_loud (refine wpList_append_own _ rfl (.tmp 45) (.tmp 49) 33 rfl w.heap.size 28 i0 (bk 0 0) 2 16 Tryd.underlying33 hi0 hz0 hz1 hz2 rfl (by decide) u6 k xs rfl (H0.out _) ⟨wr.heap.size, 0, none⟩ 1 1 [.int .i64 a, .int .i64 _] rfl rfl (H1.out _) (H2.out _) H3.out H4.out (H5.out _) ?_); intro v1 w4 hown4 hg4 _)
              have HW4 : Ev w w4 := (HB.out _).grown hg4 (H5.out _) (fun g hg => (HOWN.out.lt g hg).1)
              have HW := Lib.hid HW4
              have HOW4 := Lib.hid hown4
              clear HW4 hg4 hown4
              refine (HSZ.out _).mono ?_
              rintro e w' ⟨rfl, rfl⟩
              go_wp2_with fail
              go_roundw
              case rel => exact ⟨g, a + z, k + 1, _, by omega, by omega, rfl, by rw [List.append_assoc]; exact HX.out, HOW4.out, by omega, by omega, HW.out⟩
              case measure => simp [intOf]; omega
            · have HC := Lib.hid (HS1.out j j0 h6)
              obtain ⟨y1, y2⟩ := sz_bd (j + 1)
              generalize sz (j + 1) = y at *
              have hy0 : (y == 0) = false := by simp; omega
              have htm : a.tmod y = 0 := by rw [Int.tmod_eq_emod_of_nonneg a0]; exact hm
              go_wp2_with fail
              refine (HC.out _).mono ?_
              rintro e w' ⟨rfl, rfl⟩
              go_wp2_with fail
              refine (HC.out _).mono ?_
              rintro e w' ⟨rfl, rfl⟩
              go_wp2_with (at_builtin; go_loud (refine wpList_append_own _ rfl (.tmp 45) (.tmp 49) 33 rfl w.heap.size 28 i0 (bk 0 0) 2 16 Tryd.underlying33 hi0 hz0 hz1 hz2 rfl (by decide) u6 k xs rfl (H0.out _) ⟨wr.heap.size, 0, none⟩ 1 1 [.int .i64 a, .int .i64 _] rfl rfl (H1.out _) (H2.out _) H3.out H4.out (H5.out _) ?_); intro v1 w4 hown4 hg4 _)
              have HW4 : Ev w w4 := (HB.out _).grown hg4 (H5.out _) (fun g hg => (HOWN.out.lt g hg).1)
              have HW := Lib.hid HW4
              have HOW4 := Lib.hid hown4
              clear HW4 hg4 hown4
              refine (HSZ.out _).mono ?_
              rintro e w' ⟨rfl, rfl⟩
              go_wp2_with fail
              go_roundw
              case rel => exact ⟨g, a + z, k + 1, _, by omega, by omega, rfl, by rw [List.append_assoc]; exact HX.out, HOW4.out, by omega, by omega, HW.out⟩
              case measure => simp [intOf]; omega
      · obtain rfl : a = t := by omega
        have HX := Lib.hid hx
        have HEV := Lib.hid hev
        have HOWN := Lib.hid hown
        clear hx hev hown
        have HC : Hid (cutC g a a = []) := Lib.hid (cutC_end g a a (by omega))
        go_wp2_with fail
        go_ret2
        refine ⟨_, rfl, ⟨k, ?_⟩, HEV.out⟩
        rw [← HX.out, HC.out, List.append_nil]
        exact HOWN.out
end Go.Proofs.YtkneonfhikcdkaaDoor
