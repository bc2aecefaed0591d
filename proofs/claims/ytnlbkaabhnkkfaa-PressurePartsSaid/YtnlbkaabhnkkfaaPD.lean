import Derived.Test.YtnlbkaabhnkkfaaPC
namespace Go.Proofs.Ytnlbkaabhnkkfaa
open Go.RowKit Go.Shelf
theorem RdB.of_own {w : World} {base : Nat} {v : Value} {L : List Bool} (h : OwnB w base v L) (hl : L.length ≤ 9223372036854775807) : ∃ A cap, v = .slice A L.length cap ∧ RdB w A L := by
  rcases h.2 with ⟨rfl, h0⟩ | ⟨g, cap, cur, rfl, hbg, hh, hn, hc, hs, ht⟩
  · have e : L = [] := List.eq_nil_of_length_eq_zero h0
    subst e
    exact ⟨none, 0, rfl, by simp, fun j hj => by simp at hj⟩
  · refine ⟨some ⟨g, 0, none⟩, cap, rfl, hl, fun j hj => ⟨g, 0, rfl, ?_, ?_⟩⟩
    · exact (h.lt g rfl).2
    · rw [Nat.zero_add, World.ownsRow.cellAt h j (by omega)]
      simp [hj]
theorem RdP.of_own {w : World} {base : Nat} {v : Value} {L : List (Int × Int)} (h : OwnP w base v L) (hl : L.length ≤ 9223372036854775807) : ∃ A cap, v = .slice A L.length cap ∧ RdP w A L := by
  have hf : ∀ (L : List (Int × Int)) j, j < L.length → (flatS L)[j * 2]? = some (.int .i64 (L.getD j (0, 0)).1) ∧ (flatS L)[j * 2 + 1]? = some (.int .i64 (L.getD j (0, 0)).2) := by
    intro L
    induction L with
    | nil => intro j hj; simp at hj
    | cons x L ih =>
      obtain ⟨f, t⟩ := x
      intro j hj
      rcases j with _ | j
      · simp [flatS]
      · have := ih j (by simpa using hj)
        rw [show (j + 1) * 2 = j * 2 + 2 from by omega]
        simpa [flatS] using this
  rcases h.2 with ⟨rfl, h0⟩ | ⟨g, cap, cur, rfl, hbg, hh, hn, hc, hs, ht⟩
  · have e : L = [] := List.eq_nil_of_length_eq_zero h0
    subst e
    exact ⟨none, 0, rfl, by simp, fun j hj => by simp at hj⟩
  · refine ⟨some ⟨g, 0, none⟩, cap, rfl, hl, fun j hj => ⟨g, 0, rfl, (h.lt g rfl).2, ?_, ?_⟩⟩
    · rw [Nat.zero_add, World.ownsRow.cellAt h (j * 2) (by omega)]
      exact (hf L j hj).1
    · rw [Nat.zero_add, World.ownsRow.cellAt h (j * 2 + 1) (by omega)]
      exact (hf L j hj).2
/-- the spans of a row of bools -/
def spB (L : List Bool) (j : Nat) : List (Int × Int) × Bool := spF (upto (fun j => (j, L.getD j false)) j)
theorem spB_succ (L : List Bool) (j : Nat) : spB L (j + 1) = stp (spB L j) (j, L.getD j false) := by unfold spB; rw [upto_succ, spF_snoc]
theorem spB_bit (L : List Bool) (j : Nat) : (spB L (j + 1)).2 = L.getD j false := by rw [spB_succ]; rfl
theorem spB_len (L : List Bool) (j : Nat) : (spB L j).1.length ≤ j := by have := spF_len (upto (fun j => (j, L.getD j false)) j); rw [upto_length] at this; exact this
theorem spB_eq (b c : Int) (l : List Int) : (spB (upto (fun j => gS b c l (j + 1)) l.length) l.length).1 = (spF (upto (fun j => (j, gS b c l (j + 1))) l.length)).1 := by
  unfold spB
  congr 2
  unfold upto
  apply List.map_congr_left
  intro j hj
  have := List.mem_range.1 hj
  simp [this]
theorem rnV_len (a b c : Int) (l : List Int) : (rnV a b c l).length ≤ l.length := by
  unfold rnV
  split
  · rw [runV_len]; omega
  · simp
set_option maxHeartbeats 4000000 in
theorem rSpans_any (a b c : Int) (A : Option Addr) (cap : Nat) (l : List Int) (w : World) (hr : RdI w A l) :
    Calls Try.prog 22 #[mk a b c, .slice A l.length cap] w fun e w' => ∃ v, e = .returned (.tuple #[v, .int .i64 (asE a b c l)]) ∧ OwnP w' w.heap.size v (spV a b c l) ∧ Ev w w' := by
  have hlen := hr.1
  have H : Hid (∀ W, Ev w W → Calls Try.prog 20 #[mk a b c, .slice A l.length cap] W fun e w' => ∃ v, e = .returned (.tuple #[v, .int .i64 (asE a b c l)]) ∧ (∃ A' cap', v = .slice A' (rnV a b c l).length cap' ∧ RdB w' A' (rnV a b c l)) ∧ Ev W w') := Lib.hid fun W e =>
    (rRun_any a b c A cap l W (hr.ev e)).mono fun _ _ ⟨v, h1, h2, h3⟩ => ⟨v, h1, RdB.of_own h2 (by have := rnV_len a b c l; omega), h3⟩
  have HA := Lib.hid ((Ev.refl w).alloc (mb a b c))
  by_cases h : asE a b c l = 0
  · have hR : spV a b c l = (spB (rnV a b c l) (rnV a b c l).length).1 := by
      have e : rnV a b c l = upto (fun j => gS b c l (j + 1)) l.length := by unfold rnV; rw [if_pos h]; exact runV_upto b c l
      rw [e, upto_length, spB_eq]
      unfold spV
      rw [if_pos h]
    rw [hR, h]
    rw [h] at H
    have hl4 := (hsE_ok (asE_ok h).2).1
    have hL4 : (rnV a b c l).length ≤ 400 := by have := rnV_len a b c l; omega
    obtain ⟨i0, hi0, hz0, hz1, hz2⟩ := info_parts info51
    clear h hR hr
    generalize rnV a b c l = L at *
    go_enter Try.func22, Try.ntmps22
    go_wp2_with fail
    refine (H.out _ HA.out).mono ?_
    rintro e w1 ⟨v, rfl, ⟨A', cap', rfl, hrd⟩, hev⟩
    have HRD := Lib.hid hrd
    have HE := Lib.hid (HA.out.step hev)
    clear hev hrd
    go_wp2_with fail
    go_loopw [8, 9] (fun v i wr => ∃ (j : Nat), j ≤ L.length ∧ i = .int .i64 j ∧ wr.ownsRow w1.heap.size 51 2 v (spB L j).1.length (flatS (spB L j).1) ∧ Ev w1 wr) (fun _ i _ => L.length - (intOf i).toNat)
    case atStart => exact ⟨0, by omega, rfl, World.ownsRow_nil _ _ _ _, Ev.refl _⟩
    case round =>
      obtain ⟨j, hj, rfl, hown, hev⟩ := hrel
      by_cases hlt : j < L.length
      · obtain ⟨b', o, rfl, hb, c1⟩ := (HRD.out.ev hev).2 j hlt
        have hlt' : (j : Int) < (L.length : Int) := by omega
        have hj0 : 0 ≤ (j : Int) := by omega
        have hs := Lib.hid (spB_succ L j)
        have HOWN := Lib.hid hown
        have HEV := Lib.hid hev
        have hsl := spB_len L j
        cases hx : L.getD j false with
        | false =>
          rw [hx] at c1
          have HX : Hid ((spB L (j + 1)).1 = (spB L j).1) := Lib.hid (by rw [hs.out, hx]; rfl)
          clear hown hev hx
          go_wp2_with fail
          go_roundw
          case rel => exact ⟨j + 1, by omega, by go_num, by rw [HX.out]; exact HOWN.out, HEV.out⟩
          case measure => simp [intOf]; omega
        | true =>
          rw [hx] at c1
          rcases j with _ | m
          · simp only [Nat.add_zero] at c1
            have hl0 : (0 : Int) < (L.length : Int) := by omega
            clear hlt' hj0
            have H3 : Hid ((spB L 0).1.length + 1 ≤ maxLen) := Lib.hid (by unfold maxLen; omega)
            have H4 : Hid (((spB L 0).1.length + 1) * 16 ≤ 140737488355328) := Lib.hid (by omega)
            have H5 : Hid (∀ o, w1.heap.size ≤ (wr.alloc o).heap.size) := Lib.hid (by intro o; have := HEV.out.sz; simp; omega)
            have HX : Hid ((spB L (0 + 1)).1 = (spB L 0).1 ++ [(((0 : Nat) : Int), ((0 : Nat) : Int))]) := Lib.hid (by rw [hs.out, hx]; have hbit : (spB L 0).2 = false := rfl; simp [stp, hbit])
            have HS := Lib.hid hown
            clear hown hev hx hsl
            generalize (spB L 0).1 = s at *
            go_wp2_with (at_builtin; go_loud (refine wpList_append_own _ rfl (.tmp 25) (.tmp 29) 38 rfl w1.heap.size 51 i0 (.agg #[.int .i64 0, .int .i64 0]) 2 16 Try.underlying38 hi0 hz0 hz1 hz2 rfl (by decide) u8 s.length (flatS s) rfl (HS.out.alloc _) ⟨wr.heap.size, 0, none⟩ 1 1 [.int .i64 _, .int .i64 _] rfl rfl (cell_two_new _ _ _ _) (by simp [Value.oneCell']) H3.out H4.out (H5.out _) ?_); intro v1 w4 hown4 hg4 _)
            have HW4 := Lib.hid (Ev.grown (HEV.out.alloc _) hg4 (fun g hg => (HS.out.lt g hg).1))
            have HOW4 := Lib.hid hown4
            clear hg4 hown4
            go_wp2_with fail
            go_roundw
            case rel => exact ⟨0 + 1, by omega, by go_num, by rw [HX.out, flatS_app, List.length_append]; exact HOW4.out, HW4.out⟩
            case measure => simp [intOf]; omega
          · obtain ⟨b2, o2, hb2, -, d1⟩ := (HRD.out.ev HEV.out).2 m (by omega)
            obtain ⟨h1, h2⟩ : b' = b2 ∧ o = o2 := by injection hb2 with h; injection h with h1 h2; exact ⟨h1, h2⟩
            subst h1 h2
            have hl0 : (m : Int) < (L.length : Int) := by omega
            have hl1 : (m : Int) + 1 < (L.length : Int) := by omega
            have hm0 : 0 ≤ (m : Int) := by omega
            have hm1 : 0 ≤ (m : Int) + 1 := by omega
            have hm2 : 0 < (m : Int) + 1 := by omega
            clear hlt' hj0 hb2
            cases hy : L.getD m false with
            | false =>
              rw [hy] at d1
              have H3 : Hid ((spB L (m + 1)).1.length + 1 ≤ maxLen) := Lib.hid (by unfold maxLen; omega)
              have H4 : Hid (((spB L (m + 1)).1.length + 1) * 16 ≤ 140737488355328) := Lib.hid (by omega)
              have H5 : Hid (∀ o, w1.heap.size ≤ (wr.alloc o).heap.size) := Lib.hid (by intro o; have := HEV.out.sz; simp; omega)
              have HX : Hid ((spB L ((m + 1) + 1)).1 = (spB L (m + 1)).1 ++ [((((m + 1) : Nat) : Int), (((m + 1) : Nat) : Int))]) := Lib.hid (by rw [hs.out, hx]; have hbit : (spB L (m + 1)).2 = false := (by rw [spB_bit]; exact hy); simp [stp, hbit])
              have HS := Lib.hid hown
              clear hown hev hx hsl hy
              generalize (spB L (m + 1)).1 = s at *
              go_wp2_with (at_builtin; go_loud (refine wpList_append_own _ rfl (.tmp 25) (.tmp 29) 38 rfl w1.heap.size 51 i0 (.agg #[.int .i64 0, .int .i64 0]) 2 16 Try.underlying38 hi0 hz0 hz1 hz2 rfl (by decide) u8 s.length (flatS s) rfl (HS.out.alloc _) ⟨wr.heap.size, 0, none⟩ 1 1 [.int .i64 _, .int .i64 _] rfl rfl (cell_two_new _ _ _ _) (by simp [Value.oneCell']) H3.out H4.out (H5.out _) ?_); intro v1 w4 hown4 hg4 _)
              have HW4 := Lib.hid (Ev.grown (HEV.out.alloc _) hg4 (fun g hg => (HS.out.lt g hg).1))
              have HOW4 := Lib.hid hown4
              clear hg4 hown4
              go_wp2_with fail
              go_roundw
              case rel => exact ⟨(m + 1) + 1, by omega, by go_num, by rw [HX.out, flatS_app, List.length_append]; exact HOW4.out, HW4.out⟩
              case measure => simp [intOf]; omega
            | true =>
              rw [hy] at d1
              have hbit : (spB L (m + 1)).2 = true := by rw [spB_bit]; exact hy
              have hne : (spB L (m + 1)).1 ≠ [] := spF_inv _ hbit
              obtain ⟨r, f, t, hr⟩ := snoc_of hne
              have HX : Hid ((spB L (m + 1 + 1)).1 = r ++ [(f, ((m + 1 : Nat) : Int))]) := Lib.hid (by rw [hs.out, hx]; simp only [stp, hbit]; rw [hr, setL_snoc])
              rw [hr] at hown hsl
              simp only [List.length_append, List.length_singleton] at hown hsl
              obtain ⟨g, cap2, rfl⟩ := ownsRow_succ hown
              have hg := hown.lt g rfl
              have e2 := hown.cellAt (r.length * 2 + 1) (by omega)
              rw [flatS_last] at e2
              have f2 := hown.frozenAt (r.length * 2 + 1)
              obtain ⟨s1, s2⟩ := hown.stored (r.length * 2 + 1) (.int .i64 ((m + 1 : Nat) : Int))
              rw [flatS_set] at s1
              have HS := Lib.hid s1
              have HG : Hid (Ev w1 (wr.setCell ⟨g, r.length * 2 + 1, none⟩ (.int .i64 ((m + 1 : Nat) : Int)))) := Lib.hid (Below.setCell HEV.out (p := ⟨g, r.length * 2 + 1, none⟩) (by simp only []; omega) _)
              have l1 : 0 ≤ (r.length : Int) := by omega
              have l2 : (r.length : Int) ≤ 400 := by omega
              clear HOWN hown hev hx hsl hy hbit hne hr s1 s2 hg
              go_wp2_with fail
              go_roundw
              case rel => exact ⟨m + 1 + 1, by omega, by go_num, by rw [HX.out, List.length_append]; exact HS.out, HG.out⟩
              case measure => simp [intOf]; omega
      · obtain rfl : j = L.length := by omega
        have HOWN := Lib.hid hown
        have HEV := Lib.hid hev
        clear hown hev
        go_wp2_with fail
        go_ret2
        exact ⟨_, rfl, own_weaken HOWN.out HE.out.sz, HE.out.step HEV.out⟩
  · have e : spV a b c l = [] := by unfold spV; rw [if_neg h]
    have h' : (asE a b c l != 0) = true := by simpa using h
    rw [e]
    clear e h hr
    generalize asE a b c l = er at *
    generalize rnV a b c l = L at *
    go_enter Try.func22, Try.ntmps22
    go_wp2_with fail
    refine (H.out _ HA.out).mono ?_
    rintro e w1 ⟨v, rfl, ⟨A', cap', rfl, hrd⟩, hev⟩
    have hf := HA.out.step hev
    clear hev hrd
    go_wp2_with fail
    go_ret2
    exact ⟨_, rfl, World.ownsRow_nil _ _ _ _, hf⟩
end Go.Proofs.Ytnlbkaabhnkkfaa
