import Derived.Test.YtnlbkaabhnkkfaaPM0
namespace Go.Proofs.Ytnlbkaabhnkkfaa
open Go.RowKit
theorem getD_mem {l : List Int} {j : Nat} (h : j < l.length) : l.getD j 0 ∈ l := by simp [List.getD, h]
theorem own_formsI {w : World} {base : Nat} {v : Value} {l : List Int} (h : OwnI w base v l) (hl : l.length ≤ 9223372036854775807) : (v = .slice none 0 0 ∧ l = []) ∨ ∃ g cap, v = .slice (some ⟨g, 0, none⟩) l.length cap ∧ l.length ≤ cap ∧ cap ≤ maxLen ∧ RdI w (some ⟨g, 0, none⟩) l := by
  obtain ⟨A, cap, hv, hr⟩ := RdI.of_own h hl
  rcases h.2 with ⟨h1, h0⟩ | ⟨g, cap', cur, h1, hbg, hh, hn, hc, hs, ht⟩
  · exact .inl ⟨h1, List.eq_nil_of_length_eq_zero h0⟩
  · rw [hv] at h1
    injection h1 with e1 e2 e3
    subst e1 e3
    exact .inr ⟨g, cap, hv, hn, hc, hr⟩
theorem own_formsB {w : World} {base : Nat} {v : Value} {l : List Bool} (h : OwnB w base v l) (hl : l.length ≤ 9223372036854775807) : (v = .slice none 0 0 ∧ l = []) ∨ ∃ g cap, v = .slice (some ⟨g, 0, none⟩) l.length cap ∧ l.length ≤ cap ∧ cap ≤ maxLen ∧ RdB w (some ⟨g, 0, none⟩) l := by
  obtain ⟨A, cap, hv, hr⟩ := RdB.of_own h hl
  rcases h.2 with ⟨h1, h0⟩ | ⟨g, cap', cur, h1, hbg, hh, hn, hc, hs, ht⟩
  · exact .inl ⟨h1, List.eq_nil_of_length_eq_zero h0⟩
  · rw [hv] at h1
    injection h1 with e1 e2 e3
    subst e1 e3
    exact .inr ⟨g, cap, hv, hn, hc, hr⟩
set_option maxRecDepth 100000 in
set_option maxHeartbeats 8000000 in
theorem parts_any (n cut : Int) (A0 : Option Addr) (cap0 : Nat) (nums : List Int) (w : World) (hn : -9223372036854775808 ≤ n) (hn2 : n ≤ 9223372036854775807) (hr0 : RdI w A0 nums) : Calls Try.prog 8 #[.int .i64 n, .slice A0 nums.length cap0, .int .i64 cut] w fun e w' => e = .returned (.bool true) ∧ Ev w w' := by
  have HM := Lib.hid (made_any n w hn hn2)
  have hL4 := hiL_len nums
  have HHI : Hid (∀ W, Ev w W → Calls Try.prog 33 #[.slice A0 nums.length cap0] W fun e w' => ∃ v, e = .returned v ∧ ((v = .slice none 0 0 ∧ hiL nums = []) ∨ ∃ g cap, v = .slice (some ⟨g, 0, none⟩) (hiL nums).length cap ∧ (hiL nums).length ≤ cap ∧ cap ≤ maxLen ∧ RdI w' (some ⟨g, 0, none⟩) (hiL nums)) ∧ Ev W w') := Lib.hid fun W e => (history_any A0 cap0 nums W (hr0.ev e)).mono fun _ _ ⟨v, h1, h2, h3⟩ => ⟨v, h1, own_formsI h2 (by omega), h3⟩
  have hLb := Lib.hid (hi_bd nums)
  have AW := Lib.hid awake_any
  clear hr0
  generalize hiL nums = l at *
  have HMD := Lib.hid fun W => mod_any cut ((l.length : Int) + 1) W (by omega) (by omega)
  obtain ⟨k, hk, hkl⟩ : ∃ k : Nat, cut % ((l.length : Int) + 1) = (k : Int) ∧ k ≤ l.length := by
    have h1 := Int.emod_nonneg cut (show (l.length : Int) + 1 ≠ 0 by omega)
    have h2 := Int.emod_lt_of_pos cut (show 0 < (l.length : Int) + 1 by omega)
    exact ⟨(cut % ((l.length : Int) + 1)).toNat, by omega, by omega⟩
  rw [hk] at HMD
  clear hk
  go_enter Try.func8, Try.ntmps8
  go_wp2_with fail
  refine HM.out.mono ?_
  rintro e w1 ⟨a, b, c, rfl, hv, hev⟩
  have has := asE_hist hv hL4 hLb.out
  have has1 := asE_hist hv (l := l.take k) (by rw [List.length_take]; omega) (fun x hx => hLb.out x (List.mem_of_mem_take hx))
  have has2 := asE_hist hv (l := l.drop k) (by rw [List.length_drop]; omega) (fun x hx => hLb.out x (List.mem_of_mem_drop hx))
  have hbc : b < c := hv.2.2.1
  have HWO := Lib.hid (wo_parts a b c l k has has1 has2)
  have HV : Hid (0 ≤ a ∧ a < b ∧ b < c ∧ c ≤ 256) := Lib.hid ⟨hv.1, hv.2.1, hv.2.2.1, by omega⟩
  have HR0 := Lib.hid (rnV_upto has)
  have HR1 : Hid (rnV a b c (l.take k) = upto (fun j => gS b c l (j + 1)) k) := Lib.hid (by
    rw [rnV_upto has1, show (l.take k).length = k from by rw [List.length_take]; omega]
    unfold upto
    apply List.map_congr_left
    intro j hj
    exact gS_take b c l k (j + 1) (by have := List.mem_range.1 hj; omega))
  have A0 := Lib.hid has
  have A1 := Lib.hid has1
  have A2 := Lib.hid has2
  clear has has1 has2
  go_wp2_with fail
  refine (HHI.out _ hev).mono ?_
  rintro e w2 ⟨v, rfl, hform, hev2⟩
  have HB : Hid (∀ W, Ev (w2.alloc (mb a b c)) W → (W.cell? ⟨w2.heap.size, 0, none⟩ = some (.int .i64 a) ∧ W.cell? ⟨w2.heap.size, 1, none⟩ = some (.int .i64 b) ∧ W.cell? ⟨w2.heap.size, 2, none⟩ = some (.int .i64 c))) := Lib.hid fun W e => by refine ⟨?_, ?_, ?_⟩ <;> (rw [e.cell (by simp)]; simp)
  have HEW : Hid (∀ W, Ev (w2.alloc (mb a b c)) W → Ev w W) := Lib.hid fun W e => (((hev.step hev2).alloc _).step e)
  clear hev hev2 hv
  rcases hform with ⟨rfl, rfl⟩ | ⟨g, cap, rfl, hcap, hcm, hr⟩
  · obtain rfl : k = 0 := by simpa using hkl
    have HR0 : Hid (rnV a b c [] = []) := Lib.hid HR0.out
    clear HHI HM
    go_wp2_with fail
    refine (HMD.out _).mono ?_
    rintro e w' ⟨rfl, rfl⟩
    go_wp2_with fail
    refine (Run_any a b c none 0 [] _ (RdI.nil _ _)).mono ?_
    rintro e w3 ⟨v1, rfl, ho, hev⟩
    rw [A0.out]
    rw [HR0.out] at ho
    rcases own_formsB ho (by simp) with ⟨rfl, -⟩ | ⟨g1, d1, rfl, -, hdm, -⟩
    · have HE := Lib.hid hev
      have HWR : Hid (∀ W, Calls Try.prog 25 #[mk a b c, .slice none 0 0] W fun e w' => e = .returned (.tuple #[.int .i64 (woV a b c []).1, .int .i64 (woV a b c []).2, .int .i64 0]) ∧ Ev W w') := Lib.hid fun W => by
        have h := Worst_any a b c none 0 [] W (RdI.nil _ _)
        rw [A0.out] at h
        exact h
      have HS : Hid (∀ W, Ev w3 W → (W.cell? ⟨w2.heap.size, 0, none⟩ = some (.int .i64 a) ∧ W.cell? ⟨w2.heap.size, 1, none⟩ = some (.int .i64 b) ∧ W.cell? ⟨w2.heap.size, 2, none⟩ = some (.int .i64 c)) ∧ Ev w3 W) := Lib.hid fun W e => ⟨HB.out _ (HE.out.step e), e⟩
      have HC : Hid (∀ W, Ev w3 W → Calls Try.prog 19 #[mk a b c, .slice none 0 0] W fun e w' => ∃ A c2, e = .returned (.tuple #[.slice A 0 c2, .int .i64 0]) ∧ Ev w3 w') := Lib.hid fun W e => by
        have h := Run_any a b c none 0 [] W (RdI.nil _ _)
        rw [A0.out, HR0.out] at h
        refine h.mono fun _ _ ⟨v, h1, h2, h3⟩ => ?_
        obtain ⟨A, c2, h4, -⟩ := RdB.of_own h2 (by simp)
        exact ⟨A, c2, by rw [h1, h4]; rfl, e.step h3⟩
      generalize (woV a b c []).1 = q at *
      generalize (woV a b c []).2 = t at *
      obtain ⟨x0, x1, x2⟩ := HB.out _ HE.out
      clear ho hev
      go_wp2_with fail
      have hev := Ev.refl w3
      go_region_held3 (fun W => (W.cell? ⟨w2.heap.size, 0, none⟩ = some (.int .i64 a) ∧ W.cell? ⟨w2.heap.size, 1, none⟩ = some (.int .i64 b) ∧ W.cell? ⟨w2.heap.size, 2, none⟩ = some (.int .i64 c)) ∧ Ev w3 W)
        (first | with_reducible exact HS.out _ (by with_reducible assumption) | with_reducible exact HS.out _ (Ev.drew (by with_reducible assumption)))
        (first | (go_at_call 19; refine (HC.out _ (by first | assumption | exact Ev.drew (by with_reducible assumption))).mono ?_; clear hev; rintro e w4 ⟨A2', c2, rfl, hev⟩))
      have HSM : Hid (∀ W, Calls Try.prog 23 #[.slice A2' 0 c2, .slice none 0 0] W fun e w'' => e = .returned (.bool true) ∧ Ev W w'') := Lib.hid fun W => sameB A2' none c2 0 [] W ⟨by simp, fun j hj => by simp at hj⟩ ⟨by simp, fun j hj => by simp at hj⟩
      have hll : ((0 : Int) != 0) = false := rfl
      clear x0 x1 x2
      go_wp2_with fail
      refine (HSM.out _).mono ?_
      rintro e w5 ⟨rfl, hev5⟩
      have HE5 := Lib.hid (HE.out.step (hev.step hev5))
      clear hev hev5
      go_wp2_with fail
      go_loopw [14, 15] (fun wt i wr => i = .int .i64 0 ∧ Ev w5 wr) (fun _ i _ => 0)
      case atStart => exact ⟨rfl, Ev.refl _⟩
      case round =>
        obtain ⟨rfl, hev⟩ := hrel
        have HE6 := Lib.hid (HE5.out.step hev)
        have HS : Hid (∀ W, Ev wr W → (W.cell? ⟨w2.heap.size, 0, none⟩ = some (.int .i64 a) ∧ W.cell? ⟨w2.heap.size, 1, none⟩ = some (.int .i64 b) ∧ W.cell? ⟨w2.heap.size, 2, none⟩ = some (.int .i64 c)) ∧ Ev wr W) := Lib.hid fun W e => ⟨HB.out _ (HE6.out.step e), e⟩
        have HWR : Hid (∀ W, Ev wr W → Calls Try.prog 25 #[mk a b c, .slice none 0 0] W fun e w' => e = .returned (.tuple #[.int .i64 q, .int .i64 t, .int .i64 0]) ∧ Ev wr w') := Lib.hid fun W e => (HWR.out W).mono fun _ _ hh => ⟨hh.1, e.step hh.2⟩
        obtain ⟨x0, x1, x2⟩ := HB.out _ HE6.out
        clear hev
        go_wp2_with fail
        refine (HWR.out _ (Ev.refl _)).mono ?_
        rintro e w6 ⟨rfl, hev⟩
        clear x0 x1 x2
        obtain ⟨x0, x1, x2⟩ := HB.out _ (HE6.out.step hev)
        go_wp2_with fail
        go_region_held3 (fun W => (W.cell? ⟨w2.heap.size, 0, none⟩ = some (.int .i64 a) ∧ W.cell? ⟨w2.heap.size, 1, none⟩ = some (.int .i64 b) ∧ W.cell? ⟨w2.heap.size, 2, none⟩ = some (.int .i64 c)) ∧ Ev wr W)
          (first | with_reducible exact HS.out _ (by with_reducible assumption) | with_reducible exact HS.out _ (Ev.drew (by with_reducible assumption)))
          (first | (go_at_call 25; refine (HWR.out _ (by first | assumption | exact Ev.drew (by with_reducible assumption))).mono ?_; clear hev; rintro e w7 ⟨rfl, hev⟩))
        clear x0 x1 x2
        obtain ⟨x0, x1, x2⟩ := HB.out _ (HE6.out.step hev)
        go_wp2_with fail
        go_region_held3 (fun W => (W.cell? ⟨w2.heap.size, 0, none⟩ = some (.int .i64 a) ∧ W.cell? ⟨w2.heap.size, 1, none⟩ = some (.int .i64 b) ∧ W.cell? ⟨w2.heap.size, 2, none⟩ = some (.int .i64 c)) ∧ Ev wr W)
          (first | with_reducible exact HS.out _ (by with_reducible assumption) | with_reducible exact HS.out _ (Ev.drew (by with_reducible assumption)))
          (first | (go_at_call 25; refine (HWR.out _ (by first | assumption | exact Ev.drew (by with_reducible assumption))).mono ?_; clear hev; rintro e w8 ⟨rfl, hev⟩))
        have HE8 := Lib.hid (HEW.out _ (HE6.out.step hev))
        clear x0 x1 x2 hev
        go_wp2_with fail
        refine (AW.out _).mono ?_
        rintro e w9 ⟨rfl, hev⟩
        have HF := HE8.out.step hev
        clear hev
        go_wp2_with fail
        go_ret
        exact ⟨rfl, HF⟩
    · unfold maxLen at hdm
      have HE := Lib.hid hev
      have HWR : Hid (∀ W, Calls Try.prog 25 #[mk a b c, .slice none 0 0] W fun e w' => e = .returned (.tuple #[.int .i64 (woV a b c []).1, .int .i64 (woV a b c []).2, .int .i64 0]) ∧ Ev W w') := Lib.hid fun W => by
        have h := Worst_any a b c none 0 [] W (RdI.nil _ _)
        rw [A0.out] at h
        exact h
      have HS : Hid (∀ W, Ev w3 W → (W.cell? ⟨w2.heap.size, 0, none⟩ = some (.int .i64 a) ∧ W.cell? ⟨w2.heap.size, 1, none⟩ = some (.int .i64 b) ∧ W.cell? ⟨w2.heap.size, 2, none⟩ = some (.int .i64 c)) ∧ Ev w3 W) := Lib.hid fun W e => ⟨HB.out _ (HE.out.step e), e⟩
      have HC : Hid (∀ W, Ev w3 W → Calls Try.prog 19 #[mk a b c, .slice none 0 0] W fun e w' => ∃ A c2, e = .returned (.tuple #[.slice A 0 c2, .int .i64 0]) ∧ Ev w3 w') := Lib.hid fun W e => by
        have h := Run_any a b c none 0 [] W (RdI.nil _ _)
        rw [A0.out, HR0.out] at h
        refine h.mono fun _ _ ⟨v, h1, h2, h3⟩ => ?_
        obtain ⟨A, c2, h4, -⟩ := RdB.of_own h2 (by simp)
        exact ⟨A, c2, by rw [h1, h4]; rfl, e.step h3⟩
      generalize (woV a b c []).1 = q at *
      generalize (woV a b c []).2 = t at *
      obtain ⟨x0, x1, x2⟩ := HB.out _ HE.out
      clear ho hev
      go_wp2_with fail
      have hev := Ev.refl w3
      go_region_held3 (fun W => (W.cell? ⟨w2.heap.size, 0, none⟩ = some (.int .i64 a) ∧ W.cell? ⟨w2.heap.size, 1, none⟩ = some (.int .i64 b) ∧ W.cell? ⟨w2.heap.size, 2, none⟩ = some (.int .i64 c)) ∧ Ev w3 W)
        (first | with_reducible exact HS.out _ (by with_reducible assumption) | with_reducible exact HS.out _ (Ev.drew (by with_reducible assumption)))
        (first | (go_at_call 19; refine (HC.out _ (by first | assumption | exact Ev.drew (by with_reducible assumption))).mono ?_; clear hev; rintro e w4 ⟨A2', c2, rfl, hev⟩))
      have HSM : Hid (∀ W, Calls Try.prog 23 #[.slice A2' 0 c2, .slice (some ⟨g1, 0, none⟩) 0 d1] W fun e w'' => e = .returned (.bool true) ∧ Ev W w'') := Lib.hid fun W => sameB A2' (some ⟨g1, 0, none⟩) c2 d1 [] W ⟨by simp, fun j hj => by simp at hj⟩ ⟨by simp, fun j hj => by simp at hj⟩
      have hll : ((0 : Int) != 0) = false := rfl
      clear x0 x1 x2
      go_wp2_with fail
      refine (HSM.out _).mono ?_
      rintro e w5 ⟨rfl, hev5⟩
      have HE5 := Lib.hid (HE.out.step (hev.step hev5))
      clear hev hev5
      go_wp2_with fail
      go_loopw [14, 15] (fun wt i wr => i = .int .i64 0 ∧ Ev w5 wr) (fun _ i _ => 0)
      case atStart => exact ⟨rfl, Ev.refl _⟩
      case round =>
        obtain ⟨rfl, hev⟩ := hrel
        have HE6 := Lib.hid (HE5.out.step hev)
        have HS : Hid (∀ W, Ev wr W → (W.cell? ⟨w2.heap.size, 0, none⟩ = some (.int .i64 a) ∧ W.cell? ⟨w2.heap.size, 1, none⟩ = some (.int .i64 b) ∧ W.cell? ⟨w2.heap.size, 2, none⟩ = some (.int .i64 c)) ∧ Ev wr W) := Lib.hid fun W e => ⟨HB.out _ (HE6.out.step e), e⟩
        have HWR : Hid (∀ W, Ev wr W → Calls Try.prog 25 #[mk a b c, .slice none 0 0] W fun e w' => e = .returned (.tuple #[.int .i64 q, .int .i64 t, .int .i64 0]) ∧ Ev wr w') := Lib.hid fun W e => (HWR.out W).mono fun _ _ hh => ⟨hh.1, e.step hh.2⟩
        obtain ⟨x0, x1, x2⟩ := HB.out _ HE6.out
        clear hev
        go_wp2_with fail
        refine (HWR.out _ (Ev.refl _)).mono ?_
        rintro e w6 ⟨rfl, hev⟩
        clear x0 x1 x2
        obtain ⟨x0, x1, x2⟩ := HB.out _ (HE6.out.step hev)
        go_wp2_with fail
        go_region_held3 (fun W => (W.cell? ⟨w2.heap.size, 0, none⟩ = some (.int .i64 a) ∧ W.cell? ⟨w2.heap.size, 1, none⟩ = some (.int .i64 b) ∧ W.cell? ⟨w2.heap.size, 2, none⟩ = some (.int .i64 c)) ∧ Ev wr W)
          (first | with_reducible exact HS.out _ (by with_reducible assumption) | with_reducible exact HS.out _ (Ev.drew (by with_reducible assumption)))
          (first | (go_at_call 25; refine (HWR.out _ (by first | assumption | exact Ev.drew (by with_reducible assumption))).mono ?_; clear hev; rintro e w7 ⟨rfl, hev⟩))
        clear x0 x1 x2
        obtain ⟨x0, x1, x2⟩ := HB.out _ (HE6.out.step hev)
        go_wp2_with fail
        go_region_held3 (fun W => (W.cell? ⟨w2.heap.size, 0, none⟩ = some (.int .i64 a) ∧ W.cell? ⟨w2.heap.size, 1, none⟩ = some (.int .i64 b) ∧ W.cell? ⟨w2.heap.size, 2, none⟩ = some (.int .i64 c)) ∧ Ev wr W)
          (first | with_reducible exact HS.out _ (by with_reducible assumption) | with_reducible exact HS.out _ (Ev.drew (by with_reducible assumption)))
          (first | (go_at_call 25; refine (HWR.out _ (by first | assumption | exact Ev.drew (by with_reducible assumption))).mono ?_; clear hev; rintro e w8 ⟨rfl, hev⟩))
        have HE8 := Lib.hid (HEW.out _ (HE6.out.step hev))
        clear x0 x1 x2 hev
        go_wp2_with fail
        refine (AW.out _).mono ?_
        rintro e w9 ⟨rfl, hev⟩
        have HF := HE8.out.step hev
        clear hev
        go_wp2_with fail
        go_ret
        exact ⟨rfl, HF⟩
  · have HR : Hid (∀ W, Ev (w2.alloc (mb a b c)) W → RdI W (some ⟨g, 0, none⟩) l) := Lib.hid fun W e => (hr.ev ((Ev.refl _).alloc _)).ev e
    clear hr
    unfold maxLen at hcm
    go_wp2_with fail
    refine (HMD.out _).mono ?_
    rintro e w' ⟨rfl, rfl⟩
    go_wp2_with fail
    refine (Run_any a b c (some ⟨g, 0, none⟩) cap l _ (HR.out _ (Ev.refl _))).mono ?_
    rintro e w3 ⟨v1, rfl, ho, hev⟩
    rw [A0.out]
    rcases own_formsB ho (by have := rnV_len a b c l; omega) with ⟨rfl, hz⟩ | ⟨g1, d1, rfl, hd1, hdm, hb1⟩
    · rw [HR0.out] at hz
      obtain rfl : l = [] := List.eq_nil_of_length_eq_zero (by have := congrArg List.length hz; rw [upto_length] at this; exact this)
      obtain rfl : k = 0 := by simpa using hkl
      have HR0 : Hid (rnV a b c [] = []) := Lib.hid HR0.out
      have HE := Lib.hid hev
      have HWR : Hid (∀ W, Calls Try.prog 25 #[mk a b c, .slice (some ⟨g, 0, none⟩) 0 cap] W fun e w' => e = .returned (.tuple #[.int .i64 (woV a b c []).1, .int .i64 (woV a b c []).2, .int .i64 0]) ∧ Ev W w') := Lib.hid fun W => by
        have h := Worst_any a b c (some ⟨g, 0, none⟩) cap [] W (RdI.nil _ _)
        rw [A0.out] at h
        exact h
      have HS : Hid (∀ W, Ev w3 W → (W.cell? ⟨w2.heap.size, 0, none⟩ = some (.int .i64 a) ∧ W.cell? ⟨w2.heap.size, 1, none⟩ = some (.int .i64 b) ∧ W.cell? ⟨w2.heap.size, 2, none⟩ = some (.int .i64 c)) ∧ Ev w3 W) := Lib.hid fun W e => ⟨HB.out _ (HE.out.step e), e⟩
      have HC : Hid (∀ W, Ev w3 W → Calls Try.prog 19 #[mk a b c, .slice (some ⟨g, 0, none⟩) 0 cap] W fun e w' => ∃ A c2, e = .returned (.tuple #[.slice A 0 c2, .int .i64 0]) ∧ Ev w3 w') := Lib.hid fun W e => by
        have h := Run_any a b c (some ⟨g, 0, none⟩) cap [] W (RdI.nil _ _)
        rw [A0.out, HR0.out] at h
        refine h.mono fun _ _ ⟨v, h1, h2, h3⟩ => ?_
        obtain ⟨A, c2, h4, -⟩ := RdB.of_own h2 (by simp)
        exact ⟨A, c2, by rw [h1, h4]; rfl, e.step h3⟩
      generalize (woV a b c []).1 = q at *
      generalize (woV a b c []).2 = t at *
      obtain ⟨x0, x1, x2⟩ := HB.out _ HE.out
      clear ho hev
      go_wp2_with fail
      have hev := Ev.refl w3
      go_region_held3 (fun W => (W.cell? ⟨w2.heap.size, 0, none⟩ = some (.int .i64 a) ∧ W.cell? ⟨w2.heap.size, 1, none⟩ = some (.int .i64 b) ∧ W.cell? ⟨w2.heap.size, 2, none⟩ = some (.int .i64 c)) ∧ Ev w3 W)
        (first | with_reducible exact HS.out _ (by with_reducible assumption) | with_reducible exact HS.out _ (Ev.drew (by with_reducible assumption)))
        (first | (go_at_call 19; refine (HC.out _ (by first | assumption | exact Ev.drew (by with_reducible assumption))).mono ?_; clear hev; rintro e w4 ⟨A2', c2, rfl, hev⟩))
      have HSM : Hid (∀ W, Calls Try.prog 23 #[.slice A2' 0 c2, .slice none 0 0] W fun e w'' => e = .returned (.bool true) ∧ Ev W w'') := Lib.hid fun W => sameB A2' none c2 0 [] W ⟨by simp, fun j hj => by simp at hj⟩ ⟨by simp, fun j hj => by simp at hj⟩
      have hll : ((0 : Int) != 0) = false := rfl
      clear x0 x1 x2
      go_wp2_with fail
      refine (HSM.out _).mono ?_
      rintro e w5 ⟨rfl, hev5⟩
      have HE5 := Lib.hid (HE.out.step (hev.step hev5))
      clear hev hev5
      go_wp2_with fail
      go_loopw [14, 15] (fun wt i wr => i = .int .i64 0 ∧ Ev w5 wr) (fun _ i _ => 0)
      case atStart => exact ⟨rfl, Ev.refl _⟩
      case round =>
        obtain ⟨rfl, hev⟩ := hrel
        have HE6 := Lib.hid (HE5.out.step hev)
        have HS : Hid (∀ W, Ev wr W → (W.cell? ⟨w2.heap.size, 0, none⟩ = some (.int .i64 a) ∧ W.cell? ⟨w2.heap.size, 1, none⟩ = some (.int .i64 b) ∧ W.cell? ⟨w2.heap.size, 2, none⟩ = some (.int .i64 c)) ∧ Ev wr W) := Lib.hid fun W e => ⟨HB.out _ (HE6.out.step e), e⟩
        have HWR : Hid (∀ W, Ev wr W → Calls Try.prog 25 #[mk a b c, .slice (some ⟨g, 0, none⟩) 0 cap] W fun e w' => e = .returned (.tuple #[.int .i64 q, .int .i64 t, .int .i64 0]) ∧ Ev wr w') := Lib.hid fun W e => (HWR.out W).mono fun _ _ hh => ⟨hh.1, e.step hh.2⟩
        obtain ⟨x0, x1, x2⟩ := HB.out _ HE6.out
        clear hev
        go_wp2_with fail
        refine (HWR.out _ (Ev.refl _)).mono ?_
        rintro e w6 ⟨rfl, hev⟩
        clear x0 x1 x2
        obtain ⟨x0, x1, x2⟩ := HB.out _ (HE6.out.step hev)
        go_wp2_with fail
        go_region_held3 (fun W => (W.cell? ⟨w2.heap.size, 0, none⟩ = some (.int .i64 a) ∧ W.cell? ⟨w2.heap.size, 1, none⟩ = some (.int .i64 b) ∧ W.cell? ⟨w2.heap.size, 2, none⟩ = some (.int .i64 c)) ∧ Ev wr W)
          (first | with_reducible exact HS.out _ (by with_reducible assumption) | with_reducible exact HS.out _ (Ev.drew (by with_reducible assumption)))
          (first | (go_at_call 25; refine (HWR.out _ (by first | assumption | exact Ev.drew (by with_reducible assumption))).mono ?_; clear hev; rintro e w7 ⟨rfl, hev⟩))
        clear x0 x1 x2
        obtain ⟨x0, x1, x2⟩ := HB.out _ (HE6.out.step hev)
        go_wp2_with fail
        go_region_held3 (fun W => (W.cell? ⟨w2.heap.size, 0, none⟩ = some (.int .i64 a) ∧ W.cell? ⟨w2.heap.size, 1, none⟩ = some (.int .i64 b) ∧ W.cell? ⟨w2.heap.size, 2, none⟩ = some (.int .i64 c)) ∧ Ev wr W)
          (first | with_reducible exact HS.out _ (by with_reducible assumption) | with_reducible exact HS.out _ (Ev.drew (by with_reducible assumption)))
          (first | (go_at_call 25; refine (HWR.out _ (by first | assumption | exact Ev.drew (by with_reducible assumption))).mono ?_; clear hev; rintro e w8 ⟨rfl, hev⟩))
        have HE8 := Lib.hid (HEW.out _ (HE6.out.step hev))
        clear x0 x1 x2 hev
        go_wp2_with fail
        refine (AW.out _).mono ?_
        rintro e w9 ⟨rfl, hev⟩
        have HF := HE8.out.step hev
        clear hev
        go_wp2_with fail
        go_ret
        exact ⟨rfl, HF⟩
    · rw [HR0.out] at hd1 hb1 ⊢
      simp only [upto_length] at hd1 hb1 ⊢
      have HB1 := Lib.hid hb1
      have HE := Lib.hid hev
      clear ho hb1 hev
      unfold maxLen at hdm
      obtain ⟨x0, x1, x2⟩ := HB.out _ HE.out
      have hkc : k ≤ cap := by omega
      have hkd : k ≤ d1 := by omega
      go_wp2_with fail
      have HS : Hid (∀ W, Ev w3 W → (W.cell? ⟨w2.heap.size, 0, none⟩ = some (.int .i64 a) ∧ W.cell? ⟨w2.heap.size, 1, none⟩ = some (.int .i64 b) ∧ W.cell? ⟨w2.heap.size, 2, none⟩ = some (.int .i64 c)) ∧ Ev w3 W) := Lib.hid fun W e => ⟨HB.out _ (HE.out.step e), e⟩
      have HC : Hid (∀ W, Ev w3 W → Calls Try.prog 19 #[mk a b c, .slice (some ⟨g, 0, none⟩) k cap] W fun e w' => ∃ v, e = .returned (.tuple #[v, .int .i64 0]) ∧ OwnB w' w3.heap.size v (upto (fun j => gS b c l (j + 1)) k) ∧ Ev w3 w') := Lib.hid fun W e => by
        have h := Run_any a b c (some ⟨g, 0, none⟩) cap (l.take k) W ((HR.out _ (HE.out.step e)).take k hkl)
        rw [A1.out, HR1.out, show (l.take k).length = k from by rw [List.length_take]; omega] at h
        exact h.mono fun _ _ ⟨v, h1, h2, h3⟩ => ⟨v, h1, own_weaken h2 e.sz, e.step h3⟩
      have hev := Ev.refl w3
      go_region_held3 (fun W => (W.cell? ⟨w2.heap.size, 0, none⟩ = some (.int .i64 a) ∧ W.cell? ⟨w2.heap.size, 1, none⟩ = some (.int .i64 b) ∧ W.cell? ⟨w2.heap.size, 2, none⟩ = some (.int .i64 c)) ∧ Ev w3 W)
        (first | with_reducible exact HS.out _ (by with_reducible assumption) | with_reducible exact HS.out _ (Ev.drew (by with_reducible assumption)))
        (first | (go_at_call 19; refine (HC.out _ (by first | assumption | exact Ev.drew (by with_reducible assumption))).mono ?_; clear hev; rintro e w' ⟨v2, rfl, ho2, hev⟩))
      obtain ⟨A2', c2, rfl, hb2⟩ := RdB.of_own ho2 (by rw [upto_length]; omega)
      simp only [upto_length]
      have HB2 := Lib.hid hb2
      have HE4 := Lib.hid hev
      have HB1 := Lib.hid (HB1.out.ev hev)
      clear ho2 hb2 hev x0 x1 x2
      have HTK : Hid (∀ W, Ev w' W → RdB W (some ⟨g1, 0, none⟩) (upto (fun j => gS b c l (j + 1)) k)) := Lib.hid fun W e => by
        have h := (HB1.out.ev e).take k (by rw [upto_length]; exact hkl)
        rwa [upto_take _ _ _ hkl] at h
      have HSM : Hid (∀ W, Ev w' W → Calls Try.prog 23 #[.slice A2' k c2, .slice (some ⟨g1, 0, none⟩) k d1] W fun e w'' => e = .returned (.bool true) ∧ Ev w' w'') := Lib.hid fun W e => by
        have h := sameB A2' (some ⟨g1, 0, none⟩) c2 d1 _ W (HB2.out.ev e) (HTK.out W e)
        rw [upto_length] at h
        exact h.mono fun _ _ hh => ⟨hh.1, e.step hh.2⟩
      have hll : ((l.length : Int) != (l.length : Int)) = false := by simp
      go_wp2_with fail
      refine (HSM.out _ (Ev.refl _)).mono ?_
      rintro e w5 ⟨rfl, hev⟩
      have HE5 := Lib.hid (HE.out.step (HE4.out.step hev))
      have HB2 := Lib.hid (HB2.out.ev hev)
      have HB1 := Lib.hid (HB1.out.ev hev)
      clear hev
      have hk0 : 0 ≤ (k : Int) := by omega
      rcases (show k = 0 ∨ 0 < k by omega) with hkz | hkz
      · subst hkz
        have hw0 : gS b c l 0 = false := rfl
        have HW0 := Lib.hid hw0
        clear hw0
        go_wp2_with fail
        go_loopw [14, 15] (fun wt i wr => ∃ j : Nat, 0 ≤ j ∧ j ≤ l.length ∧ i = .int .i64 j ∧ wt = .bool (gS b c l j) ∧ Ev w5 wr) (fun _ i _ => l.length - (intOf i).toNat)
        case atStart => exact ⟨0, by omega, by omega, rfl, by rw [HW0.out], Ev.refl _⟩
        case round =>
          obtain ⟨j, hkj, hj, rfl, rfl, hev⟩ := hrel
          have HEV := Lib.hid hev
          have HE6 := Lib.hid (HE5.out.step hev)
          obtain ⟨x0, x1, x2⟩ := HB.out _ HE6.out
          by_cases hlt : j < l.length
          · obtain ⟨bl, ol, hq1, hbl, c1⟩ := (HR.out _ HE6.out).2 j hlt
            obtain ⟨b3, o3, hq2, hb3, c2⟩ := (HB1.out.ev hev).2 j (by rw [upto_length]; exact hlt)
            injection hq1 with hq1
            injection hq1 with e1 e2
            subst e1 e2
            injection hq2 with hq2
            injection hq2 with e1 e2
            subst e1 e2
            rw [upto_getD _ _ _ _ hlt] at c2
            have HC2 : Hid (∀ W, Ev wr W → W.cell? ⟨g1, j, none⟩ = some (.bool (gS b c l (j + 1)))) := Lib.hid fun W e => by rw [e.cell (p := ⟨g1, j, none⟩) hb3]; simpa using c2
            have hlt' : (j : Int) < (l.length : Int) := by omega
            have hj0 : 0 ≤ (j : Int) := by omega
            have HC : Hid (∀ W, Ev wr W → Calls Try.prog 13 #[mk a b c, .bool (gS b c l j), .int .i64 (l.getD j 0)] W fun e w' => e = .returned (.tuple #[.bool (gS b c l (j + 1)), .int .i64 0]) ∧ Ev wr w') := Lib.hid fun W e => (Next_good a b c (l.getD j 0) (gS b c l j) W HV.out ⟨(hLb.out _ (getD_mem hlt)).1, by have := (hLb.out _ (getD_mem hlt)).2; omega⟩).mono fun _ _ hh => ⟨hh.1, e.step hh.2⟩
            have HS : Hid (∀ W, Ev wr W → ((W.cell? ⟨w2.heap.size, 0, none⟩ = some (.int .i64 a) ∧ W.cell? ⟨w2.heap.size, 1, none⟩ = some (.int .i64 b) ∧ W.cell? ⟨w2.heap.size, 2, none⟩ = some (.int .i64 c)) ∧ W.cell? ⟨g, j, none⟩ = some (.int .i64 (l.getD j 0))) ∧ Ev wr W) := Lib.hid fun W e => ⟨⟨HB.out _ (HE6.out.step e), by rw [e.cell (p := ⟨g, j, none⟩) hbl]; simpa using c1⟩, e⟩
            generalize l.getD j 0 = x at *
            generalize hg1 : gS b c l (j + 1) = gn at *
            generalize gS b c l j = g0 at *
            have HG1 := Lib.hid hg1
            clear hg1 hev c2
            go_wp2_with fail
            have hev := Ev.refl wr
            go_region_held3 (fun W => ((W.cell? ⟨w2.heap.size, 0, none⟩ = some (.int .i64 a) ∧ W.cell? ⟨w2.heap.size, 1, none⟩ = some (.int .i64 b) ∧ W.cell? ⟨w2.heap.size, 2, none⟩ = some (.int .i64 c)) ∧ W.cell? ⟨g, j, none⟩ = some (.int .i64 x)) ∧ Ev wr W)
              (first | with_reducible exact HS.out _ (by with_reducible assumption) | with_reducible exact HS.out _ (Ev.drew (by with_reducible assumption)))
              (first | (go_at_call 13; refine (HC.out _ (by first | assumption | exact Ev.drew (by with_reducible assumption))).mono ?_; clear hev; rintro e w' ⟨rfl, hev⟩))
            have c2 := HC2.out _ hev
            have HE7 := Lib.hid (HEV.out.step hev)
            have hgn : (gn != gn) = false := by simp
            clear hev x0 x1 x2 c1
            go_wp2_with fail
            go_roundw
            case rel => exact ⟨j + 1, by omega, by omega, by go_num, by rw [HG1.out], HE7.out⟩
            case measure => simp [intOf]; omega
          · obtain rfl : j = l.length := by omega
            have hlt' : ((l.length : Int) < (l.length : Int)) = False := by simp
            have HW : Hid (∀ W, Ev wr W → Calls Try.prog 25 #[mk a b c, .slice (some ⟨g, 0, none⟩) l.length cap] W fun e w' => e = .returned (.tuple #[.int .i64 (woV a b c l).1, .int .i64 (woV a b c l).2, .int .i64 0]) ∧ Ev wr w') := Lib.hid fun W e => by
              have h := Worst_any a b c (some ⟨g, 0, none⟩) cap l W (HR.out _ (HE6.out.step e))
              rw [A0.out] at h
              exact h.mono fun _ _ hh => ⟨hh.1, e.step hh.2⟩
            have HWk : Hid (∀ W, Ev wr W → Calls Try.prog 25 #[mk a b c, .slice (some ⟨g, 0, none⟩) 0 cap] W fun e w' => e = .returned (.tuple #[.int .i64 (woV a b c (l.take 0)).1, .int .i64 (woV a b c (l.take 0)).2, .int .i64 0]) ∧ Ev wr w') := Lib.hid fun W e => by
              have h := Worst_any a b c (some ⟨g, 0, none⟩) cap (l.take 0) W ((HR.out _ (HE6.out.step e)).take 0 hkl)
              rw [A1.out, show (l.take 0).length = 0 from by rw [List.length_take]; omega] at h
              exact h.mono fun _ _ hh => ⟨hh.1, e.step hh.2⟩
            have HWd : Hid (∀ W A n cp, Ev wr W → RdI W A (l.drop 0) → n = l.length - 0 → Calls Try.prog 25 #[mk a b c, .slice A n cp] W fun e w' => e = .returned (.tuple #[.int .i64 (woV a b c (l.drop 0)).1, .int .i64 (woV a b c (l.drop 0)).2, .int .i64 0]) ∧ Ev wr w') := Lib.hid fun W A n cp e hd hn => by
              have h := Worst_any a b c A cp (l.drop 0) W hd
              rw [A2.out, show (l.drop 0).length = l.length - 0 from by rw [List.length_drop]] at h
              subst hn
              exact h.mono fun _ _ hh => ⟨hh.1, e.step hh.2⟩
            have HRd : Hid (∀ W, Ev wr W → RdI W (some ⟨g, 0, none⟩) (l.drop 0)) := Lib.hid fun W e => by
              have h := (HR.out _ (HE6.out.step e)).drop 0
              simpa using h
            have HRn : Hid (l.length ≤ 0 → ∀ W, RdI W (some ⟨g, 0, none⟩) (l.drop 0)) := Lib.hid fun hh W => by
              rw [List.drop_eq_nil_of_le hh]
              exact RdI.nil _ _
            have HS : Hid (∀ W, Ev wr W → (W.cell? ⟨w2.heap.size, 0, none⟩ = some (.int .i64 a) ∧ W.cell? ⟨w2.heap.size, 1, none⟩ = some (.int .i64 b) ∧ W.cell? ⟨w2.heap.size, 2, none⟩ = some (.int .i64 c)) ∧ Ev wr W) := Lib.hid fun W e => ⟨HB.out _ (HE6.out.step e), e⟩
            clear hev
            generalize (woV a b c l).2 = t0 at *
            generalize (woV a b c (l.take (0))).2 = t1 at *
            generalize (woV a b c (l.drop (0))).2 = t2 at *
            have hmx := HWO.out
            generalize (woV a b c l).1 = q0 at *
            generalize (woV a b c (l.take (0))).1 = q1 at *
            generalize (woV a b c (l.drop (0))).1 = q2 at *
            have HMX := Lib.hid hmx
            clear hmx
            go_wp2_with fail
            refine (HW.out _ (Ev.refl _)).mono ?_
            rintro e w6 ⟨rfl, hev⟩
            obtain ⟨x0, x1, x2⟩ := HB.out _ (HE6.out.step hev)
            have HE7 := Lib.hid hev
            go_wp2_with fail
            go_region_held3 (fun W => (W.cell? ⟨w2.heap.size, 0, none⟩ = some (.int .i64 a) ∧ W.cell? ⟨w2.heap.size, 1, none⟩ = some (.int .i64 b) ∧ W.cell? ⟨w2.heap.size, 2, none⟩ = some (.int .i64 c)) ∧ Ev wr W)
              (first | with_reducible exact HS.out _ (by with_reducible assumption) | with_reducible exact HS.out _ (Ev.drew (by with_reducible assumption)))
              (first | (go_at_call 25; refine (HWk.out _ (by first | assumption | exact Ev.drew (by with_reducible assumption))).mono ?_; clear hev; rintro e w7 ⟨rfl, hev⟩))
            clear x0 x1 x2
            obtain ⟨x0, x1, x2⟩ := HB.out _ (HE6.out.step hev)
            go_wp2_with fail
            go_region_held3 (fun W => (W.cell? ⟨w2.heap.size, 0, none⟩ = some (.int .i64 a) ∧ W.cell? ⟨w2.heap.size, 1, none⟩ = some (.int .i64 b) ∧ W.cell? ⟨w2.heap.size, 2, none⟩ = some (.int .i64 c)) ∧ Ev wr W)
              (first | with_reducible exact HS.out _ (by with_reducible assumption) | with_reducible exact HS.out _ (Ev.drew (by with_reducible assumption)))
              (first | (go_at_call 25; refine (HWd.out _ _ _ _ (by first | assumption | exact Ev.drew (by with_reducible assumption)) (HRd.out _ (by first | assumption | exact Ev.drew (by with_reducible assumption))) (by first | rfl | (simp; done) | omega)).mono ?_; clear hev; rintro e w8 ⟨rfl, hev⟩))
            have HE8 := Lib.hid (HEW.out _ (HE6.out.step hev))
            clear x0 x1 x2 hev
            rcases (show q1 < q2 ∨ q2 < q1 ∨ q1 = q2 by omega) with hq | hq | hq
            · obtain rfl : q0 = q2 := by rw [HMX.out]; omega
              go_wp2_with fail
              refine (AW.out _).mono ?_
              rintro e w9 ⟨rfl, hev⟩
              have HF := HE8.out.step hev
              clear hev
              go_wp2_with fail
              go_ret
              exact ⟨rfl, HF⟩
            · obtain rfl : q0 = q1 := by rw [HMX.out]; omega
              go_wp2_with fail
              refine (AW.out _).mono ?_
              rintro e w9 ⟨rfl, hev⟩
              have HF := HE8.out.step hev
              clear hev
              go_wp2_with fail
              go_ret
              exact ⟨rfl, HF⟩
            · subst hq
              obtain rfl : q0 = q1 := by rw [HMX.out]; omega
              go_wp2_with fail
              refine (AW.out _).mono ?_
              rintro e w9 ⟨rfl, hev⟩
              have HF := HE8.out.step hev
              clear hev
              go_wp2_with fail
              go_ret
              exact ⟨rfl, HF⟩
      · obtain ⟨m, rfl⟩ : ∃ m, k = m + 1 := ⟨k - 1, by omega⟩
        obtain ⟨b2, o2, rfl, -, c1⟩ := HB2.out.2 m (by rw [upto_length]; omega)
        rw [upto_getD _ _ _ _ (by omega)] at c1
        have m0 : 0 ≤ (m : Int) := by omega
        have m1 : (m : Int) < (m : Int) + 1 := by omega
        have m2 : 0 < (m : Int) + 1 := by omega
        obtain ⟨g1v, hg1v⟩ : ∃ g1v, gS b c l (m + 1) = g1v := ⟨_, rfl⟩
        rw [hg1v] at c1
        have HW0 := Lib.hid hg1v
        clear hg1v
        go_wp2_with fail
        have hcast : ((m : Int) + 1) = ((m + 1 : Nat) : Int) := rfl
        rw [hcast]
        clear hcast m0 m1 m2 c1
        generalize hmk : m + 1 = k at *
        clear hmk
        go_loopw [14, 15] (fun wt i wr => ∃ j : Nat, k ≤ j ∧ j ≤ l.length ∧ i = .int .i64 j ∧ wt = .bool (gS b c l j) ∧ Ev w5 wr) (fun _ i _ => l.length - (intOf i).toNat)
        case atStart => exact ⟨k, by omega, by omega, rfl, by rw [HW0.out], Ev.refl _⟩
        case round =>
          obtain ⟨j, hkj, hj, rfl, rfl, hev⟩ := hrel
          have HEV := Lib.hid hev
          have HE6 := Lib.hid (HE5.out.step hev)
          obtain ⟨x0, x1, x2⟩ := HB.out _ HE6.out
          by_cases hlt : j < l.length
          · obtain ⟨bl, ol, hq1, hbl, c1⟩ := (HR.out _ HE6.out).2 j hlt
            obtain ⟨b3, o3, hq2, hb3, c2⟩ := (HB1.out.ev hev).2 j (by rw [upto_length]; exact hlt)
            injection hq1 with hq1
            injection hq1 with e1 e2
            subst e1 e2
            injection hq2 with hq2
            injection hq2 with e1 e2
            subst e1 e2
            rw [upto_getD _ _ _ _ hlt] at c2
            have HC2 : Hid (∀ W, Ev wr W → W.cell? ⟨g1, j, none⟩ = some (.bool (gS b c l (j + 1)))) := Lib.hid fun W e => by rw [e.cell (p := ⟨g1, j, none⟩) hb3]; simpa using c2
            have hlt' : (j : Int) < (l.length : Int) := by omega
            have hj0 : 0 ≤ (j : Int) := by omega
            have HC : Hid (∀ W, Ev wr W → Calls Try.prog 13 #[mk a b c, .bool (gS b c l j), .int .i64 (l.getD j 0)] W fun e w' => e = .returned (.tuple #[.bool (gS b c l (j + 1)), .int .i64 0]) ∧ Ev wr w') := Lib.hid fun W e => (Next_good a b c (l.getD j 0) (gS b c l j) W HV.out ⟨(hLb.out _ (getD_mem hlt)).1, by have := (hLb.out _ (getD_mem hlt)).2; omega⟩).mono fun _ _ hh => ⟨hh.1, e.step hh.2⟩
            have HS : Hid (∀ W, Ev wr W → ((W.cell? ⟨w2.heap.size, 0, none⟩ = some (.int .i64 a) ∧ W.cell? ⟨w2.heap.size, 1, none⟩ = some (.int .i64 b) ∧ W.cell? ⟨w2.heap.size, 2, none⟩ = some (.int .i64 c)) ∧ W.cell? ⟨g, j, none⟩ = some (.int .i64 (l.getD j 0))) ∧ Ev wr W) := Lib.hid fun W e => ⟨⟨HB.out _ (HE6.out.step e), by rw [e.cell (p := ⟨g, j, none⟩) hbl]; simpa using c1⟩, e⟩
            generalize l.getD j 0 = x at *
            generalize hg1 : gS b c l (j + 1) = gn at *
            generalize gS b c l j = g0 at *
            have HG1 := Lib.hid hg1
            clear hg1 hev c2
            go_wp2_with fail
            have hev := Ev.refl wr
            go_region_held3 (fun W => ((W.cell? ⟨w2.heap.size, 0, none⟩ = some (.int .i64 a) ∧ W.cell? ⟨w2.heap.size, 1, none⟩ = some (.int .i64 b) ∧ W.cell? ⟨w2.heap.size, 2, none⟩ = some (.int .i64 c)) ∧ W.cell? ⟨g, j, none⟩ = some (.int .i64 x)) ∧ Ev wr W)
              (first | with_reducible exact HS.out _ (by with_reducible assumption) | with_reducible exact HS.out _ (Ev.drew (by with_reducible assumption)))
              (first | (go_at_call 13; refine (HC.out _ (by first | assumption | exact Ev.drew (by with_reducible assumption))).mono ?_; clear hev; rintro e w' ⟨rfl, hev⟩))
            have c2 := HC2.out _ hev
            have HE7 := Lib.hid (HEV.out.step hev)
            have hgn : (gn != gn) = false := by simp
            clear hev x0 x1 x2 c1
            go_wp2_with fail
            go_roundw
            case rel => exact ⟨j + 1, by omega, by omega, by go_num, by rw [HG1.out], HE7.out⟩
            case measure => simp [intOf]; omega
          · obtain rfl : j = l.length := by omega
            have hlt' : ((l.length : Int) < (l.length : Int)) = False := by simp
            have HW : Hid (∀ W, Ev wr W → Calls Try.prog 25 #[mk a b c, .slice (some ⟨g, 0, none⟩) l.length cap] W fun e w' => e = .returned (.tuple #[.int .i64 (woV a b c l).1, .int .i64 (woV a b c l).2, .int .i64 0]) ∧ Ev wr w') := Lib.hid fun W e => by
              have h := Worst_any a b c (some ⟨g, 0, none⟩) cap l W (HR.out _ (HE6.out.step e))
              rw [A0.out] at h
              exact h.mono fun _ _ hh => ⟨hh.1, e.step hh.2⟩
            have HWk : Hid (∀ W, Ev wr W → Calls Try.prog 25 #[mk a b c, .slice (some ⟨g, 0, none⟩) k cap] W fun e w' => e = .returned (.tuple #[.int .i64 (woV a b c (l.take k)).1, .int .i64 (woV a b c (l.take k)).2, .int .i64 0]) ∧ Ev wr w') := Lib.hid fun W e => by
              have h := Worst_any a b c (some ⟨g, 0, none⟩) cap (l.take k) W ((HR.out _ (HE6.out.step e)).take k hkl)
              rw [A1.out, show (l.take k).length = k from by rw [List.length_take]; omega] at h
              exact h.mono fun _ _ hh => ⟨hh.1, e.step hh.2⟩
            have HWd : Hid (∀ W A n cp, Ev wr W → RdI W A (l.drop k) → n = l.length - k → Calls Try.prog 25 #[mk a b c, .slice A n cp] W fun e w' => e = .returned (.tuple #[.int .i64 (woV a b c (l.drop k)).1, .int .i64 (woV a b c (l.drop k)).2, .int .i64 0]) ∧ Ev wr w') := Lib.hid fun W A n cp e hd hn => by
              have h := Worst_any a b c A cp (l.drop k) W hd
              rw [A2.out, show (l.drop k).length = l.length - k from by rw [List.length_drop]] at h
              subst hn
              exact h.mono fun _ _ hh => ⟨hh.1, e.step hh.2⟩
            have HRd : Hid (∀ W, Ev wr W → RdI W (some ⟨g, k, none⟩) (l.drop k)) := Lib.hid fun W e => by
              have h := (HR.out _ (HE6.out.step e)).drop k
              simpa using h
            have HRn : Hid (l.length ≤ k → ∀ W, RdI W (some ⟨g, 0, none⟩) (l.drop k)) := Lib.hid fun hh W => by
              rw [List.drop_eq_nil_of_le hh]
              exact RdI.nil _ _
            have HS : Hid (∀ W, Ev wr W → (W.cell? ⟨w2.heap.size, 0, none⟩ = some (.int .i64 a) ∧ W.cell? ⟨w2.heap.size, 1, none⟩ = some (.int .i64 b) ∧ W.cell? ⟨w2.heap.size, 2, none⟩ = some (.int .i64 c)) ∧ Ev wr W) := Lib.hid fun W e => ⟨HB.out _ (HE6.out.step e), e⟩
            clear hev
            generalize (woV a b c l).2 = t0 at *
            generalize (woV a b c (l.take (k))).2 = t1 at *
            generalize (woV a b c (l.drop (k))).2 = t2 at *
            have hmx := HWO.out
            generalize (woV a b c l).1 = q0 at *
            generalize (woV a b c (l.take (k))).1 = q1 at *
            generalize (woV a b c (l.drop (k))).1 = q2 at *
            have HMX := Lib.hid hmx
            clear hmx
            go_wp2_with fail
            refine (HW.out _ (Ev.refl _)).mono ?_
            rintro e w6 ⟨rfl, hev⟩
            obtain ⟨x0, x1, x2⟩ := HB.out _ (HE6.out.step hev)
            have HE7 := Lib.hid hev
            go_wp2_with fail
            go_region_held3 (fun W => (W.cell? ⟨w2.heap.size, 0, none⟩ = some (.int .i64 a) ∧ W.cell? ⟨w2.heap.size, 1, none⟩ = some (.int .i64 b) ∧ W.cell? ⟨w2.heap.size, 2, none⟩ = some (.int .i64 c)) ∧ Ev wr W)
              (first | with_reducible exact HS.out _ (by with_reducible assumption) | with_reducible exact HS.out _ (Ev.drew (by with_reducible assumption)))
              (first | (go_at_call 25; refine (HWk.out _ (by first | assumption | exact Ev.drew (by with_reducible assumption))).mono ?_; clear hev; rintro e w7 ⟨rfl, hev⟩))
            clear x0 x1 x2
            obtain ⟨x0, x1, x2⟩ := HB.out _ (HE6.out.step hev)
            rcases (show cap = k ∨ k < cap by omega) with hck | hck
            · subst hck
              go_wp2_with fail
              go_region_held3 (fun W => (W.cell? ⟨w2.heap.size, 0, none⟩ = some (.int .i64 a) ∧ W.cell? ⟨w2.heap.size, 1, none⟩ = some (.int .i64 b) ∧ W.cell? ⟨w2.heap.size, 2, none⟩ = some (.int .i64 c)) ∧ Ev wr W)
                (first | with_reducible exact HS.out _ (by with_reducible assumption) | with_reducible exact HS.out _ (Ev.drew (by with_reducible assumption)))
                (first | (go_at_call 25; refine (HWd.out _ _ _ _ (by first | assumption | exact Ev.drew (by with_reducible assumption)) (HRn.out (by omega) _) (by first | rfl | (simp; done) | omega)).mono ?_; clear hev; rintro e w8 ⟨rfl, hev⟩))
              have HE8 := Lib.hid (HEW.out _ (HE6.out.step hev))
              clear x0 x1 x2 hev
              rcases (show q1 < q2 ∨ q2 < q1 ∨ q1 = q2 by omega) with hq | hq | hq
              · obtain rfl : q0 = q2 := by rw [HMX.out]; omega
                go_wp2_with fail
                refine (AW.out _).mono ?_
                rintro e w9 ⟨rfl, hev⟩
                have HF := HE8.out.step hev
                clear hev
                go_wp2_with fail
                go_ret
                exact ⟨rfl, HF⟩
              · obtain rfl : q0 = q1 := by rw [HMX.out]; omega
                go_wp2_with fail
                refine (AW.out _).mono ?_
                rintro e w9 ⟨rfl, hev⟩
                have HF := HE8.out.step hev
                clear hev
                go_wp2_with fail
                go_ret
                exact ⟨rfl, HF⟩
              · subst hq
                obtain rfl : q0 = q1 := by rw [HMX.out]; omega
                go_wp2_with fail
                refine (AW.out _).mono ?_
                rintro e w9 ⟨rfl, hev⟩
                have HF := HE8.out.step hev
                clear hev
                go_wp2_with fail
                go_ret
                exact ⟨rfl, HF⟩
            · have hne : ¬ cap = k := by omega
              go_wp2_with fail
              go_region_held3 (fun W => (W.cell? ⟨w2.heap.size, 0, none⟩ = some (.int .i64 a) ∧ W.cell? ⟨w2.heap.size, 1, none⟩ = some (.int .i64 b) ∧ W.cell? ⟨w2.heap.size, 2, none⟩ = some (.int .i64 c)) ∧ Ev wr W)
                (first | with_reducible exact HS.out _ (by with_reducible assumption) | with_reducible exact HS.out _ (Ev.drew (by with_reducible assumption)))
                (first | (go_at_call 25; refine (HWd.out _ _ _ _ (by first | assumption | exact Ev.drew (by with_reducible assumption)) (HRd.out _ (by first | assumption | exact Ev.drew (by with_reducible assumption))) (by first | rfl | (simp; done) | omega)).mono ?_; clear hev; rintro e w8 ⟨rfl, hev⟩))
              have HE8 := Lib.hid (HEW.out _ (HE6.out.step hev))
              clear x0 x1 x2 hev
              rcases (show q1 < q2 ∨ q2 < q1 ∨ q1 = q2 by omega) with hq | hq | hq
              · obtain rfl : q0 = q2 := by rw [HMX.out]; omega
                go_wp2_with fail
                refine (AW.out _).mono ?_
                rintro e w9 ⟨rfl, hev⟩
                have HF := HE8.out.step hev
                clear hev
                go_wp2_with fail
                go_ret
                exact ⟨rfl, HF⟩
              · obtain rfl : q0 = q1 := by rw [HMX.out]; omega
                go_wp2_with fail
                refine (AW.out _).mono ?_
                rintro e w9 ⟨rfl, hev⟩
                have HF := HE8.out.step hev
                clear hev
                go_wp2_with fail
                go_ret
                exact ⟨rfl, HF⟩
              · subst hq
                obtain rfl : q0 = q1 := by rw [HMX.out]; omega
                go_wp2_with fail
                refine (AW.out _).mono ?_
                rintro e w9 ⟨rfl, hev⟩
                have HF := HE8.out.step hev
                clear hev
                go_wp2_with fail
                go_ret
                exact ⟨rfl, HF⟩
end Go.Proofs.Ytnlbkaabhnkkfaa
