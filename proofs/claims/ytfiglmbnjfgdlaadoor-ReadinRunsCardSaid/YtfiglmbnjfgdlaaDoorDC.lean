import Derived.Test.YtfiglmbnjfgdlaaDoorDB
import Derived.Test.YtfiglmbnjfgdlaaDoorD4
namespace Go.Proofs.YtfiglmbnjfgdlaaDoor
open Go.RowKit
def flt (l : List Int) : List Int := l.filter (fun x => x != -1)
theorem take_s (l : List Int) (i : Nat) (h : i < l.length) : l.take (i + 1) = l.take i ++ [l.getD i 0] := by
  rw [List.take_succ_eq_append_getElem h, List.getD_eq_getElem?_getD, List.getElem?_eq_getElem h]; rfl
theorem flt_yes (l : List Int) (i : Nat) (h : i < l.length) (hq : (l.getD i 0 != -1) = true) : flt (l.take (i + 1)) = flt (l.take i) ++ [l.getD i 0] := by
  unfold flt
  rw [take_s l i h, List.filter_append]
  simp only [List.filter_cons, List.filter_nil, hq, if_true]
theorem flt_no (l : List Int) (i : Nat) (h : i < l.length) (hq : (l.getD i 0 != -1) = false) : flt (l.take (i + 1)) = flt (l.take i) := by
  unfold flt
  rw [take_s l i h, List.filter_append]
  simp only [List.filter_cons, List.filter_nil, hq]
  simp
theorem flt_le (l : List Int) (i : Nat) : (flt (l.take i)).length ≤ i := by
  unfold flt
  exact Nat.le_trans (List.length_filter_le _ _) (by simp; omega)
theorem one_flt (f : Int) : flt [f] = one f := by
  rcases h : (f != -1) with _ | _
  · rw [one_no h]; unfold flt; simp only [List.filter_cons, List.filter_nil, h]; simp
  · rw [one_yes h]; unfold flt; simp only [List.filter_cons, List.filter_nil, h, if_true]
theorem IV_app (l : List Int) (x : Int) : IV (l ++ [x]) = IV l ++ [.int .i64 x] := by unfold IV; simp
set_option maxRecDepth 100000 in
set_option maxHeartbeats 4000000 in
theorem some_any (A : Option Addr) (c : Nat) (l : List Int) (w : World) (hr : RdI w A l) (hl : l.length ≤ 100) :
    Calls Tryd.prog 43 #[.slice A l.length c] w fun e w' => ∃ v, e = .returned v ∧ OwnI w' w.heap.size v (flt l) ∧ Ev w w' := by
  obtain ⟨i0, hi0, hz0, hz1, hz2⟩ := info_parts info3
  have HR := Lib.hid hr
  clear hr
  go_enter Tryd.func43, Tryd.ntmps43
  go_upto_region 3 with fail
  go_loopg [3, 4] l.length (fun gh v iv wr => ∃ i : Nat, gh + i = l.length ∧ iv = .int .i64 i ∧ OwnI wr w.heap.size v (flt (l.take i)) ∧ Ev w wr)
  case atStart => exact ⟨0, rfl, rfl, nil_own _ _, Ev.refl _⟩
  case round =>
    obtain ⟨i, hg, rfl, hown, hev⟩ := hrel
    have HG := Lib.hid hg
    have HO := Lib.hid hown
    have HV := Lib.hid hev
    clear hown hev
    by_cases h1 : i < l.length
    · have h1' : (i : Int) < (l.length : Int) := by omega
      have hi0' : (0 : Int) ≤ (i : Int) := by omega
      have hi256 : (i : Int) < 256 := by omega
      have H1 := Lib.hid h1
      obtain ⟨b, o, rfl, hb, c1⟩ := (HR.out.ev HV.out).2 i h1
      rcases hq : (l.getD i 0 != -1) with _ | _
      · have HNO := Lib.hid (flt_no l i h1 hq)
        generalize l.getD i 0 = x at *
        clear hg h1
        go_wp2_with fail
        go_roundg (gk - 1)
        case rel => exact ⟨i + 1, by have := HG.out; have := H1.out; omega, by go_num, by rw [HNO.out]; exact HO.out, HV.out⟩
        case measure => have := HG.out; have := H1.out; omega
      · have HAC := Lib.hid (flt_yes l i h1 hq)
        have hle := flt_le l i
        generalize l.getD i 0 = x at *
        generalize flt (l.take i) = L at *
        have HIV : Hid (wr.ownsRow w.heap.size 3 1 u3 L.length (IV L)) := HO
        have HX := Lib.hid (one_cell wr (.int .i64 x) 3)
        have H5 : Hid (w.heap.size ≤ (wr.alloc (.cells #[.int .i64 x] 3)).heap.size) := Lib.hid (by have := HV.out.sz; simp; omega)
        have hm2 : L.length ≤ 256 := by omega
        clear hg h1 hle
        go_wp2_with (at_builtin; go_loud (refine wpList_append_own _ rfl (.tmp 16) (.tmp 21) 28 rfl w.heap.size 3 i0 (.int .i64 0) 1 8 Tryd.underlying28 hi0 hz0 hz1 hz2 rfl (by decide) u3 L.length (IV L) rfl (HIV.out.alloc _) ⟨wr.heap.size, 0, none⟩ 1 1 [.int .i64 x] rfl rfl HX.out (by simp [Value.oneCell']) (by unfold maxLen; omega) (by omega) H5.out ?_); intro v1 w4 hown4 hg4 _)
        have HE4 : Hid (Ev w w4) := Lib.hid (Below.grown (HV.out.alloc _) hg4 H5.out (fun g hg => row_ge HIV.out g hg))
        have HO4 : Hid (OwnI w4 w.heap.size v1 (L ++ [x])) := Lib.hid (by unfold OwnI; rw [IV_app, List.length_append]; exact hown4)
        clear hown4 hg4
        go_roundg (gk - 1)
        case rel => exact ⟨i + 1, by have := HG.out; have := H1.out; omega, by go_num, by rw [HAC.out]; exact HO4.out, HE4.out⟩
        case measure => have := HG.out; have := H1.out; omega
    · obtain rfl : i = l.length := by omega
      have HQ : Hid (OwnI wr w.heap.size u3 (flt l)) := Lib.hid (by have h := HO.out; rwa [List.take_length] at h)
      clear hg h1
      go_wp2_with fail
      go_ret
      exact ⟨_, rfl, HQ.out, HV.out⟩
set_option maxRecDepth 100000 in
set_option maxHeartbeats 16000000 in
theorem rstep_bad (s f w e n er : Int) (W : World) (hE : stE s f w e n = er) (hne : (er != 0) = true) :
    Calls Tryd.prog 13 #[rd s f w, .int .i64 e, .int .i64 n] W fun x w' => x = .returned (.tuple #[rd 0 0 0, .slice none 0 0, .int .i64 0, .int .i64 er]) ∧ Ev W w' := by
  have HB := Lib.hid ((BoxR.new W s f w).al (rdO 0 0 0))
  have HR0 := BoxR.new (W.alloc (rdO s f w)) 0 0 0
  rw [World.size_alloc] at HR0
  have HR := Lib.hid HR0
  have HE : Hid (Ev W ((W.alloc (rdO s f w)).alloc (rdO 0 0 0))) := Lib.hid (((Ev.refl W).alloc _).alloc _)
  have CK := Lib.hid (rcheck_any s f w ((W.alloc (rdO s f w)).alloc (rdO 0 0 0)))
  have CF := Lib.hid fun W => risF_any n W
  unfold stE at hE
  by_cases h0 : ck s f w = 0
  · rw [if_pos h0] at hE
    rw [h0] at CK
    by_cases h1 : e < 1 ∨ 6 < e
    · have hv : er = 16 := by rw [← hE]; unfold cev; rw [if_pos h1]
      subst hv
      rcases (show e < 1 ∨ (¬ e < 1 ∧ 6 < e) by omega) with g1 | ⟨g1, g2⟩
      all_goals
        clear h1 hE h0 HR0 hne
        go_enter Tryd.func13, Tryd.ntmps13
        go_wp2_with fail
        refine CK.out.mono ?_
        rintro e w6 ⟨rfl, hev⟩
        have HE6 := Lib.hid (HE.out.step hev)
        have HB6 := Lib.hid (HB.out.ev hev)
        have HR6 := Lib.hid (HR.out.ev hev)
        clear hev
        obtain ⟨r0, r1, r2⟩ := HR6.out.c
        obtain ⟨z0, z1, z2⟩ := HR6.out.z
        have HF : Hid (Ev W (((w6.setCell ⟨W.heap.size + 1, 0, none⟩ (.int .i64 0)).setCell ⟨W.heap.size + 1, 1, none⟩ (.int .i64 0)).setCell ⟨W.heap.size + 1, 2, none⟩ (.int .i64 0))) := Lib.hid (((HE6.out.setC (by simp) _).setC (by simp) _).setC (by simp) _)
        go_wp2_with fail
        exact bodyPost_ret (v := .tuple #[rd 0 0 0, .slice none 0 0, .int .i64 0, .int .i64 16]) (by simp [results, Tryd.results13, go_sem, *]) rfl ⟨rfl, HF.out⟩
    · have hlo : 1 ≤ e := by omega
      have hhi : e ≤ 6 := by omega
      have g1 : ¬ e < 1 := by omega
      have g2 : ¬ 6 < e := by omega
      have CA := Lib.hid fun W => allows_any s f w e W h0 ⟨hlo, hhi⟩
      by_cases h2 : e = 1
      · subst h2
        rcases h3 : inF n with _ | _
        · have hv : er = 2 := by rw [← hE]; unfold cev; rw [if_neg h1, if_pos (by left; exact ⟨rfl, h3⟩)]
          subst hv
          rw [h3] at CF
          clear h1 hE h0 HR0 hne hlo hhi h3 CA
          go_enter Tryd.func13, Tryd.ntmps13
          go_wp2_with fail
          refine CK.out.mono ?_
          rintro e w6 ⟨rfl, hev⟩
          have HE6 := Lib.hid (HE.out.step hev)
          have HB6 := Lib.hid (HB.out.ev hev)
          have HR6 := Lib.hid (HR.out.ev hev)
          clear hev
          go_wp2_with fail
          refine (CF.out _).mono ?_
          rintro e wq ⟨rfl, rfl⟩
          obtain ⟨r0, r1, r2⟩ := HR6.out.c
          obtain ⟨z0, z1, z2⟩ := HR6.out.z
          have HF : Hid (Ev W (((w6.setCell ⟨W.heap.size + 1, 0, none⟩ (.int .i64 0)).setCell ⟨W.heap.size + 1, 1, none⟩ (.int .i64 0)).setCell ⟨W.heap.size + 1, 2, none⟩ (.int .i64 0))) := Lib.hid (((HE6.out.setC (by simp) _).setC (by simp) _).setC (by simp) _)
          go_wp2_with fail
          exact bodyPost_ret (v := .tuple #[rd 0 0 0, .slice none 0 0, .int .i64 0, .int .i64 2]) (by simp [results, Tryd.results13, go_sem, *]) rfl ⟨rfl, HF.out⟩
        · rcases h4 : mayV s w 1 with _ | _
          · have hv : er = 9 := by rw [← hE]; unfold cev; rw [if_neg h1, if_neg (by simp [h3]), if_pos h4]
            subst hv
            rw [h3] at CF
            rw [h4] at CA
            clear h1 hE h0 HR0 hne hlo hhi h3 h4
            go_enter Tryd.func13, Tryd.ntmps13
            go_wp2_with fail
            refine CK.out.mono ?_
            rintro e w6 ⟨rfl, hev⟩
            have HE6 := Lib.hid (HE.out.step hev)
            have HB6 := Lib.hid (HB.out.ev hev)
            have HR6 := Lib.hid (HR.out.ev hev)
            clear hev
            obtain ⟨b0, b1, b2⟩ := HB6.out.c
            go_wp2_with fail
            refine (CF.out _).mono ?_
            rintro e wq ⟨rfl, rfl⟩
            go_wp2_with fail
            refine (CA.out _).mono ?_
            rintro e w8 ⟨rfl, hev⟩
            replace HE6 := Lib.hid (HE6.out.step hev)
            replace HB6 := Lib.hid (HB6.out.ev hev)
            replace HR6 := Lib.hid (HR6.out.ev hev)
            clear hev b0 b1 b2
            obtain ⟨r0, r1, r2⟩ := HR6.out.c
            obtain ⟨z0, z1, z2⟩ := HR6.out.z
            have HF : Hid (Ev W (((w8.setCell ⟨W.heap.size + 1, 0, none⟩ (.int .i64 0)).setCell ⟨W.heap.size + 1, 1, none⟩ (.int .i64 0)).setCell ⟨W.heap.size + 1, 2, none⟩ (.int .i64 0))) := Lib.hid (((HE6.out.setC (by simp) _).setC (by simp) _).setC (by simp) _)
            go_wp2_with fail
            exact bodyPost_ret (v := .tuple #[rd 0 0 0, .slice none 0 0, .int .i64 0, .int .i64 9]) (by simp [results, Tryd.results13, go_sem, *]) rfl ⟨rfl, HF.out⟩
          · exfalso
            have hw : w = -1 := by
              unfold mayV mayB at h4
              simp at h4
              exact h4.2
            have hn : 0 ≤ n := by unfold inF at h3; exact (of_decide_eq_true h3).1
            have : er = 0 := by rw [← hE]; unfold cev; rw [if_neg h1, if_neg (by simp [h3]), if_neg (by simp [h4]), if_neg (by omega)]
            subst this
            simp at hne
      · have e1 : (e == 1) = false := by simp [h2]
        have e2 : (e != 1) = true := by simp [h2]
        by_cases h3 : n = -1
        · have n1 : (n != -1) = false := by simp [h3]
          rcases h4 : mayV s w e with _ | _
          · have hv : er = 9 := by rw [← hE]; unfold cev; rw [if_neg h1, if_neg (by simp [h2, h3]), if_pos h4]
            subst hv
            rw [h4] at CA
            clear h1 hE h0 HR0 hne hlo hhi h3 h4 h2 CF
            go_enter Tryd.func13, Tryd.ntmps13
            go_wp2_with fail
            refine CK.out.mono ?_
            rintro e w6 ⟨rfl, hev⟩
            have HE6 := Lib.hid (HE.out.step hev)
            have HB6 := Lib.hid (HB.out.ev hev)
            have HR6 := Lib.hid (HR.out.ev hev)
            clear hev
            obtain ⟨b0, b1, b2⟩ := HB6.out.c
            go_wp2_with fail
            refine (CA.out _).mono ?_
            rintro e w8 ⟨rfl, hev⟩
            replace HE6 := Lib.hid (HE6.out.step hev)
            replace HB6 := Lib.hid (HB6.out.ev hev)
            replace HR6 := Lib.hid (HR6.out.ev hev)
            clear hev b0 b1 b2
            obtain ⟨r0, r1, r2⟩ := HR6.out.c
            obtain ⟨z0, z1, z2⟩ := HR6.out.z
            have HF : Hid (Ev W (((w8.setCell ⟨W.heap.size + 1, 0, none⟩ (.int .i64 0)).setCell ⟨W.heap.size + 1, 1, none⟩ (.int .i64 0)).setCell ⟨W.heap.size + 1, 2, none⟩ (.int .i64 0))) := Lib.hid (((HE6.out.setC (by simp) _).setC (by simp) _).setC (by simp) _)
            go_wp2_with fail
            exact bodyPost_ret (v := .tuple #[rd 0 0 0, .slice none 0 0, .int .i64 0, .int .i64 9]) (by simp [results, Tryd.results13, go_sem, *]) rfl ⟨rfl, HF.out⟩
          · exfalso
            have : er = 0 := by rw [← hE]; unfold cev; rw [if_neg h1, if_neg (by simp [h2, h3]), if_neg (by simp [h4]), if_neg (by simp [h3])]
            subst this
            simp at hne
        · have n1 : (n != -1) = true := by simp [h3]
          have hv : er = 2 := by rw [← hE]; unfold cev; rw [if_neg h1, if_pos (by right; exact ⟨h2, h3⟩)]
          subst hv
          clear h1 hE h0 HR0 hne hlo hhi h3 h2 CF CA
          go_enter Tryd.func13, Tryd.ntmps13
          go_wp2_with fail
          refine CK.out.mono ?_
          rintro e w6 ⟨rfl, hev⟩
          have HE6 := Lib.hid (HE.out.step hev)
          have HB6 := Lib.hid (HB.out.ev hev)
          have HR6 := Lib.hid (HR.out.ev hev)
          clear hev
          obtain ⟨r0, r1, r2⟩ := HR6.out.c
          obtain ⟨z0, z1, z2⟩ := HR6.out.z
          have HF : Hid (Ev W (((w6.setCell ⟨W.heap.size + 1, 0, none⟩ (.int .i64 0)).setCell ⟨W.heap.size + 1, 1, none⟩ (.int .i64 0)).setCell ⟨W.heap.size + 1, 2, none⟩ (.int .i64 0))) := Lib.hid (((HE6.out.setC (by simp) _).setC (by simp) _).setC (by simp) _)
          go_wp2_with fail
          exact bodyPost_ret (v := .tuple #[rd 0 0 0, .slice none 0 0, .int .i64 0, .int .i64 2]) (by simp [results, Tryd.results13, go_sem, *]) rfl ⟨rfl, HF.out⟩
  · rw [if_neg h0] at hE
    rw [hE] at CK
    clear hE h0 HR0 CF
    go_enter Tryd.func13, Tryd.ntmps13
    go_wp2_with fail
    refine CK.out.mono ?_
    rintro e w6 ⟨rfl, hev⟩
    have HE6 := Lib.hid (HE.out.step hev)
    have HB6 := Lib.hid (HB.out.ev hev)
    have HR6 := Lib.hid (HR.out.ev hev)
    clear hev
    obtain ⟨r0, r1, r2⟩ := HR6.out.c
    obtain ⟨z0, z1, z2⟩ := HR6.out.z
    have HF : Hid (Ev W (((w6.setCell ⟨W.heap.size + 1, 0, none⟩ (.int .i64 0)).setCell ⟨W.heap.size + 1, 1, none⟩ (.int .i64 0)).setCell ⟨W.heap.size + 1, 2, none⟩ (.int .i64 0))) := Lib.hid (((HE6.out.setC (by simp) _).setC (by simp) _).setC (by simp) _)
    go_wp2_with fail
    exact bodyPost_ret (v := .tuple #[rd 0 0 0, .slice none 0 0, .int .i64 0, .int .i64 er]) (by simp [results, Tryd.results13, go_sem, *]) rfl ⟨rfl, HF.out⟩
end Go.Proofs.YtfiglmbnjfgdlaaDoor
