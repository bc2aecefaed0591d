import Derived.Test.YtfiglmbnjfgdlaaDoorDF
namespace Go.Proofs.YtfiglmbnjfgdlaaDoor
open Go.RowKit
/-- the events that may come, of the first i -/
def evN (s w : Int) (i : Nat) : List Int := ((List.range i).filter (fun k : Nat => mayV s w ((k : Int) + 1))).map (fun k : Nat => (k : Int) + 1)
theorem evN_yes (s w : Int) (i : Nat) (h : mayV s w ((i : Int) + 1) = true) : evN s w (i + 1) = evN s w i ++ [(i : Int) + 1] := by
  unfold evN
  rw [List.range_succ, List.filter_append, List.map_append]
  simp only [List.filter_cons, List.filter_nil, h, if_true]
  rfl
theorem evN_no (s w : Int) (i : Nat) (h : mayV s w ((i : Int) + 1) = false) : evN s w (i + 1) = evN s w i := by
  unfold evN
  rw [List.range_succ, List.filter_append]
  simp only [List.filter_cons, List.filter_nil, h]
  simp
theorem evN_le (s w : Int) (i : Nat) : (evN s w i).length ≤ i := by
  unfold evN
  rw [List.length_map]
  exact Nat.le_trans (List.length_filter_le _ _) (by simp)
def evL (s f w : Int) : List Int := if ck s f w = 0 then evN s w 6 else []
/-- a list and an error -/
def ListQ (W : World) (L : List Int) (er : Int) (x : Ending) (w' : World) : Prop := ∃ A c, x = .returned (.tuple #[.slice A L.length c, .int .i64 er]) ∧ RdI w' A L ∧ Ev W w'
set_option maxRecDepth 100000 in
set_option maxHeartbeats 4000000 in
theorem events_any (s f w : Int) (W : World) (hT : Tab W) : Calls Tryd.prog 15 #[rd s f w] W fun x w' => ListQ W (evL s f w) (ck s f w) x w' := by
  obtain ⟨i0, hi0, hz0, hz1, hz2⟩ := info_parts info3
  have HE0 : Hid (Ev W (W.alloc (rdO s f w))) := Lib.hid (al1 _ _)
  have HB0 := Lib.hid (BoxR.new W s f w)
  have CK := Lib.hid (check_any s f w (W.alloc (rdO s f w)))
  have HT := Lib.hid (hT.ev HE0.out)
  by_cases h0 : ck s f w = 0
  · have HL : Hid (evL s f w = evN s w 6) := Lib.hid (by unfold evL; rw [if_pos h0])
    rw [h0] at CK
    rw [h0]
    have H0 := Lib.hid h0
    clear h0
    go_enter Tryd.func15, Tryd.ntmps15
    go_wp2_with fail
    refine CK.out.mono ?_
    rintro e w5 ⟨rfl, hev⟩
    have HK := Lib.hid hev
    have HE5 := Lib.hid (HE0.out.step hev)
    have HB5 := Lib.hid (HB0.out.ev hev)
    clear hev
    go_upto_region 6 with fail
    go_loopg [5, 6] 6 (fun gh v iv wr => ∃ i : Nat, gh + i = 6 ∧ iv = .int .i64 ((i : Int) + 1) ∧ OwnI wr w5.heap.size v (evN s w i) ∧ Ev w5 wr)
    case atStart => exact ⟨0, rfl, rfl, nil_own _ _, Ev.refl _⟩
    case round =>
      obtain ⟨i, hg, rfl, hown, hev⟩ := hrel
      have HG := Lib.hid hg
      have HO := Lib.hid hown
      have HV := Lib.hid hev
      clear hown hev
      by_cases h1 : i < 6
      · have h1' : (i : Int) + 1 ≤ 6 := by omega
        have hi0' : (0 : Int) ≤ (i : Int) := by omega
        have H1 := Lib.hid h1
        obtain ⟨b0, b1, b2⟩ := (HB5.out.ev HV.out).c
        have CM := (may_any s f w ((i : Int) + 1) wr ((HT.out.ev (Ev.refl _)).ev ((show Ev (W.alloc (rdO s f w)) w5 from HK.out).step HV.out)) H0.out (by omega))
        rcases hq : mayV s w ((i : Int) + 1) with _ | _
        · have HNO := Lib.hid (evN_no s w i hq)
          rw [hq] at CM
          have CM := Lib.hid CM
          clear hg h1 hq
          go_wp2_with fail
          refine CM.out.mono ?_
          rintro e w7 ⟨rfl, hev⟩
          have HO7 := Lib.hid (hev.own HO.out)
          have HV7 := Lib.hid (HV.out.step hev)
          clear hev b0 b1 b2
          go_wp2_with fail
          go_roundg (gk - 1)
          case rel => exact ⟨i + 1, by have := HG.out; have := H1.out; omega, by push_cast; rfl, by rw [HNO.out]; exact HO7.out, HV7.out⟩
          case measure => have := HG.out; have := H1.out; omega
        · have HAC := Lib.hid (evN_yes s w i hq)
          have hle := evN_le s w i
          rw [hq] at CM
          have CM := Lib.hid CM
          generalize evN s w i = L at *
          clear hg hq
          go_wp2_with fail
          refine CM.out.mono ?_
          rintro e w7 ⟨rfl, hev⟩
          have HV7 := Lib.hid (HV.out.step hev)
          have HIV : Hid (w7.ownsRow w5.heap.size 3 1 u5 L.length (IV L)) := Lib.hid (hev.own HO.out)
          have HX := Lib.hid (one_cell w7 (.int .i64 ((i : Int) + 1)) 3)
          have H5 : Hid (w5.heap.size ≤ (w7.alloc (.cells #[.int .i64 ((i : Int) + 1)] 3)).heap.size) := Lib.hid (by have := HV7.out.sz; simp; omega)
          have hm2 : L.length ≤ 6 := by omega
          clear hev b0 b1 b2 hle h1
          go_wp2_with (at_builtin; go_loud (refine wpList_append_own _ rfl (.tmp 19) (.tmp 21) 28 rfl w5.heap.size 3 i0 (.int .i64 0) 1 8 Tryd.underlying28 hi0 hz0 hz1 hz2 rfl (by decide) u5 L.length (IV L) rfl (HIV.out.alloc _) ⟨w7.heap.size, 0, none⟩ 1 1 [.int .i64 ((i : Int) + 1)] rfl rfl HX.out (by simp [Value.oneCell']) (by unfold maxLen; omega) (by omega) H5.out ?_); intro v1 w4 hown4 hg4 _)
          have HE4 : Hid (Ev w5 w4) := Lib.hid (Below.grown (HV7.out.alloc _) hg4 H5.out (fun g hg => row_ge HIV.out g hg))
          have HO4 : Hid (OwnI w4 w5.heap.size v1 (L ++ [(i : Int) + 1])) := Lib.hid (by unfold OwnI; rw [IV_app, List.length_append]; exact hown4)
          clear hown4 hg4
          go_roundg (gk - 1)
          case rel => exact ⟨i + 1, by have := HG.out; have := H1.out; omega, by push_cast; rfl, by rw [HAC.out]; exact HO4.out, HE4.out⟩
          case measure => have := HG.out; have := H1.out; omega
      · obtain rfl : i = 6 := by omega
        obtain ⟨A, c, rfl, hr⟩ := RdI.of_own HO.out (by have := evN_le s w 6; omega)
        have HR := Lib.hid hr
        clear hg h1 hr
        go_wp2_with fail
        exact bodyPost_ret (v := .tuple #[.slice A (evN s w 6).length c, .int .i64 0]) (by simp [results, Tryd.results15, go_sem]) rfl ⟨A, c, by rw [HL.out], by rw [HL.out]; exact HR.out, HE5.out.step HV.out⟩
  · have HL : Hid (evL s f w = []) := Lib.hid (by unfold evL; rw [if_neg h0])
    generalize ck s f w = er at *
    have hq : (er != 0) = true := by simpa using h0
    clear h0
    go_enter Tryd.func15, Tryd.ntmps15
    go_wp2_with fail
    refine CK.out.mono ?_
    rintro e w5 ⟨rfl, hev⟩
    have HE5 := Lib.hid (HE0.out.step hev)
    clear hev
    go_wp2_with fail
    exact bodyPost_ret (v := .tuple #[.slice none 0 0, .int .i64 er]) (by simp [results, Tryd.results15, go_sem]) rfl ⟨none, 0, by rw [HL.out]; rfl, by rw [HL.out]; exact RdI.nil _, HE5.out⟩
set_option maxRecDepth 100000 in
set_option maxHeartbeats 4000000 in
theorem revents_any (s f w : Int) (W : World) : Calls Tryd.prog 16 #[rd s f w] W fun x w' => ListQ W (evL s f w) (ck s f w) x w' := by
  obtain ⟨i0, hi0, hz0, hz1, hz2⟩ := info_parts info3
  have HE0 : Hid (Ev W (W.alloc (rdO s f w))) := Lib.hid (al1 _ _)
  have HB0 := Lib.hid (BoxR.new W s f w)
  have CK := Lib.hid (rcheck_any s f w (W.alloc (rdO s f w)))
  skip
  by_cases h0 : ck s f w = 0
  · have HL : Hid (evL s f w = evN s w 6) := Lib.hid (by unfold evL; rw [if_pos h0])
    rw [h0] at CK
    rw [h0]
    have H0 := Lib.hid h0
    clear h0
    go_enter Tryd.func16, Tryd.ntmps16
    go_wp2_with fail
    refine CK.out.mono ?_
    rintro e w5 ⟨rfl, hev⟩
    have HE5 := Lib.hid (HE0.out.step hev)
    have HB5 := Lib.hid (HB0.out.ev hev)
    clear hev
    go_upto_region 6 with fail
    go_loopg [5, 6] 6 (fun gh v iv wr => ∃ i : Nat, gh + i = 6 ∧ iv = .int .i64 ((i : Int) + 1) ∧ OwnI wr w5.heap.size v (evN s w i) ∧ Ev w5 wr)
    case atStart => exact ⟨0, rfl, rfl, nil_own _ _, Ev.refl _⟩
    case round =>
      obtain ⟨i, hg, rfl, hown, hev⟩ := hrel
      have HG := Lib.hid hg
      have HO := Lib.hid hown
      have HV := Lib.hid hev
      clear hown hev
      by_cases h1 : i < 6
      · have h1' : (i : Int) + 1 ≤ 6 := by omega
        have hi0' : (0 : Int) ≤ (i : Int) := by omega
        have H1 := Lib.hid h1
        obtain ⟨b0, b1, b2⟩ := (HB5.out.ev HV.out).c
        have CM := (allows_any s f w ((i : Int) + 1) wr H0.out (by omega))
        rcases hq : mayV s w ((i : Int) + 1) with _ | _
        · have HNO := Lib.hid (evN_no s w i hq)
          rw [hq] at CM
          have CM := Lib.hid CM
          clear hg h1 hq
          go_wp2_with fail
          refine CM.out.mono ?_
          rintro e w7 ⟨rfl, hev⟩
          have HO7 := Lib.hid (hev.own HO.out)
          have HV7 := Lib.hid (HV.out.step hev)
          clear hev b0 b1 b2
          go_wp2_with fail
          go_roundg (gk - 1)
          case rel => exact ⟨i + 1, by have := HG.out; have := H1.out; omega, by push_cast; rfl, by rw [HNO.out]; exact HO7.out, HV7.out⟩
          case measure => have := HG.out; have := H1.out; omega
        · have HAC := Lib.hid (evN_yes s w i hq)
          have hle := evN_le s w i
          rw [hq] at CM
          have CM := Lib.hid CM
          generalize evN s w i = L at *
          clear hg hq
          go_wp2_with fail
          refine CM.out.mono ?_
          rintro e w7 ⟨rfl, hev⟩
          have HV7 := Lib.hid (HV.out.step hev)
          have HIV : Hid (w7.ownsRow w5.heap.size 3 1 u5 L.length (IV L)) := Lib.hid (hev.own HO.out)
          have HX := Lib.hid (one_cell w7 (.int .i64 ((i : Int) + 1)) 3)
          have H5 : Hid (w5.heap.size ≤ (w7.alloc (.cells #[.int .i64 ((i : Int) + 1)] 3)).heap.size) := Lib.hid (by have := HV7.out.sz; simp; omega)
          have hm2 : L.length ≤ 6 := by omega
          clear hev b0 b1 b2 hle h1
          go_wp2_with (at_builtin; go_loud (refine wpList_append_own _ rfl (.tmp 19) (.tmp 21) 28 rfl w5.heap.size 3 i0 (.int .i64 0) 1 8 Tryd.underlying28 hi0 hz0 hz1 hz2 rfl (by decide) u5 L.length (IV L) rfl (HIV.out.alloc _) ⟨w7.heap.size, 0, none⟩ 1 1 [.int .i64 ((i : Int) + 1)] rfl rfl HX.out (by simp [Value.oneCell']) (by unfold maxLen; omega) (by omega) H5.out ?_); intro v1 w4 hown4 hg4 _)
          have HE4 : Hid (Ev w5 w4) := Lib.hid (Below.grown (HV7.out.alloc _) hg4 H5.out (fun g hg => row_ge HIV.out g hg))
          have HO4 : Hid (OwnI w4 w5.heap.size v1 (L ++ [(i : Int) + 1])) := Lib.hid (by unfold OwnI; rw [IV_app, List.length_append]; exact hown4)
          clear hown4 hg4
          go_roundg (gk - 1)
          case rel => exact ⟨i + 1, by have := HG.out; have := H1.out; omega, by push_cast; rfl, by rw [HAC.out]; exact HO4.out, HE4.out⟩
          case measure => have := HG.out; have := H1.out; omega
      · obtain rfl : i = 6 := by omega
        obtain ⟨A, c, rfl, hr⟩ := RdI.of_own HO.out (by have := evN_le s w 6; omega)
        have HR := Lib.hid hr
        clear hg h1 hr
        go_wp2_with fail
        exact bodyPost_ret (v := .tuple #[.slice A (evN s w 6).length c, .int .i64 0]) (by simp [results, Tryd.results16, go_sem]) rfl ⟨A, c, by rw [HL.out], by rw [HL.out]; exact HR.out, HE5.out.step HV.out⟩
  · have HL : Hid (evL s f w = []) := Lib.hid (by unfold evL; rw [if_neg h0])
    generalize ck s f w = er at *
    have hq : (er != 0) = true := by simpa using h0
    clear h0
    go_enter Tryd.func16, Tryd.ntmps16
    go_wp2_with fail
    refine CK.out.mono ?_
    rintro e w5 ⟨rfl, hev⟩
    have HE5 := Lib.hid (HE0.out.step hev)
    clear hev
    go_wp2_with fail
    exact bodyPost_ret (v := .tuple #[.slice none 0 0, .int .i64 er]) (by simp [results, Tryd.results16, go_sem]) rfl ⟨none, 0, by rw [HL.out]; rfl, by rw [HL.out]; exact RdI.nil _, HE5.out⟩
end Go.Proofs.YtfiglmbnjfgdlaaDoor
