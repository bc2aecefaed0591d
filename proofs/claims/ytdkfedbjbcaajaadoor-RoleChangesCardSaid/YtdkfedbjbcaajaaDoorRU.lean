import Derived.Test.YtdkfedbjbcaajaaDoorRT
namespace Go.Proofs.YtdkfedbjbcaajaaDoor
open Go.RowKit

set_option maxRecDepth 100000 in
set_option maxHeartbeats 4000000 in
theorem of_any (A : Option Addr) (c : Nat) (l : List Int) (r : Int) (w : World) (hr : RdI w A l) :
    Calls Tryd.prog 25 #[.slice A l.length c, .int .i64 r] w fun e w' => ∃ v, e = .returned (.tuple #[v, .int .i64 (ofE l r)]) ∧ OwnI w' w.heap.size v (ofL l r) ∧ Ev w w' := by
  obtain ⟨i0, hi0, hz0, hz1, hz2⟩ := info_parts info3
  have HR := Lib.hid hr
  have HC := Lib.hid (check_any A c l w hr)
  have CI := Lib.hid fun W => isRole_any r W
  rcases chk_cases l with ⟨h0, hl, -⟩ | h0
  · rw [h0] at HC
    by_cases h2 : isR r = true
    · have HE0 : Hid (ofE l r = 0) := Lib.hid (by unfold ofE; rw [if_pos h0, if_pos h2])
      have HL0 : Hid (ofL l r = ofN l r l.length) := Lib.hid (by unfold ofL; rw [if_pos HE0.out])
      rw [h2] at CI
      have hl' : (l.length : Int) ≤ 256 := by omega
      clear hr hl h0 h2
      go_enter Tryd.func25, Tryd.ntmps25
      go_wp2_with fail
      refine HC.out.mono ?_
      rintro e w5 ⟨rfl, rfl⟩
      go_wp2_with fail
      refine (CI.out _).mono ?_
      rintro e w5 ⟨rfl, rfl⟩
      go_upto_region 8 with fail
      go_loopg [8, 24] l.length (fun gh v iv wr => ∃ i : Nat, gh + i = l.length ∧ iv = .int .i64 i ∧ OwnI wr w.heap.size v (ofN l r i) ∧ Ev w wr)
      case atStart => exact ⟨0, rfl, rfl, nil_own _ _, Ev.refl _⟩
      case round =>
        obtain ⟨i, hg, rfl, hown, hev⟩ := hrel
        have HG := Lib.hid hg
        have HO := Lib.hid hown
        have HV := Lib.hid hev
        clear hown hev
        by_cases h1 : i < l.length
        · have h1' : (i : Int) < (l.length : Int) := by omega
          have hi0' : (0 : Int) ≤ (i : Int) := by omega
          have hi256 : (i : Int) < 256 := by omega
          have H1 := Lib.hid h1
          obtain ⟨b, o, rfl, hb, c1⟩ := (HR.out.ev HV.out).2 i h1
          rcases hq : (l.getD i 0 == r) with _ | _
          · have HNO := Lib.hid (ofN_no l r i hq)
            generalize l.getD i 0 = x at *
            clear hg h1
            go_wp2_with fail
            go_roundg (gk - 1)
            case rel => exact ⟨i + 1, by have := HG.out; have := H1.out; omega, by go_num, by rw [HNO.out]; exact HO.out, HV.out⟩
            case measure => have := HG.out; have := H1.out; omega
          · have HAC := Lib.hid (ofN_yes l r i hq)
            have HAL := Lib.hid (ofN_yesl l r i hq)
            have hle := ofN_le l r i
            have HIV : Hid (wr.ownsRow w.heap.size 3 1 u8 (ofN l r i).length (IV (ofN l r i))) := HO
            generalize l.getD i 0 = x at *
            generalize (ofN l r i).length = m at *
            have HX := Lib.hid (one_cell wr (.int .i64 (i : Int)) 3)
            have H5 : Hid (w.heap.size ≤ (wr.alloc (.cells #[.int .i64 (i : Int)] 3)).heap.size) := Lib.hid (by have := HV.out.sz; simp; omega)
            have hm2 : m ≤ 256 := by omega
            clear hg h1 hle
            go_wp2_with (at_builtin; go_loud (refine wpList_append_own _ rfl (.tmp 32) (.tmp 34) 25 rfl w.heap.size 3 i0 (.int .i64 0) 1 8 Tryd.underlying25 hi0 hz0 hz1 hz2 rfl (by decide) u8 m (IV (ofN l r i)) rfl (HIV.out.alloc _) ⟨wr.heap.size, 0, none⟩ 1 1 [.int .i64 (i : Int)] rfl rfl HX.out (by simp [Value.oneCell']) (by unfold maxLen; omega) (by omega) H5.out ?_); intro v1 w4 hown4 hg4 _)
            have HE4 : Hid (Ev w w4) := Lib.hid (Below.grown (HV.out.alloc _) hg4 H5.out (fun g hg => row_ge HIV.out g hg))
            have HO4 : Hid (OwnI w4 w.heap.size v1 (ofN l r (i + 1))) := Lib.hid (by unfold OwnI; rw [HAL.out, HAC.out]; exact hown4)
            clear hown4 hg4
            go_roundg (gk - 1)
            case rel => exact ⟨i + 1, by have := HG.out; have := H1.out; omega, by go_num, HO4.out, HE4.out⟩
            case measure => have := HG.out; have := H1.out; omega
        · obtain rfl : i = l.length := by omega
          clear hg h1
          go_wp2_with fail
          exact bodyPost_ret (v := .tuple #[u8, .int .i64 0]) (by simp [results, Tryd.results25, go_sem]) rfl ⟨_, by rw [HE0.out], by rw [HL0.out]; exact HO.out, HV.out⟩
    · have h2 : isR r = false := by simpa using h2
      have HE0 : Hid (ofE l r = 14) := Lib.hid (by unfold ofE; rw [if_pos h0, if_neg (by simp [h2])])
      have HL0 : Hid (ofL l r = []) := Lib.hid (by unfold ofL; rw [if_neg (by rw [HE0.out]; decide)])
      rw [h2] at CI
      clear hr hl h0 h2
      go_enter Tryd.func25, Tryd.ntmps25
      go_wp2_with fail
      refine HC.out.mono ?_
      rintro e w5 ⟨rfl, rfl⟩
      go_wp2_with fail
      refine (CI.out _).mono ?_
      rintro e w5 ⟨rfl, rfl⟩
      go_wp2_with fail
      exact bodyPost_ret (v := .tuple #[.slice none 0 0, .int .i64 14]) (by simp [results, Tryd.results25, go_sem]) rfl ⟨_, by rw [HE0.out], by rw [HL0.out]; exact nil_own _ _, Ev.refl _⟩
  · have HE0 : Hid (ofE l r = (chkV l).1) := Lib.hid (by unfold ofE; rw [if_neg h0])
    have HL0 : Hid (ofL l r = []) := Lib.hid (by unfold ofL; rw [if_neg (by rw [HE0.out]; exact h0)])
    generalize (chkV l).1 = er at *
    generalize (chkV l).2 = er2 at *
    have hq : (er != 0) = true := by simpa using h0
    have hq2 : (er == 0) = false := by simpa using h0
    clear hr h0
    go_enter Tryd.func25, Tryd.ntmps25
    go_wp2_with fail
    refine HC.out.mono ?_
    rintro e w5 ⟨rfl, rfl⟩
    go_wp2_with fail
    exact bodyPost_ret (v := .tuple #[.slice none 0 0, .int .i64 er]) (by simp [results, Tryd.results25, go_sem]) rfl ⟨_, by rw [HE0.out], by rw [HL0.out]; exact nil_own _ _, Ev.refl _⟩

set_option maxRecDepth 100000 in
set_option maxHeartbeats 4000000 in
theorem rof_any (A : Option Addr) (c : Nat) (l : List Int) (r : Int) (w : World) (hr : RdI w A l) :
    Calls Tryd.prog 26 #[.slice A l.length c, .int .i64 r] w fun e w' => ∃ v, e = .returned (.tuple #[v, .int .i64 (ofE l r)]) ∧ OwnI w' w.heap.size v (ofL l r) ∧ Ev w w' := by
  obtain ⟨i0, hi0, hz0, hz1, hz2⟩ := info_parts info3
  have HR := Lib.hid hr
  have HC := Lib.hid (rcheck_any A c l w hr)
  have CI := Lib.hid fun W => is_any r W
  rcases chk_cases l with ⟨h0, hl, -⟩ | h0
  · rw [h0] at HC
    by_cases h2 : isR r = true
    · have HE0 : Hid (ofE l r = 0) := Lib.hid (by unfold ofE; rw [if_pos h0, if_pos h2])
      have HL0 : Hid (ofL l r = ofN l r l.length) := Lib.hid (by unfold ofL; rw [if_pos HE0.out])
      rw [h2] at CI
      have hl' : (l.length : Int) ≤ 256 := by omega
      clear hr hl h0 h2
      go_enter Tryd.func26, Tryd.ntmps26
      go_wp2_with fail
      refine HC.out.mono ?_
      rintro e w5 ⟨rfl, rfl⟩
      go_wp2_with fail
      refine (CI.out _).mono ?_
      rintro e w5 ⟨rfl, rfl⟩
      go_upto_region 8 with fail
      go_loopg [8, 9] l.length (fun gh v iv wr => ∃ i : Nat, gh + i = l.length ∧ iv = .int .i64 i ∧ OwnI wr w.heap.size v (ofN l r i) ∧ Ev w wr)
      case atStart => exact ⟨0, rfl, rfl, nil_own _ _, Ev.refl _⟩
      case round =>
        obtain ⟨i, hg, rfl, hown, hev⟩ := hrel
        have HG := Lib.hid hg
        have HO := Lib.hid hown
        have HV := Lib.hid hev
        clear hown hev
        by_cases h1 : i < l.length
        · have h1' : (i : Int) < (l.length : Int) := by omega
          have hi0' : (0 : Int) ≤ (i : Int) := by omega
          have hi256 : (i : Int) < 256 := by omega
          have H1 := Lib.hid h1
          obtain ⟨b, o, rfl, hb, c1⟩ := (HR.out.ev HV.out).2 i h1
          rcases hq : (l.getD i 0 == r) with _ | _
          · have HNO := Lib.hid (ofN_no l r i hq)
            generalize l.getD i 0 = x at *
            clear hg h1
            go_wp2_with fail
            go_roundg (gk - 1)
            case rel => exact ⟨i + 1, by have := HG.out; have := H1.out; omega, by go_num, by rw [HNO.out]; exact HO.out, HV.out⟩
            case measure => have := HG.out; have := H1.out; omega
          · have HAC := Lib.hid (ofN_yes l r i hq)
            have HAL := Lib.hid (ofN_yesl l r i hq)
            have hle := ofN_le l r i
            have HIV : Hid (wr.ownsRow w.heap.size 3 1 u8 (ofN l r i).length (IV (ofN l r i))) := HO
            generalize l.getD i 0 = x at *
            generalize (ofN l r i).length = m at *
            have HX := Lib.hid (one_cell wr (.int .i64 (i : Int)) 3)
            have H5 : Hid (w.heap.size ≤ (wr.alloc (.cells #[.int .i64 (i : Int)] 3)).heap.size) := Lib.hid (by have := HV.out.sz; simp; omega)
            have hm2 : m ≤ 256 := by omega
            clear hg h1 hle
            go_wp2_with (at_builtin; go_loud (refine wpList_append_own _ rfl (.tmp 37) (.tmp 39) 25 rfl w.heap.size 3 i0 (.int .i64 0) 1 8 Tryd.underlying25 hi0 hz0 hz1 hz2 rfl (by decide) u8 m (IV (ofN l r i)) rfl (HIV.out.alloc _) ⟨wr.heap.size, 0, none⟩ 1 1 [.int .i64 (i : Int)] rfl rfl HX.out (by simp [Value.oneCell']) (by unfold maxLen; omega) (by omega) H5.out ?_); intro v1 w4 hown4 hg4 _)
            have HE4 : Hid (Ev w w4) := Lib.hid (Below.grown (HV.out.alloc _) hg4 H5.out (fun g hg => row_ge HIV.out g hg))
            have HO4 : Hid (OwnI w4 w.heap.size v1 (ofN l r (i + 1))) := Lib.hid (by unfold OwnI; rw [HAL.out, HAC.out]; exact hown4)
            clear hown4 hg4
            go_roundg (gk - 1)
            case rel => exact ⟨i + 1, by have := HG.out; have := H1.out; omega, by go_num, HO4.out, HE4.out⟩
            case measure => have := HG.out; have := H1.out; omega
        · obtain rfl : i = l.length := by omega
          clear hg h1
          go_wp2_with fail
          exact bodyPost_ret (v := .tuple #[u8, .int .i64 0]) (by simp [results, Tryd.results26, go_sem]) rfl ⟨_, by rw [HE0.out], by rw [HL0.out]; exact HO.out, HV.out⟩
    · have h2 : isR r = false := by simpa using h2
      have HE0 : Hid (ofE l r = 14) := Lib.hid (by unfold ofE; rw [if_pos h0, if_neg (by simp [h2])])
      have HL0 : Hid (ofL l r = []) := Lib.hid (by unfold ofL; rw [if_neg (by rw [HE0.out]; decide)])
      rw [h2] at CI
      clear hr hl h0 h2
      go_enter Tryd.func26, Tryd.ntmps26
      go_wp2_with fail
      refine HC.out.mono ?_
      rintro e w5 ⟨rfl, rfl⟩
      go_wp2_with fail
      refine (CI.out _).mono ?_
      rintro e w5 ⟨rfl, rfl⟩
      go_wp2_with fail
      exact bodyPost_ret (v := .tuple #[.slice none 0 0, .int .i64 14]) (by simp [results, Tryd.results26, go_sem]) rfl ⟨_, by rw [HE0.out], by rw [HL0.out]; exact nil_own _ _, Ev.refl _⟩
  · have HE0 : Hid (ofE l r = (chkV l).1) := Lib.hid (by unfold ofE; rw [if_neg h0])
    have HL0 : Hid (ofL l r = []) := Lib.hid (by unfold ofL; rw [if_neg (by rw [HE0.out]; exact h0)])
    generalize (chkV l).1 = er at *
    generalize (chkV l).2 = er2 at *
    have hq : (er != 0) = true := by simpa using h0
    have hq2 : (er == 0) = false := by simpa using h0
    clear hr h0
    go_enter Tryd.func26, Tryd.ntmps26
    go_wp2_with fail
    refine HC.out.mono ?_
    rintro e w5 ⟨rfl, rfl⟩
    go_wp2_with fail
    exact bodyPost_ret (v := .tuple #[.slice none 0 0, .int .i64 er]) (by simp [results, Tryd.results26, go_sem]) rfl ⟨_, by rw [HE0.out], by rw [HL0.out]; exact nil_own _ _, Ev.refl _⟩
end Go.Proofs.YtdkfedbjbcaajaaDoor
