import Derived.Test.YtfiglmbnjfgdlaaDoorDG
namespace Go.Proofs.YtfiglmbnjfgdlaaDoor
open Go.RowKit
/-- the shortest way to the page -/
def shL (s w : Int) : List Int := if s = 3 then [5] else if s = 4 then [4] else if s ≠ 1 ∧ s ≠ 2 then [] else if w ≠ -1 then [2, 4] else if s = 2 then [3, 5] else [1, 3, 5]
theorem shL_len (s w : Int) : (shL s w).length ≤ 3 := by unfold shL; repeat' split
                                                         all_goals simp
/-- a list alone -/
def ListO (W : World) (L : List Int) (x : Ending) (w' : World) : Prop := ∃ A c, x = .returned (.slice A L.length c) ∧ RdI w' A L ∧ Ev W w'
theorem lit_o (W : World) (s f w : Int) (cs : Array Value) (L : List Int) (c : Nat) (h : cs = (L.map (Value.int .i64)).toArray) (hl : L.length ≤ 100) : ListO W L (.returned (.slice (some ⟨W.heap.size + 1, 0, none⟩) L.length c)) ((W.alloc (rdO s f w)).alloc (.cells cs 3)) := by
  refine ⟨_, _, rfl, ?_, ((Ev.refl W).alloc _).alloc _⟩
  have := RdI.lit (W.alloc (rdO s f w)) cs 3 L h (by omega)
  rwa [World.size_alloc] at this
set_option maxRecDepth 100000 in
set_option maxHeartbeats 8000000 in
theorem short_any (s f w : Int) (W : World) : Calls Tryd.prog 45 #[rd s f w] W fun x w' => ListO W (shL s w) x w' := by
  rcases (show s = 3 ∨ s = 4 ∨ s = 1 ∨ s = 2 ∨ (s ≠ 3 ∧ s ≠ 4 ∧ s ≠ 1 ∧ s ≠ 2) by omega) with rfl | rfl | rfl | rfl | ⟨s3, s4, s1, s2⟩
  · have H := Lib.hid (lit_o W 3 f w #[.int .i64 5] [5] 1 rfl (by decide))
    go_enter Tryd.func45, Tryd.ntmps45
    go_wp2_with fail
    go_ret
    exact H.out
  · have H := Lib.hid (lit_o W 4 f w #[.int .i64 4] [4] 1 rfl (by decide))
    go_enter Tryd.func45, Tryd.ntmps45
    go_wp2_with fail
    go_ret
    exact H.out
  · rcases hb : (w != -1) with _ | _
    · have HV : Hid (shL 1 w = [1, 3, 5]) := Lib.hid (by unfold shL; simp only [bne_eq_false_iff_eq] at hb; subst hb; rfl)
      have H := Lib.hid (lit_o W 1 f w #[.int .i64 1, .int .i64 3, .int .i64 5] [1, 3, 5] 3 rfl (by decide))
      rw [HV.out]
      go_enter Tryd.func45, Tryd.ntmps45
      go_wp2_with fail
      go_ret
      exact H.out
    · have HV : Hid (shL 1 w = [2, 4]) := Lib.hid (by unfold shL; rw [if_neg (by decide), if_neg (by decide), if_neg (by decide), if_pos (by simpa using hb)])
      have H := Lib.hid (lit_o W 1 f w #[.int .i64 2, .int .i64 4] [2, 4] 2 rfl (by decide))
      rw [HV.out]
      go_enter Tryd.func45, Tryd.ntmps45
      go_wp2_with fail
      go_ret
      exact H.out
  · rcases hb : (w != -1) with _ | _
    · have HV : Hid (shL 2 w = [3, 5]) := Lib.hid (by unfold shL; simp only [bne_eq_false_iff_eq] at hb; subst hb; rfl)
      have H := Lib.hid (lit_o W 2 f w #[.int .i64 3, .int .i64 5] [3, 5] 2 rfl (by decide))
      rw [HV.out]
      go_enter Tryd.func45, Tryd.ntmps45
      go_wp2_with fail
      go_ret
      exact H.out
    · have HV : Hid (shL 2 w = [2, 4]) := Lib.hid (by unfold shL; rw [if_neg (by decide), if_neg (by decide), if_neg (by decide), if_pos (by simpa using hb)])
      have H := Lib.hid (lit_o W 2 f w #[.int .i64 2, .int .i64 4] [2, 4] 2 rfl (by decide))
      rw [HV.out]
      go_enter Tryd.func45, Tryd.ntmps45
      go_wp2_with fail
      go_ret
      exact H.out
  · have HV : Hid (shL s w = []) := Lib.hid (by unfold shL; rw [if_neg s3, if_neg s4, if_pos ⟨s1, s2⟩])
    rw [HV.out]
    have e1 : (s == 3) = false := by simp [s3]
    have e2 : (s == 4) = false := by simp [s4]
    have e3 : (s != 1) = true := by simp [s1]
    have e4 : (s != 2) = true := by simp [s2]
    have H : Hid (ListO W [] (.returned (.slice none 0 0)) (W.alloc (rdO s f w))) := Lib.hid ⟨none, 0, rfl, RdI.nil _, al1 _ _⟩
    clear s1 s2 s3 s4
    go_enter Tryd.func45, Tryd.ntmps45
    go_wp2_with fail
    go_ret
    exact H.out
def ndV (s f w : Int) : Int := if ck s f w = 0 then ((shL s w).length : Int) else 0
set_option maxRecDepth 100000 in
set_option maxHeartbeats 4000000 in
theorem needs_any (s f w : Int) (W : World) : Calls Tryd.prog 17 #[rd s f w] W fun x w' => x = .returned (.tuple #[.int .i64 (ndV s f w), .int .i64 (ck s f w)]) ∧ Ev W w' := by
  have HE0 : Hid (Ev W (W.alloc (rdO s f w))) := Lib.hid (al1 _ _)
  have HB0 := Lib.hid (BoxR.new W s f w)
  have CK := Lib.hid (check_any s f w (W.alloc (rdO s f w)))
  have CS := Lib.hid fun W => short_any s f w W
  unfold ndV
  by_cases h0 : ck s f w = 0
  · rw [if_pos h0, h0]
    rw [h0] at CK
    generalize shL s w = L at *
    clear h0
    go_enter Tryd.func17, Tryd.ntmps17
    go_wp2_with fail
    refine CK.out.mono ?_
    rintro e w5 ⟨rfl, hev⟩
    have HE5 := Lib.hid (HE0.out.step hev)
    obtain ⟨b0, b1, b2⟩ := (HB0.out.ev hev).c
    clear hev
    go_wp2_with fail
    refine (CS.out _).mono ?_
    rintro e w6 ⟨A, c, rfl, hr, hev⟩
    have HE6 := Lib.hid (HE5.out.step hev)
    clear hr hev b0 b1 b2
    go_wp2_with fail
    exact bodyPost_ret (v := .tuple #[.int .i64 (L.length : Int), .int .i64 0]) (by simp [results, Tryd.results17, go_sem]) rfl ⟨rfl, HE6.out⟩
  · rw [if_neg h0]
    generalize ck s f w = er at *
    have hq : (er != 0) = true := by simpa using h0
    clear h0
    go_enter Tryd.func17, Tryd.ntmps17
    go_wp2_with fail
    refine CK.out.mono ?_
    rintro e w5 ⟨rfl, hev⟩
    have HE5 := Lib.hid (HE0.out.step hev)
    clear hev
    go_wp2_with fail
    exact bodyPost_ret (v := .tuple #[.int .i64 0, .int .i64 er]) (by simp [results, Tryd.results17, go_sem]) rfl ⟨rfl, HE5.out⟩
set_option maxRecDepth 100000 in
set_option maxHeartbeats 8000000 in
theorem rneeds_any (s f w : Int) (W : World) : Calls Tryd.prog 18 #[rd s f w] W fun x w' => x = .returned (.tuple #[.int .i64 (ndV s f w), .int .i64 (ck s f w)]) ∧ Ev W w' := by
  have HE0 : Hid (Ev W (W.alloc (rdO s f w))) := Lib.hid (al1 _ _)
  have HB0 := Lib.hid (BoxR.new W s f w)
  have CK := Lib.hid (rcheck_any s f w (W.alloc (rdO s f w)))
  unfold ndV
  by_cases h0 : ck s f w = 0
  · rw [if_pos h0, h0]
    rw [h0] at CK
    rcases ck_sw s f w h0 with ⟨rfl, hb⟩ | ⟨rfl, hb⟩ | ⟨rfl, hb⟩ | ⟨rfl, hb⟩ | ⟨rfl, hb⟩ | ⟨rfl, hb⟩ | ⟨rfl, hb⟩ | ⟨rfl, hb⟩ | ⟨rfl, hb⟩ | ⟨rfl, hb⟩ | ⟨rfl, hb⟩
    · have HV : Hid ((shL 1 w).length = 3) := Lib.hid (by unfold shL; have h := hb; simp only [bne_eq_false_iff_eq] at h; subst h; rfl)
      have hb2 : (w == -1) = true := by have h := hb; have h : w = -1 := (by simpa using h); simp [h]
      clear h0
      go_enter Tryd.func18, Tryd.ntmps18
      go_wp2_with fail
      refine CK.out.mono ?_
      rintro e w5 ⟨rfl, hev⟩
      have HE5 := Lib.hid (HE0.out.step hev)
      obtain ⟨b0, b1, b2⟩ := (HB0.out.ev hev).c
      clear hev
      go_wp2_with fail
      exact bodyPost_ret (v := .tuple #[.int .i64 3, .int .i64 0]) (by simp [results, Tryd.results18, go_sem]) rfl ⟨by rw [HV.out]; rfl, HE5.out⟩
    · have HV : Hid ((shL 1 w).length = 2) := Lib.hid (by unfold shL; have h := hb; have h : w ≠ -1 := (by simpa using h); simp [h])
      have hb2 : (w == -1) = false := by have h := hb; have h : w ≠ -1 := (by simpa using h); simp [h]
      clear h0
      go_enter Tryd.func18, Tryd.ntmps18
      go_wp2_with fail
      refine CK.out.mono ?_
      rintro e w5 ⟨rfl, hev⟩
      have HE5 := Lib.hid (HE0.out.step hev)
      obtain ⟨b0, b1, b2⟩ := (HB0.out.ev hev).c
      clear hev
      go_wp2_with fail
      exact bodyPost_ret (v := .tuple #[.int .i64 2, .int .i64 0]) (by simp [results, Tryd.results18, go_sem]) rfl ⟨by rw [HV.out]; rfl, HE5.out⟩
    · have HV : Hid ((shL 2 w).length = 2) := Lib.hid (by unfold shL; have h := hb; simp only [bne_eq_false_iff_eq] at h; subst h; rfl)
      have hb2 : (w == -1) = true := by have h := hb; have h : w = -1 := (by simpa using h); simp [h]
      clear h0
      go_enter Tryd.func18, Tryd.ntmps18
      go_wp2_with fail
      refine CK.out.mono ?_
      rintro e w5 ⟨rfl, hev⟩
      have HE5 := Lib.hid (HE0.out.step hev)
      obtain ⟨b0, b1, b2⟩ := (HB0.out.ev hev).c
      clear hev
      go_wp2_with fail
      exact bodyPost_ret (v := .tuple #[.int .i64 2, .int .i64 0]) (by simp [results, Tryd.results18, go_sem]) rfl ⟨by rw [HV.out]; rfl, HE5.out⟩
    · have HV : Hid ((shL 2 w).length = 2) := Lib.hid (by unfold shL; have h := hb; have h : w ≠ -1 := (by simpa using h); simp [h])
      have hb2 : (w == -1) = false := by have h := hb; have h : w ≠ -1 := (by simpa using h); simp [h]
      clear h0
      go_enter Tryd.func18, Tryd.ntmps18
      go_wp2_with fail
      refine CK.out.mono ?_
      rintro e w5 ⟨rfl, hev⟩
      have HE5 := Lib.hid (HE0.out.step hev)
      obtain ⟨b0, b1, b2⟩ := (HB0.out.ev hev).c
      clear hev
      go_wp2_with fail
      exact bodyPost_ret (v := .tuple #[.int .i64 2, .int .i64 0]) (by simp [results, Tryd.results18, go_sem]) rfl ⟨by rw [HV.out]; rfl, HE5.out⟩
    · have HV : Hid ((shL 3 w).length = 1) := Lib.hid (by unfold shL; have h := hb; simp only [bne_eq_false_iff_eq] at h; subst h; rfl)
      have hb2 : (w == -1) = true := by have h := hb; have h : w = -1 := (by simpa using h); simp [h]
      clear h0
      go_enter Tryd.func18, Tryd.ntmps18
      go_wp2_with fail
      refine CK.out.mono ?_
      rintro e w5 ⟨rfl, hev⟩
      have HE5 := Lib.hid (HE0.out.step hev)
      obtain ⟨b0, b1, b2⟩ := (HB0.out.ev hev).c
      clear hev
      go_wp2_with fail
      exact bodyPost_ret (v := .tuple #[.int .i64 1, .int .i64 0]) (by simp [results, Tryd.results18, go_sem]) rfl ⟨by rw [HV.out]; rfl, HE5.out⟩
    · have HV : Hid ((shL 4 w).length = 1) := Lib.hid (by unfold shL; have h := hb; clear h; simp)
      have hb2 : (w == -1) = false := by have h := hb; have h : w ≠ -1 := (by simpa using h); simp [h]
      clear h0
      go_enter Tryd.func18, Tryd.ntmps18
      go_wp2_with fail
      refine CK.out.mono ?_
      rintro e w5 ⟨rfl, hev⟩
      have HE5 := Lib.hid (HE0.out.step hev)
      obtain ⟨b0, b1, b2⟩ := (HB0.out.ev hev).c
      clear hev
      go_wp2_with fail
      exact bodyPost_ret (v := .tuple #[.int .i64 1, .int .i64 0]) (by simp [results, Tryd.results18, go_sem]) rfl ⟨by rw [HV.out]; rfl, HE5.out⟩
    · have HV : Hid ((shL 5 w).length = 0) := Lib.hid (by unfold shL; have h := hb; simp only [bne_eq_false_iff_eq] at h; subst h; rfl)
      have hb2 : (w == -1) = true := by have h := hb; have h : w = -1 := (by simpa using h); simp [h]
      clear h0
      go_enter Tryd.func18, Tryd.ntmps18
      go_wp2_with fail
      refine CK.out.mono ?_
      rintro e w5 ⟨rfl, hev⟩
      have HE5 := Lib.hid (HE0.out.step hev)
      obtain ⟨b0, b1, b2⟩ := (HB0.out.ev hev).c
      clear hev
      go_wp2_with fail
      exact bodyPost_ret (v := .tuple #[.int .i64 0, .int .i64 0]) (by simp [results, Tryd.results18, go_sem]) rfl ⟨by rw [HV.out]; rfl, HE5.out⟩
    · have HV : Hid ((shL 6 w).length = 0) := Lib.hid (by unfold shL; have h := hb; simp only [bne_eq_false_iff_eq] at h; subst h; rfl)
      have hb2 : (w == -1) = true := by have h := hb; have h : w = -1 := (by simpa using h); simp [h]
      clear h0
      go_enter Tryd.func18, Tryd.ntmps18
      go_wp2_with fail
      refine CK.out.mono ?_
      rintro e w5 ⟨rfl, hev⟩
      have HE5 := Lib.hid (HE0.out.step hev)
      obtain ⟨b0, b1, b2⟩ := (HB0.out.ev hev).c
      clear hev
      go_wp2_with fail
      exact bodyPost_ret (v := .tuple #[.int .i64 0, .int .i64 0]) (by simp [results, Tryd.results18, go_sem]) rfl ⟨by rw [HV.out]; rfl, HE5.out⟩
    · have HV : Hid ((shL 7 w).length = 0) := Lib.hid (by unfold shL; have h := hb; simp only [bne_eq_false_iff_eq] at h; subst h; rfl)
      have hb2 : (w == -1) = true := by have h := hb; have h : w = -1 := (by simpa using h); simp [h]
      clear h0
      go_enter Tryd.func18, Tryd.ntmps18
      go_wp2_with fail
      refine CK.out.mono ?_
      rintro e w5 ⟨rfl, hev⟩
      have HE5 := Lib.hid (HE0.out.step hev)
      obtain ⟨b0, b1, b2⟩ := (HB0.out.ev hev).c
      clear hev
      go_wp2_with fail
      exact bodyPost_ret (v := .tuple #[.int .i64 0, .int .i64 0]) (by simp [results, Tryd.results18, go_sem]) rfl ⟨by rw [HV.out]; rfl, HE5.out⟩
    · have HV : Hid ((shL 7 w).length = 0) := Lib.hid (by unfold shL; have h := hb; clear h; simp)
      have hb2 : (w == -1) = false := by have h := hb; have h : w ≠ -1 := (by simpa using h); simp [h]
      clear h0
      go_enter Tryd.func18, Tryd.ntmps18
      go_wp2_with fail
      refine CK.out.mono ?_
      rintro e w5 ⟨rfl, hev⟩
      have HE5 := Lib.hid (HE0.out.step hev)
      obtain ⟨b0, b1, b2⟩ := (HB0.out.ev hev).c
      clear hev
      go_wp2_with fail
      exact bodyPost_ret (v := .tuple #[.int .i64 0, .int .i64 0]) (by simp [results, Tryd.results18, go_sem]) rfl ⟨by rw [HV.out]; rfl, HE5.out⟩
    · have HV : Hid ((shL 8 w).length = 0) := Lib.hid (by unfold shL; have h := hb; simp only [bne_eq_false_iff_eq] at h; subst h; rfl)
      have hb2 : (w == -1) = true := by have h := hb; have h : w = -1 := (by simpa using h); simp [h]
      clear h0
      go_enter Tryd.func18, Tryd.ntmps18
      go_wp2_with fail
      refine CK.out.mono ?_
      rintro e w5 ⟨rfl, hev⟩
      have HE5 := Lib.hid (HE0.out.step hev)
      obtain ⟨b0, b1, b2⟩ := (HB0.out.ev hev).c
      clear hev
      go_wp2_with fail
      exact bodyPost_ret (v := .tuple #[.int .i64 0, .int .i64 0]) (by simp [results, Tryd.results18, go_sem]) rfl ⟨by rw [HV.out]; rfl, HE5.out⟩
  · rw [if_neg h0]
    generalize ck s f w = er at *
    have hq : (er != 0) = true := by simpa using h0
    clear h0
    go_enter Tryd.func18, Tryd.ntmps18
    go_wp2_with fail
    refine CK.out.mono ?_
    rintro e w5 ⟨rfl, hev⟩
    have HE5 := Lib.hid (HE0.out.step hev)
    clear hev
    go_wp2_with fail
    exact bodyPost_ret (v := .tuple #[.int .i64 0, .int .i64 er]) (by simp [results, Tryd.results18, go_sem]) rfl ⟨rfl, HE5.out⟩
end Go.Proofs.YtfiglmbnjfgdlaaDoor
