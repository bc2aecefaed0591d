import Derived.Test.YtfiglmbnjfgdlaaDoorDH
namespace Go.Proofs.YtfiglmbnjfgdlaaDoor
open Go.RowKit
def seL (s f w : Int) : List Int := if ck s f w = 0 then shL s w else []
def seE (s f w : Int) : Int := if ck s f w = 0 then (if shL s w = [] ∧ s ≠ 5 then 9 else 0) else ck s f w
theorem seL_len (s f w : Int) : (seL s f w).length ≤ 3 := by unfold seL; split; exact shL_len _ _; simp
theorem shL_v (s w : Int) (b : Bool) (hb : (w != -1) = b) : shL s w = if s = 3 then [5] else if s = 4 then [4] else if s ≠ 1 ∧ s ≠ 2 then [] else if b = true then [2, 4] else if s = 2 then [3, 5] else [1, 3, 5] := by
  unfold shL
  subst hb
  simp only [bne_iff_ne]
set_option maxRecDepth 100000 in
set_option maxHeartbeats 8000000 in
theorem shortest_any (s f w : Int) (W : World) : Calls Tryd.prog 26 #[rd s f w] W fun x w' => ListQ W (seL s f w) (seE s f w) x w' := by
  have HE0 : Hid (Ev W (W.alloc (rdO s f w))) := Lib.hid (al1 _ _)
  have HB0 := Lib.hid (BoxR.new W s f w)
  have CK := Lib.hid (check_any s f w (W.alloc (rdO s f w)))
  have CS := Lib.hid fun W => short_any s f w W
  by_cases h0 : ck s f w = 0
  · rw [h0] at CK
    have HL : Hid (seL s f w = shL s w) := Lib.hid (by unfold seL; rw [if_pos h0])
    have HX : Hid (seE s f w = if shL s w = [] ∧ s ≠ 5 then 9 else 0) := Lib.hid (by unfold seE; rw [if_pos h0])
    have hl3 := shL_len s w
    generalize shL s w = L at *
    clear h0
    by_cases h1 : L = []
    · subst h1
      rcases h5 : (s != 5) with _ | _
      · have HV : Hid (seE s f w = 0) := Lib.hid (by rw [HX.out, if_neg (by rintro ⟨-, h⟩; simp [h] at h5)])
        go_enter Tryd.func26, Tryd.ntmps26
        go_wp2_with fail
        refine CK.out.mono ?_
        rintro e w5 ⟨rfl, hev⟩
        have HE5 := Lib.hid (HE0.out.step hev)
        have HB5 := Lib.hid (HB0.out.ev hev)
        clear hev
        obtain ⟨b0, b1, b2⟩ := HB5.out.c
        go_wp2_with fail
        refine (CS.out _).mono ?_
        rintro e w6 ⟨A, c, rfl, hr, hev⟩
        have HE6 := Lib.hid (HE5.out.step hev)
        have HR6 := Lib.hid hr
        have HB6 := Lib.hid (HB5.out.ev hev)
        clear hr hev b0 b1 b2
        obtain ⟨b0, b1, b2⟩ := HB6.out.c
        go_wp2_with fail
        exact bodyPost_ret (v := .tuple #[.slice A 0 c, .int .i64 0]) (by simp [results, Tryd.results26, go_sem]) rfl ⟨A, c, by rw [HL.out, HV.out]; rfl, by rw [HL.out]; exact HR6.out, HE6.out⟩
      · have HV : Hid (seE s f w = 9) := Lib.hid (by rw [HX.out, if_pos ⟨rfl, by simpa using h5⟩])
        go_enter Tryd.func26, Tryd.ntmps26
        go_wp2_with fail
        refine CK.out.mono ?_
        rintro e w5 ⟨rfl, hev⟩
        have HE5 := Lib.hid (HE0.out.step hev)
        have HB5 := Lib.hid (HB0.out.ev hev)
        clear hev
        obtain ⟨b0, b1, b2⟩ := HB5.out.c
        go_wp2_with fail
        refine (CS.out _).mono ?_
        rintro e w6 ⟨A, c, rfl, hr, hev⟩
        have HE6 := Lib.hid (HE5.out.step hev)
        have HB6 := Lib.hid (HB5.out.ev hev)
        clear hr hev b0 b1 b2
        obtain ⟨b0, b1, b2⟩ := HB6.out.c
        go_wp2_with fail
        exact bodyPost_ret (v := .tuple #[.slice none 0 0, .int .i64 9]) (by simp [results, Tryd.results26, go_sem]) rfl ⟨none, 0, by rw [HL.out, HV.out]; rfl, by rw [HL.out]; exact RdI.nil _, HE6.out⟩
    · have HV : Hid (seE s f w = 0) := Lib.hid (by rw [HX.out, if_neg (fun h => h1 h.1)])
      have hq : ((L.length : Int) == 0) = false := by
        cases L with
        | nil => exact absurd rfl h1
        | cons a t => exact beq_eq_false_iff_ne.2 (by simp only [List.length_cons]; omega)
      clear h1
      go_enter Tryd.func26, Tryd.ntmps26
      go_wp2_with fail
      refine CK.out.mono ?_
      rintro e w5 ⟨rfl, hev⟩
      have HE5 := Lib.hid (HE0.out.step hev)
      obtain ⟨b0, b1, b2⟩ := (HB0.out.ev hev).c
      clear hev
      go_wp2_with fail
      refine (CS.out _).mono ?_
      rintro e w6 ⟨A, c, rfl, hr, hev⟩
      have HE6 := Lib.hid (HE5.out.step hev)
      have HR6 := Lib.hid hr
      clear hr hev b0 b1 b2
      go_wp2_with fail
      exact bodyPost_ret (v := .tuple #[.slice A L.length c, .int .i64 0]) (by simp [results, Tryd.results26, go_sem]) rfl ⟨A, c, by rw [HL.out, HV.out], by rw [HL.out]; exact HR6.out, HE6.out⟩
  · have HL : Hid (seL s f w = []) := Lib.hid (by unfold seL; rw [if_neg h0])
    have HX : Hid (seE s f w = ck s f w) := Lib.hid (by unfold seE; rw [if_neg h0])
    generalize ck s f w = er at *
    have hq : (er != 0) = true := by simpa using h0
    clear h0
    go_enter Tryd.func26, Tryd.ntmps26
    go_wp2_with fail
    refine CK.out.mono ?_
    rintro e w5 ⟨rfl, hev⟩
    have HE5 := Lib.hid (HE0.out.step hev)
    clear hev
    go_wp2_with fail
    exact bodyPost_ret (v := .tuple #[.slice none 0 0, .int .i64 er]) (by simp [results, Tryd.results26, go_sem]) rfl ⟨none, 0, by rw [HL.out, HX.out]; rfl, by rw [HL.out]; exact RdI.nil _, HE5.out⟩
set_option maxRecDepth 100000 in
set_option maxHeartbeats 8000000 in
theorem rshortest_any (s f w : Int) (W : World) : Calls Tryd.prog 27 #[rd s f w] W fun x w' => ListQ W (seL s f w) (seE s f w) x w' := by
  have HE0 : Hid (Ev W (W.alloc (rdO s f w))) := Lib.hid (al1 _ _)
  have HB0 := Lib.hid (BoxR.new W s f w)
  have CK := Lib.hid (rcheck_any s f w (W.alloc (rdO s f w)))
  by_cases h0 : ck s f w = 0
  · have HL0 : Hid (seL s f w = shL s w) := Lib.hid (by unfold seL; rw [if_pos h0])
    have HX0 : Hid (seE s f w = if shL s w = [] ∧ s ≠ 5 then 9 else 0) := Lib.hid (by unfold seE; rw [if_pos h0])
    rw [h0] at CK
    rcases ck_sw s f w h0 with ⟨rfl, hb⟩ | ⟨rfl, hb⟩ | ⟨rfl, hb⟩ | ⟨rfl, hb⟩ | ⟨rfl, hb⟩ | ⟨rfl, hb⟩ | ⟨rfl, hb⟩ | ⟨rfl, hb⟩ | ⟨rfl, hb⟩ | ⟨rfl, hb⟩ | ⟨rfl, hb⟩
    · have HV : Hid (shL 1 w = [1, 3, 5]) := Lib.hid (by rw [shL_v _ _ _ hb]; rfl)
      have HL : Hid (seL 1 f w = [1, 3, 5]) := Lib.hid (by rw [HL0.out, HV.out])
      have HX : Hid (seE 1 f w = 0) := Lib.hid (by rw [HX0.out, HV.out]; rfl)
      clear h0
      go_enter Tryd.func27, Tryd.ntmps27
      go_wp2_with fail
      refine CK.out.mono ?_
      rintro e w5 ⟨rfl, hev⟩
      have HE5 := Lib.hid (HE0.out.step hev)
      obtain ⟨b0, b1, b2⟩ := (HB0.out.ev hev).c
      clear hev
      have HR : Hid (RdI (w5.alloc (.cells #[.int .i64 1, .int .i64 3, .int .i64 5] 3)) (some ⟨w5.heap.size, 0, none⟩) [1, 3, 5]) := Lib.hid (RdI.lit _ _ _ [1, 3, 5] rfl (by decide))
      have HE6 : Hid (Ev W (w5.alloc (.cells #[.int .i64 1, .int .i64 3, .int .i64 5] 3))) := Lib.hid (HE5.out.alloc _)
      go_wp2_with fail
      exact bodyPost_ret (v := .tuple #[.slice (some ⟨w5.heap.size, 0, none⟩) 3 3, .int .i64 0]) (by simp [results, Tryd.results27, go_sem]) rfl ⟨_, 3, by rw [HL.out, HX.out]; rfl, by rw [HL.out]; exact HR.out, HE6.out⟩
    · have HV : Hid (shL 1 w = [2, 4]) := Lib.hid (by rw [shL_v _ _ _ hb]; rfl)
      have HL : Hid (seL 1 f w = [2, 4]) := Lib.hid (by rw [HL0.out, HV.out])
      have HX : Hid (seE 1 f w = 0) := Lib.hid (by rw [HX0.out, HV.out]; rfl)
      clear h0
      go_enter Tryd.func27, Tryd.ntmps27
      go_wp2_with fail
      refine CK.out.mono ?_
      rintro e w5 ⟨rfl, hev⟩
      have HE5 := Lib.hid (HE0.out.step hev)
      obtain ⟨b0, b1, b2⟩ := (HB0.out.ev hev).c
      clear hev
      have HR : Hid (RdI (w5.alloc (.cells #[.int .i64 2, .int .i64 4] 3)) (some ⟨w5.heap.size, 0, none⟩) [2, 4]) := Lib.hid (RdI.lit _ _ _ [2, 4] rfl (by decide))
      have HE6 : Hid (Ev W (w5.alloc (.cells #[.int .i64 2, .int .i64 4] 3))) := Lib.hid (HE5.out.alloc _)
      go_wp2_with fail
      exact bodyPost_ret (v := .tuple #[.slice (some ⟨w5.heap.size, 0, none⟩) 2 2, .int .i64 0]) (by simp [results, Tryd.results27, go_sem]) rfl ⟨_, 2, by rw [HL.out, HX.out]; rfl, by rw [HL.out]; exact HR.out, HE6.out⟩
    · have HV : Hid (shL 2 w = [3, 5]) := Lib.hid (by rw [shL_v _ _ _ hb]; rfl)
      have HL : Hid (seL 2 f w = [3, 5]) := Lib.hid (by rw [HL0.out, HV.out])
      have HX : Hid (seE 2 f w = 0) := Lib.hid (by rw [HX0.out, HV.out]; rfl)
      clear h0
      go_enter Tryd.func27, Tryd.ntmps27
      go_wp2_with fail
      refine CK.out.mono ?_
      rintro e w5 ⟨rfl, hev⟩
      have HE5 := Lib.hid (HE0.out.step hev)
      obtain ⟨b0, b1, b2⟩ := (HB0.out.ev hev).c
      clear hev
      have HR : Hid (RdI (w5.alloc (.cells #[.int .i64 3, .int .i64 5] 3)) (some ⟨w5.heap.size, 0, none⟩) [3, 5]) := Lib.hid (RdI.lit _ _ _ [3, 5] rfl (by decide))
      have HE6 : Hid (Ev W (w5.alloc (.cells #[.int .i64 3, .int .i64 5] 3))) := Lib.hid (HE5.out.alloc _)
      go_wp2_with fail
      exact bodyPost_ret (v := .tuple #[.slice (some ⟨w5.heap.size, 0, none⟩) 2 2, .int .i64 0]) (by simp [results, Tryd.results27, go_sem]) rfl ⟨_, 2, by rw [HL.out, HX.out]; rfl, by rw [HL.out]; exact HR.out, HE6.out⟩
    · have HV : Hid (shL 2 w = [2, 4]) := Lib.hid (by rw [shL_v _ _ _ hb]; rfl)
      have HL : Hid (seL 2 f w = [2, 4]) := Lib.hid (by rw [HL0.out, HV.out])
      have HX : Hid (seE 2 f w = 0) := Lib.hid (by rw [HX0.out, HV.out]; rfl)
      clear h0
      go_enter Tryd.func27, Tryd.ntmps27
      go_wp2_with fail
      refine CK.out.mono ?_
      rintro e w5 ⟨rfl, hev⟩
      have HE5 := Lib.hid (HE0.out.step hev)
      obtain ⟨b0, b1, b2⟩ := (HB0.out.ev hev).c
      clear hev
      have HR : Hid (RdI (w5.alloc (.cells #[.int .i64 2, .int .i64 4] 3)) (some ⟨w5.heap.size, 0, none⟩) [2, 4]) := Lib.hid (RdI.lit _ _ _ [2, 4] rfl (by decide))
      have HE6 : Hid (Ev W (w5.alloc (.cells #[.int .i64 2, .int .i64 4] 3))) := Lib.hid (HE5.out.alloc _)
      go_wp2_with fail
      exact bodyPost_ret (v := .tuple #[.slice (some ⟨w5.heap.size, 0, none⟩) 2 2, .int .i64 0]) (by simp [results, Tryd.results27, go_sem]) rfl ⟨_, 2, by rw [HL.out, HX.out]; rfl, by rw [HL.out]; exact HR.out, HE6.out⟩
    · have HV : Hid (shL 3 w = [5]) := Lib.hid (by rw [shL_v _ _ _ hb]; rfl)
      have HL : Hid (seL 3 f w = [5]) := Lib.hid (by rw [HL0.out, HV.out])
      have HX : Hid (seE 3 f w = 0) := Lib.hid (by rw [HX0.out, HV.out]; rfl)
      clear h0
      go_enter Tryd.func27, Tryd.ntmps27
      go_wp2_with fail
      refine CK.out.mono ?_
      rintro e w5 ⟨rfl, hev⟩
      have HE5 := Lib.hid (HE0.out.step hev)
      obtain ⟨b0, b1, b2⟩ := (HB0.out.ev hev).c
      clear hev
      have HR : Hid (RdI (w5.alloc (.cells #[.int .i64 5] 3)) (some ⟨w5.heap.size, 0, none⟩) [5]) := Lib.hid (RdI.lit _ _ _ [5] rfl (by decide))
      have HE6 : Hid (Ev W (w5.alloc (.cells #[.int .i64 5] 3))) := Lib.hid (HE5.out.alloc _)
      go_wp2_with fail
      exact bodyPost_ret (v := .tuple #[.slice (some ⟨w5.heap.size, 0, none⟩) 1 1, .int .i64 0]) (by simp [results, Tryd.results27, go_sem]) rfl ⟨_, 1, by rw [HL.out, HX.out]; rfl, by rw [HL.out]; exact HR.out, HE6.out⟩
    · have HV : Hid (shL 4 w = [4]) := Lib.hid (by rw [shL_v _ _ _ hb]; rfl)
      have HL : Hid (seL 4 f w = [4]) := Lib.hid (by rw [HL0.out, HV.out])
      have HX : Hid (seE 4 f w = 0) := Lib.hid (by rw [HX0.out, HV.out]; rfl)
      clear h0
      go_enter Tryd.func27, Tryd.ntmps27
      go_wp2_with fail
      refine CK.out.mono ?_
      rintro e w5 ⟨rfl, hev⟩
      have HE5 := Lib.hid (HE0.out.step hev)
      obtain ⟨b0, b1, b2⟩ := (HB0.out.ev hev).c
      clear hev
      have HR : Hid (RdI (w5.alloc (.cells #[.int .i64 4] 3)) (some ⟨w5.heap.size, 0, none⟩) [4]) := Lib.hid (RdI.lit _ _ _ [4] rfl (by decide))
      have HE6 : Hid (Ev W (w5.alloc (.cells #[.int .i64 4] 3))) := Lib.hid (HE5.out.alloc _)
      go_wp2_with fail
      exact bodyPost_ret (v := .tuple #[.slice (some ⟨w5.heap.size, 0, none⟩) 1 1, .int .i64 0]) (by simp [results, Tryd.results27, go_sem]) rfl ⟨_, 1, by rw [HL.out, HX.out]; rfl, by rw [HL.out]; exact HR.out, HE6.out⟩
    · have HV : Hid (shL 5 w = []) := Lib.hid (by rw [shL_v _ _ _ hb]; rfl)
      have HL : Hid (seL 5 f w = []) := Lib.hid (by rw [HL0.out, HV.out])
      have HX : Hid (seE 5 f w = 0) := Lib.hid (by rw [HX0.out, HV.out]; rfl)
      clear h0
      go_enter Tryd.func27, Tryd.ntmps27
      go_wp2_with fail
      refine CK.out.mono ?_
      rintro e w5 ⟨rfl, hev⟩
      have HE5 := Lib.hid (HE0.out.step hev)
      obtain ⟨b0, b1, b2⟩ := (HB0.out.ev hev).c
      clear hev
      go_wp2_with fail
      exact bodyPost_ret (v := .tuple #[.slice none 0 0, .int .i64 0]) (by simp [results, Tryd.results27, go_sem]) rfl ⟨none, 0, by rw [HL.out, HX.out]; rfl, by rw [HL.out]; exact RdI.nil _, HE5.out⟩
    · have HV : Hid (shL 6 w = []) := Lib.hid (by rw [shL_v _ _ _ hb]; rfl)
      have HL : Hid (seL 6 f w = []) := Lib.hid (by rw [HL0.out, HV.out])
      have HX : Hid (seE 6 f w = 9) := Lib.hid (by rw [HX0.out, HV.out]; rfl)
      clear h0
      go_enter Tryd.func27, Tryd.ntmps27
      go_wp2_with fail
      refine CK.out.mono ?_
      rintro e w5 ⟨rfl, hev⟩
      have HE5 := Lib.hid (HE0.out.step hev)
      obtain ⟨b0, b1, b2⟩ := (HB0.out.ev hev).c
      clear hev
      go_wp2_with fail
      exact bodyPost_ret (v := .tuple #[.slice none 0 0, .int .i64 9]) (by simp [results, Tryd.results27, go_sem]) rfl ⟨none, 0, by rw [HL.out, HX.out]; rfl, by rw [HL.out]; exact RdI.nil _, HE5.out⟩
    · have HV : Hid (shL 7 w = []) := Lib.hid (by rw [shL_v _ _ _ hb]; rfl)
      have HL : Hid (seL 7 f w = []) := Lib.hid (by rw [HL0.out, HV.out])
      have HX : Hid (seE 7 f w = 9) := Lib.hid (by rw [HX0.out, HV.out]; rfl)
      clear h0
      go_enter Tryd.func27, Tryd.ntmps27
      go_wp2_with fail
      refine CK.out.mono ?_
      rintro e w5 ⟨rfl, hev⟩
      have HE5 := Lib.hid (HE0.out.step hev)
      obtain ⟨b0, b1, b2⟩ := (HB0.out.ev hev).c
      clear hev
      go_wp2_with fail
      exact bodyPost_ret (v := .tuple #[.slice none 0 0, .int .i64 9]) (by simp [results, Tryd.results27, go_sem]) rfl ⟨none, 0, by rw [HL.out, HX.out]; rfl, by rw [HL.out]; exact RdI.nil _, HE5.out⟩
    · have HV : Hid (shL 7 w = []) := Lib.hid (by rw [shL_v _ _ _ hb]; rfl)
      have HL : Hid (seL 7 f w = []) := Lib.hid (by rw [HL0.out, HV.out])
      have HX : Hid (seE 7 f w = 9) := Lib.hid (by rw [HX0.out, HV.out]; rfl)
      clear h0
      go_enter Tryd.func27, Tryd.ntmps27
      go_wp2_with fail
      refine CK.out.mono ?_
      rintro e w5 ⟨rfl, hev⟩
      have HE5 := Lib.hid (HE0.out.step hev)
      obtain ⟨b0, b1, b2⟩ := (HB0.out.ev hev).c
      clear hev
      go_wp2_with fail
      exact bodyPost_ret (v := .tuple #[.slice none 0 0, .int .i64 9]) (by simp [results, Tryd.results27, go_sem]) rfl ⟨none, 0, by rw [HL.out, HX.out]; rfl, by rw [HL.out]; exact RdI.nil _, HE5.out⟩
    · have HV : Hid (shL 8 w = []) := Lib.hid (by rw [shL_v _ _ _ hb]; rfl)
      have HL : Hid (seL 8 f w = []) := Lib.hid (by rw [HL0.out, HV.out])
      have HX : Hid (seE 8 f w = 9) := Lib.hid (by rw [HX0.out, HV.out]; rfl)
      clear h0
      go_enter Tryd.func27, Tryd.ntmps27
      go_wp2_with fail
      refine CK.out.mono ?_
      rintro e w5 ⟨rfl, hev⟩
      have HE5 := Lib.hid (HE0.out.step hev)
      obtain ⟨b0, b1, b2⟩ := (HB0.out.ev hev).c
      clear hev
      go_wp2_with fail
      exact bodyPost_ret (v := .tuple #[.slice none 0 0, .int .i64 9]) (by simp [results, Tryd.results27, go_sem]) rfl ⟨none, 0, by rw [HL.out, HX.out]; rfl, by rw [HL.out]; exact RdI.nil _, HE5.out⟩
  · have HL : Hid (seL s f w = []) := Lib.hid (by unfold seL; rw [if_neg h0])
    have HX : Hid (seE s f w = ck s f w) := Lib.hid (by unfold seE; rw [if_neg h0])
    generalize ck s f w = er at *
    have hq : (er != 0) = true := by simpa using h0
    clear h0
    go_enter Tryd.func27, Tryd.ntmps27
    go_wp2_with fail
    refine CK.out.mono ?_
    rintro e w5 ⟨rfl, hev⟩
    have HE5 := Lib.hid (HE0.out.step hev)
    clear hev
    go_wp2_with fail
    exact bodyPost_ret (v := .tuple #[.slice none 0 0, .int .i64 er]) (by simp [results, Tryd.results27, go_sem]) rfl ⟨none, 0, by rw [HL.out, HX.out]; rfl, by rw [HL.out]; exact RdI.nil _, HE5.out⟩
set_option maxRecDepth 100000 in
set_option maxHeartbeats 4000000 in
theorem over_any (s f w : Int) (W : World) (hT : Tab W) : Calls Tryd.prog 24 #[rd s f w] W fun x w' => x = .returned (.tuple #[.bool (ck s f w == 0 && (evL s f w).length == 0), .int .i64 (ck s f w)]) ∧ Ev W w' := by
  have HE0 : Hid (Ev W (W.alloc (rdO s f w))) := Lib.hid (al1 _ _)
  have C := Lib.hid (events_any s f w (W.alloc (rdO s f w)) (hT.ev HE0.out))
  have hl : (evL s f w).length ≤ 6 := by unfold evL; split; exact evN_le _ _ _; simp
  have hc : ((((evL s f w).length : Nat) : Int) == 0) = ((evL s f w).length == 0) := by rw [Bool.eq_iff_iff]; simp
  generalize evL s f w = L at *
  generalize ck s f w = er at *
  have HC := Lib.hid hc
  clear hc
  rcases hq : (er == 0) with _ | _
  · go_enter Tryd.func24, Tryd.ntmps24
    go_wp2_with fail
    refine C.out.mono ?_
    rintro e w5 ⟨A, c, rfl, hr, hev⟩
    have HE5 := Lib.hid (HE0.out.step hev)
    clear hr hev
    go_wp2_with fail
    exact bodyPost_ret (v := .tuple #[.bool false, .int .i64 er]) (by simp [results, Tryd.results24, go_sem]) rfl ⟨rfl, HE5.out⟩
  · go_enter Tryd.func24, Tryd.ntmps24
    go_wp2_with fail
    refine C.out.mono ?_
    rintro e w5 ⟨A, c, rfl, hr, hev⟩
    have HE5 := Lib.hid (HE0.out.step hev)
    clear hr hev
    go_wp2_with fail
    exact bodyPost_ret (v := .tuple #[.bool ((L.length : Int) == 0), .int .i64 er]) (by simp [results, Tryd.results24, go_sem]) rfl ⟨by rw [HC.out, Bool.true_and], HE5.out⟩
set_option maxRecDepth 100000 in
set_option maxHeartbeats 4000000 in
theorem rover_any (s f w : Int) (W : World) : Calls Tryd.prog 25 #[rd s f w] W fun x w' => x = .returned (.tuple #[.bool (ck s f w == 0 && (evL s f w).length == 0), .int .i64 (ck s f w)]) ∧ Ev W w' := by
  have HE0 : Hid (Ev W (W.alloc (rdO s f w))) := Lib.hid (al1 _ _)
  have C := Lib.hid (revents_any s f w (W.alloc (rdO s f w)))
  have hl : (evL s f w).length ≤ 6 := by unfold evL; split; exact evN_le _ _ _; simp
  have hc : ((((evL s f w).length : Nat) : Int) == 0) = ((evL s f w).length == 0) := by rw [Bool.eq_iff_iff]; simp
  generalize evL s f w = L at *
  generalize ck s f w = er at *
  have HC := Lib.hid hc
  clear hc
  rcases hq : (er == 0) with _ | _
  · go_enter Tryd.func25, Tryd.ntmps25
    go_wp2_with fail
    refine C.out.mono ?_
    rintro e w5 ⟨A, c, rfl, hr, hev⟩
    have HE5 := Lib.hid (HE0.out.step hev)
    clear hr hev
    go_wp2_with fail
    exact bodyPost_ret (v := .tuple #[.bool false, .int .i64 er]) (by simp [results, Tryd.results25, go_sem]) rfl ⟨rfl, HE5.out⟩
  · go_enter Tryd.func25, Tryd.ntmps25
    go_wp2_with fail
    refine C.out.mono ?_
    rintro e w5 ⟨A, c, rfl, hr, hev⟩
    have HE5 := Lib.hid (HE0.out.step hev)
    clear hr hev
    go_wp2_with fail
    exact bodyPost_ret (v := .tuple #[.bool ((L.length : Int) == 0), .int .i64 er]) (by simp [results, Tryd.results25, go_sem]) rfl ⟨by rw [HC.out, Bool.true_and], HE5.out⟩
end Go.Proofs.YtfiglmbnjfgdlaaDoor
