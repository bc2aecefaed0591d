import Derived.Test.YtfiglmbnjfgdlaaDoorDJ
namespace Go.Proofs.YtfiglmbnjfgdlaaDoor
open Go.RowKit
def fr2 (f w : Int) : List Int := if w < f then flt [w, f] else flt [f, w]
theorem flt2 (a b : Int) : flt [a, b] = one a ++ one b := by
  rw [← one_flt a, ← one_flt b]
  unfold flt
  rw [show ([a, b] : List Int) = [a] ++ [b] from rfl, List.filter_append]
theorem ms2 (a b : Int) : ([a, b] : List Int).mergeSort (fun x y => decide (x ≤ y)) = if a ≤ b then [a, b] else [b, a] := by
  simp [List.mergeSort, List.MergeSort.Internal.splitInTwo, List.merge]
theorem fr2_sort (f w : Int) (hf : -1 ≤ f) (hw : -1 ≤ w) : (one f ++ one w).mergeSort (fun x y => decide (x ≤ y)) = fr2 f w := by
  unfold fr2
  rw [flt2, flt2]
  rcases h1 : (f != -1) with _ | _ <;> rcases h2 : (w != -1) with _ | _
  · rw [one_no h1, one_no h2]; simp
  · rw [one_no h1, one_yes h2]
    have : f = -1 := by simpa using h1
    rw [if_neg (by omega)]
    simp
  · rw [one_yes h1, one_no h2]
    have : w = -1 := by simpa using h2
    have h3 : f ≠ -1 := by simpa using h1
    rw [if_pos (by omega)]
    simp
  · rw [one_yes h1, one_yes h2]
    show ([f, w] : List Int).mergeSort _ = _
    rw [ms2]
    by_cases h : w < f
    · rw [if_neg (by omega), if_pos h]; rfl
    · rw [if_pos (by omega), if_neg h]; rfl
theorem fr2_len (f w : Int) : (fr2 f w).length ≤ 2 := by
  unfold fr2
  rw [flt2, flt2]
  have := one_le f
  have := one_le w
  split <;> rw [List.length_append] <;> omega
def frL (s f w : Int) : List Int := if ck s f w = 0 then fr2 f w else []
theorem frL_len (s f w : Int) : (frL s f w).length ≤ 2 := by unfold frL; split; exact fr2_len _ _; simp
set_option maxRecDepth 100000 in
set_option maxHeartbeats 8000000 in
theorem frames_any (s f w : Int) (W : World) : Calls Tryd.prog 19 #[rd s f w] W fun x w' => ListQ W (frL s f w) (ck s f w) x w' := by
  have HE0 : Hid (Ev W (W.alloc (rdO s f w))) := Lib.hid (al1 _ _)
  have HB0 := Lib.hid (BoxR.new W s f w)
  have CK := Lib.hid (check_any s f w (W.alloc (rdO s f w)))
  by_cases h0 : ck s f w = 0
  · have HL : Hid (frL s f w = fr2 f w) := Lib.hid (by unfold frL; rw [if_pos h0])
    obtain ⟨_, _, g1, _, g2, _, _⟩ := ck_range s f w h0
    have HS := Lib.hid (fr2_sort f w g1 g2)
    have HLE := Lib.hid (fr2_len f w)
    have HO1 := Lib.hid (one_le f)
    have HO2 := Lib.hid (one_le w)
    rw [h0] at CK
    rw [h0]
    clear h0 g1 g2
    go_enter Tryd.func19, Tryd.ntmps19
    go_wp2_with fail
    refine CK.out.mono ?_
    rintro e w5 ⟨rfl, hev⟩
    have HE5 := Lib.hid (HE0.out.step hev)
    have HB5 := Lib.hid (HB0.out.ev hev)
    clear hev
    have hlt := World.rowIs.lt HB5.out
    have HG := Lib.hid (give2_any W.heap.size w5.heap.size s f w (w5.alloc (.cells #[.func (.func 47) #[] #[], .func (.func 48) #[] #[]] 68)) (HB5.out.al _) (by simp) (by simp) (by omega))
    have HSZ : Hid (w5.heap.size ≤ (w5.alloc (.cells #[.func (.func 47) #[] #[], .func (.func 48) #[] #[]] 68)).heap.size) := Lib.hid (by simp)
    clear hlt
    go_wp2_with fail
    refine HG.out.mono ?_
    rintro e w6 ⟨v, rfl, hown, hbx, hgb⟩
    have HO6 := Lib.hid (wk hown HSZ.out)
    have HE6 : Hid (Ev W w6) := Lib.hid (Ev.grown (HE5.out.alloc _) hgb (fun k hk => by cases hk; exact Nat.le_refl _))
    clear hown hbx hgb
    go_wp2_with fail
    refine (sort_any w5.heap.size v (one f ++ one w) w6 HO6.out (by have := HO1.out; have := HO2.out; rw [List.length_append]; omega)).mono ?_
    rintro e w7 ⟨rfl, hown, row, hg, hrow⟩
    rw [HS.out] at hown
    obtain ⟨A, c, rfl, hr⟩ := RdI.of_own hown (by have := HLE.out; omega)
    have HR := Lib.hid hr
    have HE7 : Hid (Ev W w7) := Lib.hid (Ev.grown HE6.out hg (fun k hk => Nat.le_trans HE5.out.sz (hrow k hk)))
    clear hown hg hrow hr
    go_wp2_with fail
    exact bodyPost_ret (v := .tuple #[.slice A (fr2 f w).length c, .int .i64 0]) (by simp [results, Tryd.results19, go_sem]) rfl ⟨A, c, by rw [HL.out], by rw [HL.out]; exact HR.out, HE7.out⟩
  · have HL : Hid (frL s f w = []) := Lib.hid (by unfold frL; rw [if_neg h0])
    generalize ck s f w = er at *
    have hq : (er != 0) = true := by simpa using h0
    clear h0
    go_enter Tryd.func19, Tryd.ntmps19
    go_wp2_with fail
    refine CK.out.mono ?_
    rintro e w5 ⟨rfl, hev⟩
    have HE5 := Lib.hid (HE0.out.step hev)
    clear hev
    go_wp2_with fail
    exact bodyPost_ret (v := .tuple #[.slice none 0 0, .int .i64 er]) (by simp [results, Tryd.results19, go_sem]) rfl ⟨none, 0, by rw [HL.out]; rfl, by rw [HL.out]; exact RdI.nil _, HE5.out⟩
set_option maxRecDepth 100000 in
set_option maxHeartbeats 8000000 in
theorem rframes_any (s f w : Int) (W : World) : Calls Tryd.prog 20 #[rd s f w] W fun x w' => ListQ W (frL s f w) (ck s f w) x w' := by
  have HE0 : Hid (Ev W (W.alloc (rdO s f w))) := Lib.hid (al1 _ _)
  have HB0 := Lib.hid (BoxR.new W s f w)
  have CK := Lib.hid (rcheck_any s f w (W.alloc (rdO s f w)))
  by_cases h0 : ck s f w = 0
  · have HLE := Lib.hid (fr2_len f w)
    have HL0 : Hid (frL s f w = fr2 f w) := Lib.hid (by unfold frL; rw [if_pos h0])
    rw [h0] at CK
    rw [h0]
    clear h0
    by_cases hq : w < f
    · have HV : Hid (fr2 f w = flt [w, f]) := Lib.hid (by unfold fr2; rw [if_pos hq])
      have HL : Hid (frL s f w = flt [w, f]) := Lib.hid (by rw [HL0.out, HV.out])
      rw [HV.out] at HLE
      go_enter Tryd.func20, Tryd.ntmps20
      go_wp2_with fail
      refine CK.out.mono ?_
      rintro e w5 ⟨rfl, hev⟩
      have HE5 := Lib.hid (HE0.out.step hev)
      obtain ⟨b0, b1, b2⟩ := (HB0.out.ev hev).c
      clear hev
      have CS := Lib.hid (some_any _ 2 [w, f] _ (RdI.lit w5 #[.int .i64 w, .int .i64 f] 3 [w, f] rfl (by simp)) (by simp))
      go_wp2_with fail
      refine CS.out.mono ?_
      rintro e w6 ⟨v, rfl, hown, hev⟩
      obtain ⟨A, c, rfl, hr⟩ := RdI.of_own hown (by have := HLE.out; omega)
      have HR := Lib.hid hr
      have HE6 := Lib.hid ((HE5.out.alloc _).step hev)
      clear hown hev hr b0 b1 b2
      go_wp2_with fail
      exact bodyPost_ret (v := .tuple #[.slice A (flt [w, f]).length c, .int .i64 0]) (by simp [results, Tryd.results20, go_sem]) rfl ⟨A, c, by rw [HL.out], by rw [HL.out]; exact HR.out, HE6.out⟩
    · have HV : Hid (fr2 f w = flt [f, w]) := Lib.hid (by unfold fr2; rw [if_neg hq])
      have HL : Hid (frL s f w = flt [f, w]) := Lib.hid (by rw [HL0.out, HV.out])
      rw [HV.out] at HLE
      go_enter Tryd.func20, Tryd.ntmps20
      go_wp2_with fail
      refine CK.out.mono ?_
      rintro e w5 ⟨rfl, hev⟩
      have HE5 := Lib.hid (HE0.out.step hev)
      obtain ⟨b0, b1, b2⟩ := (HB0.out.ev hev).c
      clear hev
      have CS := Lib.hid (some_any _ 2 [f, w] _ (RdI.lit w5 #[.int .i64 f, .int .i64 w] 3 [f, w] rfl (by simp)) (by simp))
      go_wp2_with fail
      refine CS.out.mono ?_
      rintro e w6 ⟨v, rfl, hown, hev⟩
      obtain ⟨A, c, rfl, hr⟩ := RdI.of_own hown (by have := HLE.out; omega)
      have HR := Lib.hid hr
      have HE6 := Lib.hid ((HE5.out.alloc _).step hev)
      clear hown hev hr b0 b1 b2
      go_wp2_with fail
      exact bodyPost_ret (v := .tuple #[.slice A (flt [f, w]).length c, .int .i64 0]) (by simp [results, Tryd.results20, go_sem]) rfl ⟨A, c, by rw [HL.out], by rw [HL.out]; exact HR.out, HE6.out⟩
  · have HL : Hid (frL s f w = []) := Lib.hid (by unfold frL; rw [if_neg h0])
    generalize ck s f w = er at *
    have hq : (er != 0) = true := by simpa using h0
    clear h0
    go_enter Tryd.func20, Tryd.ntmps20
    go_wp2_with fail
    refine CK.out.mono ?_
    rintro e w5 ⟨rfl, hev⟩
    have HE5 := Lib.hid (HE0.out.step hev)
    clear hev
    go_wp2_with fail
    exact bodyPost_ret (v := .tuple #[.slice none 0 0, .int .i64 er]) (by simp [results, Tryd.results20, go_sem]) rfl ⟨none, 0, by rw [HL.out]; rfl, by rw [HL.out]; exact RdI.nil _, HE5.out⟩
end Go.Proofs.YtfiglmbnjfgdlaaDoor
