import Derived.Test.YtfiglmbnjfgdlaaDoorD9
namespace Go.Proofs.YtfiglmbnjfgdlaaDoor
open Go.RowKit
/-- what a step gives -/
def StepP (W : World) (R : Res) (x : Ending) (w' : World) : Prop := ∃ v, x = .returned (.tuple #[rd R.s R.f R.w, v, .int .i64 R.m, .int .i64 0]) ∧ OwnI w' W.heap.size v R.l ∧ Ev W w'
theorem cev_e (s w e n : Int) (h : cev s w e n = 0) : 1 ≤ e ∧ e ≤ 6 ∧ mayV s w e = true := by
  unfold cev at h
  split at h
  · cases h
  · split at h
    · cases h
    · split at h
      · cases h
      · rename_i h1 _ h3
        exact ⟨by omega, by omega, by simpa using h3⟩
set_option maxRecDepth 100000 in
set_option maxHeartbeats 4000000 in
theorem step1 (s f w n : Int) (W : World) (hT : Tab W) (h0 : ck s f w = 0) (hv : cev s w 1 n = 0) :
    Calls Tryd.prog 12 #[rd s f w, .int .i64 1, .int .i64 n] W fun x w' => StepP W ⟨2, n, w, [], -1⟩ x w' := by
  have HB := Lib.hid ((BoxR.new W s f w).al (rdO 0 0 0))
  have HR0 := BoxR.new (W.alloc (rdO s f w)) 0 0 0
  rw [World.size_alloc] at HR0
  have HR := Lib.hid HR0
  have HE : Hid (Ev W ((W.alloc (rdO s f w)).alloc (rdO 0 0 0))) := Lib.hid (((Ev.refl W).alloc _).alloc _)
  have CK := Lib.hid (check_any s f w ((W.alloc (rdO s f w)).alloc (rdO 0 0 0)))
  have HT := Lib.hid hT
  rw [h0] at CK
  have CV := Lib.hid fun W h => cev_any s f w 1 n W h h0
  rw [hv] at CV
  clear hT HR0 h0 hv
  go_enter Tryd.func12, Tryd.ntmps12
  go_wp2_with fail
  refine CK.out.mono ?_
  rintro e w5 ⟨rfl, hev⟩
  have HE5 := Lib.hid (HE.out.step hev)
  have HB5 := Lib.hid (HB.out.ev hev)
  have HR5 := Lib.hid (HR.out.ev hev)
  clear hev
  obtain ⟨b0, b1, b2⟩ := HB5.out.c
  go_wp2_with fail
  refine (CV.out _ (HT.out.ev HE5.out)).mono ?_
  rintro e w6 ⟨rfl, hev⟩
  have HE6 := Lib.hid (HE5.out.step hev)
  have HB6 := Lib.hid (HB5.out.ev hev)
  have HR6 := Lib.hid (HR5.out.ev hev)
  clear hev b0 b1 b2
  obtain ⟨b0, b1, b2⟩ := HB6.out.c
  obtain ⟨y0, y1, y2⟩ := HB6.out.z
  obtain ⟨r0, r1, r2⟩ := HR6.out.c
  obtain ⟨z0, z1, z2⟩ := HR6.out.z
  have HF : Hid (Ev W (((((w6.setCell ⟨W.heap.size, 0, none⟩ (.int .i64 2)).setCell ⟨W.heap.size, 1, none⟩ (.int .i64 n)).setCell ⟨W.heap.size + 1, 0, none⟩ (.int .i64 2)).setCell ⟨W.heap.size + 1, 1, none⟩ (.int .i64 n)).setCell ⟨W.heap.size + 1, 2, none⟩ (.int .i64 w))) := Lib.hid (((((HE6.out.setC (by simp) _).setC (by simp) _).setC (by simp) _).setC (by simp) _).setC (by simp) _)
  go_wp2_with fail
  exact bodyPost_ret (v := .tuple #[rd 2 n w, .slice none 0 0, .int .i64 (-1), .int .i64 0]) (by simp [results, Tryd.results12, go_sem, *]) rfl ⟨_, rfl, nil_own _ _, HF.out⟩
set_option maxRecDepth 100000 in
set_option maxHeartbeats 4000000 in
theorem step2 (s f w n : Int) (W : World) (hT : Tab W) (h0 : ck s f w = 0) (hv : cev s w 2 n = 0) :
    Calls Tryd.prog 12 #[rd s f w, .int .i64 2, .int .i64 n] W fun x w' => StepP W ⟨4, f, w, [], -1⟩ x w' := by
  have HB := Lib.hid ((BoxR.new W s f w).al (rdO 0 0 0))
  have HR0 := BoxR.new (W.alloc (rdO s f w)) 0 0 0
  rw [World.size_alloc] at HR0
  have HR := Lib.hid HR0
  have HE : Hid (Ev W ((W.alloc (rdO s f w)).alloc (rdO 0 0 0))) := Lib.hid (((Ev.refl W).alloc _).alloc _)
  have CK := Lib.hid (check_any s f w ((W.alloc (rdO s f w)).alloc (rdO 0 0 0)))
  have HT := Lib.hid hT
  rw [h0] at CK
  have CV := Lib.hid fun W h => cev_any s f w 2 n W h h0
  rw [hv] at CV
  clear hT HR0 h0 hv
  go_enter Tryd.func12, Tryd.ntmps12
  go_wp2_with fail
  refine CK.out.mono ?_
  rintro e w5 ⟨rfl, hev⟩
  have HE5 := Lib.hid (HE.out.step hev)
  have HB5 := Lib.hid (HB.out.ev hev)
  have HR5 := Lib.hid (HR.out.ev hev)
  clear hev
  obtain ⟨b0, b1, b2⟩ := HB5.out.c
  go_wp2_with fail
  refine (CV.out _ (HT.out.ev HE5.out)).mono ?_
  rintro e w6 ⟨rfl, hev⟩
  have HE6 := Lib.hid (HE5.out.step hev)
  have HB6 := Lib.hid (HB5.out.ev hev)
  have HR6 := Lib.hid (HR5.out.ev hev)
  clear hev b0 b1 b2
  obtain ⟨b0, b1, b2⟩ := HB6.out.c
  obtain ⟨y0, y1, y2⟩ := HB6.out.z
  obtain ⟨r0, r1, r2⟩ := HR6.out.c
  obtain ⟨z0, z1, z2⟩ := HR6.out.z
  have HF : Hid (Ev W ((((w6.setCell ⟨W.heap.size, 0, none⟩ (.int .i64 4)).setCell ⟨W.heap.size + 1, 0, none⟩ (.int .i64 4)).setCell ⟨W.heap.size + 1, 1, none⟩ (.int .i64 f)).setCell ⟨W.heap.size + 1, 2, none⟩ (.int .i64 w))) := Lib.hid ((((HE6.out.setC (by simp) _).setC (by simp) _).setC (by simp) _).setC (by simp) _)
  go_wp2_with fail
  exact bodyPost_ret (v := .tuple #[rd 4 f w, .slice none 0 0, .int .i64 (-1), .int .i64 0]) (by simp [results, Tryd.results12, go_sem, *]) rfl ⟨_, rfl, nil_own _ _, HF.out⟩
set_option maxRecDepth 100000 in
set_option maxHeartbeats 4000000 in
theorem step3 (s f w n : Int) (W : World) (hT : Tab W) (h0 : ck s f w = 0) (hv : cev s w 3 n = 0) :
    Calls Tryd.prog 12 #[rd s f w, .int .i64 3, .int .i64 n] W fun x w' => StepP W ⟨3, f, w, [], -1⟩ x w' := by
  have HB := Lib.hid ((BoxR.new W s f w).al (rdO 0 0 0))
  have HR0 := BoxR.new (W.alloc (rdO s f w)) 0 0 0
  rw [World.size_alloc] at HR0
  have HR := Lib.hid HR0
  have HE : Hid (Ev W ((W.alloc (rdO s f w)).alloc (rdO 0 0 0))) := Lib.hid (((Ev.refl W).alloc _).alloc _)
  have CK := Lib.hid (check_any s f w ((W.alloc (rdO s f w)).alloc (rdO 0 0 0)))
  have HT := Lib.hid hT
  rw [h0] at CK
  have CV := Lib.hid fun W h => cev_any s f w 3 n W h h0
  rw [hv] at CV
  clear hT HR0 h0 hv
  go_enter Tryd.func12, Tryd.ntmps12
  go_wp2_with fail
  refine CK.out.mono ?_
  rintro e w5 ⟨rfl, hev⟩
  have HE5 := Lib.hid (HE.out.step hev)
  have HB5 := Lib.hid (HB.out.ev hev)
  have HR5 := Lib.hid (HR.out.ev hev)
  clear hev
  obtain ⟨b0, b1, b2⟩ := HB5.out.c
  go_wp2_with fail
  refine (CV.out _ (HT.out.ev HE5.out)).mono ?_
  rintro e w6 ⟨rfl, hev⟩
  have HE6 := Lib.hid (HE5.out.step hev)
  have HB6 := Lib.hid (HB5.out.ev hev)
  have HR6 := Lib.hid (HR5.out.ev hev)
  clear hev b0 b1 b2
  obtain ⟨b0, b1, b2⟩ := HB6.out.c
  obtain ⟨y0, y1, y2⟩ := HB6.out.z
  obtain ⟨r0, r1, r2⟩ := HR6.out.c
  obtain ⟨z0, z1, z2⟩ := HR6.out.z
  have HF : Hid (Ev W ((((w6.setCell ⟨W.heap.size, 0, none⟩ (.int .i64 3)).setCell ⟨W.heap.size + 1, 0, none⟩ (.int .i64 3)).setCell ⟨W.heap.size + 1, 1, none⟩ (.int .i64 f)).setCell ⟨W.heap.size + 1, 2, none⟩ (.int .i64 w))) := Lib.hid ((((HE6.out.setC (by simp) _).setC (by simp) _).setC (by simp) _).setC (by simp) _)
  go_wp2_with fail
  exact bodyPost_ret (v := .tuple #[rd 3 f w, .slice none 0 0, .int .i64 (-1), .int .i64 0]) (by simp [results, Tryd.results12, go_sem, *]) rfl ⟨_, rfl, nil_own _ _, HF.out⟩
end Go.Proofs.YtfiglmbnjfgdlaaDoor
