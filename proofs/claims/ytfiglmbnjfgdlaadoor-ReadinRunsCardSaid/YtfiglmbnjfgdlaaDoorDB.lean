import Derived.Test.YtfiglmbnjfgdlaaDoorDA
namespace Go.Proofs.YtfiglmbnjfgdlaaDoor
open Go.RowKit
set_option maxRecDepth 100000 in
set_option maxHeartbeats 4000000 in
theorem step4c (f w n : Int) (W : World) (hT : Tab W) (h0 : ck 4 f w = 0) (hv : cev 4 w 4 n = 0) :
    Calls Tryd.prog 12 #[rd 4 f w, .int .i64 4, .int .i64 n] W fun x w' => StepP W ⟨5, w, (-1), (one f), w⟩ x w' := by
  have HB := Lib.hid ((BoxR.new W 4 f w).al (rdO 0 0 0))
  have HR0 := BoxR.new (W.alloc (rdO 4 f w)) 0 0 0
  rw [World.size_alloc] at HR0
  have HR := Lib.hid HR0
  have HE : Hid (Ev W ((W.alloc (rdO 4 f w)).alloc (rdO 0 0 0))) := Lib.hid (((Ev.refl W).alloc _).alloc _)
  have CK := Lib.hid (check_any 4 f w ((W.alloc (rdO 4 f w)).alloc (rdO 0 0 0)))
  have HT := Lib.hid hT
  rw [h0] at CK
  have CV := Lib.hid fun W h => cev_any 4 f w 4 n W h h0
  rw [hv] at CV
  clear hT HR0 h0 hv
  go_enter Tryd.func12, Tryd.ntmps12
  go_wp2_with fail
  refine CK.out.mono ?_
  rintro e w5 ⟨rfl, hev⟩
  have HE5 := Lib.hid (HE.out.step hev)
  have HB5 := Lib.hid (HB.out.ev hev)
  have HR5 := Lib.hid (HR.out.ev hev)
  clear hev
  obtain ⟨b0, b1, b2⟩ := HB5.out.c
  go_wp2_with fail
  refine (CV.out _ (HT.out.ev HE5.out)).mono ?_
  rintro e w6 ⟨rfl, hev⟩
  have HE6 := Lib.hid (HE5.out.step hev)
  have HB6 := Lib.hid (HB5.out.ev hev)
  have HR6 := Lib.hid (HR5.out.ev hev)
  clear hev b0 b1 b2
  obtain ⟨b0, b1, b2⟩ := HB6.out.c
  go_wp2_with fail
  refine (written_c W.heap.size f w w6 HB6.out).mono ?_
  rintro e w7 ⟨v, rfl, hown, hbx, hgb⟩
  have HO7 := Lib.hid hown
  have HS6 : Hid (W.heap.size + 1 < w6.heap.size) := Lib.hid (World.rowIs.lt HR6.out)
  have HR7 := Lib.hid (HR6.out.gb hgb (by omega))
  have HE7 : Hid (Ev W w7) := Lib.hid (Ev.grown HE6.out hgb (fun k hk => by cases hk; exact Nat.le_refl _))
  have HB7 := Lib.hid hbx
  clear hown hbx hgb b0 b1 b2
  obtain ⟨b0, b1, b2⟩ := HB7.out.c
  obtain ⟨r0, r1, r2⟩ := HR7.out.c
  obtain ⟨z0, z1, z2⟩ := HR7.out.z
  have HF : Hid (Ev W (((w7.setCell ⟨W.heap.size + 1, 0, none⟩ (.int .i64 5)).setCell ⟨W.heap.size + 1, 1, none⟩ (.int .i64 w)).setCell ⟨W.heap.size + 1, 2, none⟩ (.int .i64 (-1)))) := Lib.hid (((HE7.out.setC (by simp) _).setC (by simp) _).setC (by simp) _)
  have HOF : Hid (OwnI (((w7.setCell ⟨W.heap.size + 1, 0, none⟩ (.int .i64 5)).setCell ⟨W.heap.size + 1, 1, none⟩ (.int .i64 w)).setCell ⟨W.heap.size + 1, 2, none⟩ (.int .i64 (-1))) W.heap.size v (one f)) := Lib.hid (wk (own_set (own_set (own_set HO7.out _ _ HS6.out) _ _ HS6.out) _ _ HS6.out) (by have := HS6.out; omega))
  go_wp2_with fail
  exact bodyPost_ret (v := .tuple #[rd 5 w (-1), v, .int .i64 w, .int .i64 0]) (by simp [results, Tryd.results12, go_sem, *]) rfl ⟨_, rfl, HOF.out, HF.out⟩
set_option maxRecDepth 100000 in
set_option maxHeartbeats 4000000 in
theorem step4n (s f w n : Int) (W : World) (hT : Tab W) (h0 : ck s f w = 0) (hv : cev s w 4 n = 0) (hs : (s != 4) = true) :
    Calls Tryd.prog 12 #[rd s f w, .int .i64 4, .int .i64 n] W fun x w' => StepP W ⟨s, f, (-1), (one w), (-1)⟩ x w' := by
  have HB := Lib.hid ((BoxR.new W s f w).al (rdO 0 0 0))
  have HR0 := BoxR.new (W.alloc (rdO s f w)) 0 0 0
  rw [World.size_alloc] at HR0
  have HR := Lib.hid HR0
  have HE : Hid (Ev W ((W.alloc (rdO s f w)).alloc (rdO 0 0 0))) := Lib.hid (((Ev.refl W).alloc _).alloc _)
  have CK := Lib.hid (check_any s f w ((W.alloc (rdO s f w)).alloc (rdO 0 0 0)))
  have HT := Lib.hid hT
  rw [h0] at CK
  have CV := Lib.hid fun W h => cev_any s f w 4 n W h h0
  rw [hv] at CV
  clear hT HR0 h0 hv
  go_enter Tryd.func12, Tryd.ntmps12
  go_wp2_with fail
  refine CK.out.mono ?_
  rintro e w5 ⟨rfl, hev⟩
  have HE5 := Lib.hid (HE.out.step hev)
  have HB5 := Lib.hid (HB.out.ev hev)
  have HR5 := Lib.hid (HR.out.ev hev)
  clear hev
  obtain ⟨b0, b1, b2⟩ := HB5.out.c
  go_wp2_with fail
  refine (CV.out _ (HT.out.ev HE5.out)).mono ?_
  rintro e w6 ⟨rfl, hev⟩
  have HE6 := Lib.hid (HE5.out.step hev)
  have HB6 := Lib.hid (HB5.out.ev hev)
  have HR6 := Lib.hid (HR5.out.ev hev)
  clear hev b0 b1 b2
  obtain ⟨b0, b1, b2⟩ := HB6.out.c
  go_wp2_with fail
  refine (written_n W.heap.size s f w w6 HB6.out hs).mono ?_
  rintro e w7 ⟨v, rfl, hown, hbx, hgb⟩
  have HO7 := Lib.hid hown
  have HS6 : Hid (W.heap.size + 1 < w6.heap.size) := Lib.hid (World.rowIs.lt HR6.out)
  have HR7 := Lib.hid (HR6.out.gb hgb (by omega))
  have HE7 : Hid (Ev W w7) := Lib.hid (Ev.grown HE6.out hgb (fun k hk => by cases hk; exact Nat.le_refl _))
  have HB7 := Lib.hid hbx
  clear hown hbx hgb b0 b1 b2
  obtain ⟨b0, b1, b2⟩ := HB7.out.c
  obtain ⟨r0, r1, r2⟩ := HR7.out.c
  obtain ⟨z0, z1, z2⟩ := HR7.out.z
  have HF : Hid (Ev W (((w7.setCell ⟨W.heap.size + 1, 0, none⟩ (.int .i64 s)).setCell ⟨W.heap.size + 1, 1, none⟩ (.int .i64 f)).setCell ⟨W.heap.size + 1, 2, none⟩ (.int .i64 (-1)))) := Lib.hid (((HE7.out.setC (by simp) _).setC (by simp) _).setC (by simp) _)
  have HOF : Hid (OwnI (((w7.setCell ⟨W.heap.size + 1, 0, none⟩ (.int .i64 s)).setCell ⟨W.heap.size + 1, 1, none⟩ (.int .i64 f)).setCell ⟨W.heap.size + 1, 2, none⟩ (.int .i64 (-1))) W.heap.size v (one w)) := Lib.hid (wk (own_set (own_set (own_set HO7.out _ _ HS6.out) _ _ HS6.out) _ _ HS6.out) (by have := HS6.out; omega))
  go_wp2_with fail
  exact bodyPost_ret (v := .tuple #[rd s f (-1), v, .int .i64 (-1), .int .i64 0]) (by simp [results, Tryd.results12, go_sem, *]) rfl ⟨_, rfl, HOF.out, HF.out⟩
set_option maxRecDepth 100000 in
set_option maxHeartbeats 4000000 in
theorem step5o (f w n : Int) (W : World) (hT : Tab W) (h0 : ck 6 f w = 0) (hv : cev 6 w 5 n = 0) :
    Calls Tryd.prog 12 #[rd 6 f w, .int .i64 5, .int .i64 n] W fun x w' => StepP W ⟨8, (-1), w, (one f), (-1)⟩ x w' := by
  have HB := Lib.hid ((BoxR.new W 6 f w).al (rdO 0 0 0))
  have HR0 := BoxR.new (W.alloc (rdO 6 f w)) 0 0 0
  rw [World.size_alloc] at HR0
  have HR := Lib.hid HR0
  have HE : Hid (Ev W ((W.alloc (rdO 6 f w)).alloc (rdO 0 0 0))) := Lib.hid (((Ev.refl W).alloc _).alloc _)
  have CK := Lib.hid (check_any 6 f w ((W.alloc (rdO 6 f w)).alloc (rdO 0 0 0)))
  have HT := Lib.hid hT
  rw [h0] at CK
  have CV := Lib.hid fun W h => cev_any 6 f w 5 n W h h0
  rw [hv] at CV
  clear hT HR0 h0 hv
  go_enter Tryd.func12, Tryd.ntmps12
  go_wp2_with fail
  refine CK.out.mono ?_
  rintro e w5 ⟨rfl, hev⟩
  have HE5 := Lib.hid (HE.out.step hev)
  have HB5 := Lib.hid (HB.out.ev hev)
  have HR5 := Lib.hid (HR.out.ev hev)
  clear hev
  obtain ⟨b0, b1, b2⟩ := HB5.out.c
  go_wp2_with fail
  refine (CV.out _ (HT.out.ev HE5.out)).mono ?_
  rintro e w6 ⟨rfl, hev⟩
  have HE6 := Lib.hid (HE5.out.step hev)
  have HB6 := Lib.hid (HB5.out.ev hev)
  have HR6 := Lib.hid (HR5.out.ev hev)
  clear hev b0 b1 b2
  obtain ⟨b0, b1, b2⟩ := HB6.out.c
  go_wp2_with fail
  refine (read_o W.heap.size f w w6 HB6.out).mono ?_
  rintro e w7 ⟨v, rfl, hown, hbx, hgb⟩
  have HO7 := Lib.hid hown
  have HS6 : Hid (W.heap.size + 1 < w6.heap.size) := Lib.hid (World.rowIs.lt HR6.out)
  have HR7 := Lib.hid (HR6.out.gb hgb (by omega))
  have HE7 : Hid (Ev W w7) := Lib.hid (Ev.grown HE6.out hgb (fun k hk => by cases hk; exact Nat.le_refl _))
  have HB7 := Lib.hid hbx
  clear hown hbx hgb b0 b1 b2
  obtain ⟨b0, b1, b2⟩ := HB7.out.c
  obtain ⟨r0, r1, r2⟩ := HR7.out.c
  obtain ⟨z0, z1, z2⟩ := HR7.out.z
  have HF : Hid (Ev W (((w7.setCell ⟨W.heap.size + 1, 0, none⟩ (.int .i64 8)).setCell ⟨W.heap.size + 1, 1, none⟩ (.int .i64 (-1))).setCell ⟨W.heap.size + 1, 2, none⟩ (.int .i64 w))) := Lib.hid (((HE7.out.setC (by simp) _).setC (by simp) _).setC (by simp) _)
  have HOF : Hid (OwnI (((w7.setCell ⟨W.heap.size + 1, 0, none⟩ (.int .i64 8)).setCell ⟨W.heap.size + 1, 1, none⟩ (.int .i64 (-1))).setCell ⟨W.heap.size + 1, 2, none⟩ (.int .i64 w)) W.heap.size v (one f)) := Lib.hid (wk (own_set (own_set (own_set HO7.out _ _ HS6.out) _ _ HS6.out) _ _ HS6.out) (by have := HS6.out; omega))
  go_wp2_with fail
  exact bodyPost_ret (v := .tuple #[rd 8 (-1) w, v, .int .i64 (-1), .int .i64 0]) (by simp [results, Tryd.results12, go_sem, *]) rfl ⟨_, rfl, HOF.out, HF.out⟩
set_option maxRecDepth 100000 in
set_option maxHeartbeats 4000000 in
theorem step5r (s f w n : Int) (W : World) (hT : Tab W) (h0 : ck s f w = 0) (hv : cev s w 5 n = 0) (hs : (s == 6) = false) :
    Calls Tryd.prog 12 #[rd s f w, .int .i64 5, .int .i64 n] W fun x w' => StepP W ⟨5, f, w, [], f⟩ x w' := by
  have HB := Lib.hid ((BoxR.new W s f w).al (rdO 0 0 0))
  have HR0 := BoxR.new (W.alloc (rdO s f w)) 0 0 0
  rw [World.size_alloc] at HR0
  have HR := Lib.hid HR0
  have HE : Hid (Ev W ((W.alloc (rdO s f w)).alloc (rdO 0 0 0))) := Lib.hid (((Ev.refl W).alloc _).alloc _)
  have CK := Lib.hid (check_any s f w ((W.alloc (rdO s f w)).alloc (rdO 0 0 0)))
  have HT := Lib.hid hT
  rw [h0] at CK
  have CV := Lib.hid fun W h => cev_any s f w 5 n W h h0
  rw [hv] at CV
  clear hT HR0 h0 hv
  go_enter Tryd.func12, Tryd.ntmps12
  go_wp2_with fail
  refine CK.out.mono ?_
  rintro e w5 ⟨rfl, hev⟩
  have HE5 := Lib.hid (HE.out.step hev)
  have HB5 := Lib.hid (HB.out.ev hev)
  have HR5 := Lib.hid (HR.out.ev hev)
  clear hev
  obtain ⟨b0, b1, b2⟩ := HB5.out.c
  go_wp2_with fail
  refine (CV.out _ (HT.out.ev HE5.out)).mono ?_
  rintro e w6 ⟨rfl, hev⟩
  have HE6 := Lib.hid (HE5.out.step hev)
  have HB6 := Lib.hid (HB5.out.ev hev)
  have HR6 := Lib.hid (HR5.out.ev hev)
  clear hev b0 b1 b2
  obtain ⟨b0, b1, b2⟩ := HB6.out.c
  go_wp2_with fail
  refine (read_r W.heap.size s f w w6 HB6.out hs).mono ?_
  rintro e w7 ⟨v, rfl, hown, hbx, hgb⟩
  have HO7 := Lib.hid hown
  have HS6 : Hid (W.heap.size + 1 < w6.heap.size) := Lib.hid (World.rowIs.lt HR6.out)
  have HR7 := Lib.hid (HR6.out.gb hgb (by omega))
  have HE7 : Hid (Ev W w7) := Lib.hid (Ev.grown HE6.out hgb (fun k hk => by cases hk; exact Nat.le_refl _))
  have HB7 := Lib.hid hbx
  clear hown hbx hgb b0 b1 b2
  obtain ⟨b0, b1, b2⟩ := HB7.out.c
  obtain ⟨r0, r1, r2⟩ := HR7.out.c
  obtain ⟨z0, z1, z2⟩ := HR7.out.z
  have HF : Hid (Ev W (((w7.setCell ⟨W.heap.size + 1, 0, none⟩ (.int .i64 5)).setCell ⟨W.heap.size + 1, 1, none⟩ (.int .i64 f)).setCell ⟨W.heap.size + 1, 2, none⟩ (.int .i64 w))) := Lib.hid (((HE7.out.setC (by simp) _).setC (by simp) _).setC (by simp) _)
  have HOF : Hid (OwnI (((w7.setCell ⟨W.heap.size + 1, 0, none⟩ (.int .i64 5)).setCell ⟨W.heap.size + 1, 1, none⟩ (.int .i64 f)).setCell ⟨W.heap.size + 1, 2, none⟩ (.int .i64 w)) W.heap.size v []) := Lib.hid (wk (own_set (own_set (own_set HO7.out _ _ HS6.out) _ _ HS6.out) _ _ HS6.out) (by have := HS6.out; omega))
  go_wp2_with fail
  exact bodyPost_ret (v := .tuple #[rd 5 f w, v, .int .i64 f, .int .i64 0]) (by simp [results, Tryd.results12, go_sem, *]) rfl ⟨_, rfl, HOF.out, HF.out⟩
set_option maxRecDepth 100000 in
set_option maxHeartbeats 4000000 in
theorem step6r (f w n : Int) (W : World) (hT : Tab W) (h0 : ck 3 f w = 0) (hv : cev 3 w 6 n = 0) :
    Calls Tryd.prog 12 #[rd 3 f w, .int .i64 6, .int .i64 n] W fun x w' => StepP W ⟨6, f, w, [], (-1)⟩ x w' := by
  have HB := Lib.hid ((BoxR.new W 3 f w).al (rdO 0 0 0))
  have HR0 := BoxR.new (W.alloc (rdO 3 f w)) 0 0 0
  rw [World.size_alloc] at HR0
  have HR := Lib.hid HR0
  have HE : Hid (Ev W ((W.alloc (rdO 3 f w)).alloc (rdO 0 0 0))) := Lib.hid (((Ev.refl W).alloc _).alloc _)
  have CK := Lib.hid (check_any 3 f w ((W.alloc (rdO 3 f w)).alloc (rdO 0 0 0)))
  have HT := Lib.hid hT
  rw [h0] at CK
  have CV := Lib.hid fun W h => cev_any 3 f w 6 n W h h0
  rw [hv] at CV
  clear hT HR0 h0 hv
  go_enter Tryd.func12, Tryd.ntmps12
  go_wp2_with fail
  refine CK.out.mono ?_
  rintro e w5 ⟨rfl, hev⟩
  have HE5 := Lib.hid (HE.out.step hev)
  have HB5 := Lib.hid (HB.out.ev hev)
  have HR5 := Lib.hid (HR.out.ev hev)
  clear hev
  obtain ⟨b0, b1, b2⟩ := HB5.out.c
  go_wp2_with fail
  refine (CV.out _ (HT.out.ev HE5.out)).mono ?_
  rintro e w6 ⟨rfl, hev⟩
  have HE6 := Lib.hid (HE5.out.step hev)
  have HB6 := Lib.hid (HB5.out.ev hev)
  have HR6 := Lib.hid (HR5.out.ev hev)
  clear hev b0 b1 b2
  obtain ⟨b0, b1, b2⟩ := HB6.out.c
  go_wp2_with fail
  refine (kill_r W.heap.size f w w6 HB6.out).mono ?_
  rintro e w7 ⟨v, rfl, hown, hbx, hgb⟩
  have HO7 := Lib.hid hown
  have HS6 : Hid (W.heap.size + 1 < w6.heap.size) := Lib.hid (World.rowIs.lt HR6.out)
  have HR7 := Lib.hid (HR6.out.gb hgb (by omega))
  have HE7 : Hid (Ev W w7) := Lib.hid (Ev.grown HE6.out hgb (fun k hk => by cases hk; exact Nat.le_refl _))
  have HB7 := Lib.hid hbx
  clear hown hbx hgb b0 b1 b2
  obtain ⟨b0, b1, b2⟩ := HB7.out.c
  obtain ⟨r0, r1, r2⟩ := HR7.out.c
  obtain ⟨z0, z1, z2⟩ := HR7.out.z
  have HF : Hid (Ev W (((w7.setCell ⟨W.heap.size + 1, 0, none⟩ (.int .i64 6)).setCell ⟨W.heap.size + 1, 1, none⟩ (.int .i64 f)).setCell ⟨W.heap.size + 1, 2, none⟩ (.int .i64 w))) := Lib.hid (((HE7.out.setC (by simp) _).setC (by simp) _).setC (by simp) _)
  have HOF : Hid (OwnI (((w7.setCell ⟨W.heap.size + 1, 0, none⟩ (.int .i64 6)).setCell ⟨W.heap.size + 1, 1, none⟩ (.int .i64 f)).setCell ⟨W.heap.size + 1, 2, none⟩ (.int .i64 w)) W.heap.size v []) := Lib.hid (wk (own_set (own_set (own_set HO7.out _ _ HS6.out) _ _ HS6.out) _ _ HS6.out) (by have := HS6.out; omega))
  go_wp2_with fail
  exact bodyPost_ret (v := .tuple #[rd 6 f w, v, .int .i64 (-1), .int .i64 0]) (by simp [results, Tryd.results12, go_sem, *]) rfl ⟨_, rfl, HOF.out, HF.out⟩
set_option maxRecDepth 100000 in
set_option maxHeartbeats 4000000 in
theorem step6n (s f w n : Int) (W : World) (hT : Tab W) (h0 : ck s f w = 0) (hv : cev s w 6 n = 0) (hs : (s == 3) = false) :
    Calls Tryd.prog 12 #[rd s f w, .int .i64 6, .int .i64 n] W fun x w' => StepP W ⟨7, (-1), w, (one f), (-1)⟩ x w' := by
  have HB := Lib.hid ((BoxR.new W s f w).al (rdO 0 0 0))
  have HR0 := BoxR.new (W.alloc (rdO s f w)) 0 0 0
  rw [World.size_alloc] at HR0
  have HR := Lib.hid HR0
  have HE : Hid (Ev W ((W.alloc (rdO s f w)).alloc (rdO 0 0 0))) := Lib.hid (((Ev.refl W).alloc _).alloc _)
  have CK := Lib.hid (check_any s f w ((W.alloc (rdO s f w)).alloc (rdO 0 0 0)))
  have HT := Lib.hid hT
  rw [h0] at CK
  have CV := Lib.hid fun W h => cev_any s f w 6 n W h h0
  rw [hv] at CV
  clear hT HR0 h0 hv
  go_enter Tryd.func12, Tryd.ntmps12
  go_wp2_with fail
  refine CK.out.mono ?_
  rintro e w5 ⟨rfl, hev⟩
  have HE5 := Lib.hid (HE.out.step hev)
  have HB5 := Lib.hid (HB.out.ev hev)
  have HR5 := Lib.hid (HR.out.ev hev)
  clear hev
  obtain ⟨b0, b1, b2⟩ := HB5.out.c
  go_wp2_with fail
  refine (CV.out _ (HT.out.ev HE5.out)).mono ?_
  rintro e w6 ⟨rfl, hev⟩
  have HE6 := Lib.hid (HE5.out.step hev)
  have HB6 := Lib.hid (HB5.out.ev hev)
  have HR6 := Lib.hid (HR5.out.ev hev)
  clear hev b0 b1 b2
  obtain ⟨b0, b1, b2⟩ := HB6.out.c
  go_wp2_with fail
  refine (kill_n W.heap.size s f w w6 HB6.out hs).mono ?_
  rintro e w7 ⟨v, rfl, hown, hbx, hgb⟩
  have HO7 := Lib.hid hown
  have HS6 : Hid (W.heap.size + 1 < w6.heap.size) := Lib.hid (World.rowIs.lt HR6.out)
  have HR7 := Lib.hid (HR6.out.gb hgb (by omega))
  have HE7 : Hid (Ev W w7) := Lib.hid (Ev.grown HE6.out hgb (fun k hk => by cases hk; exact Nat.le_refl _))
  have HB7 := Lib.hid hbx
  clear hown hbx hgb b0 b1 b2
  obtain ⟨b0, b1, b2⟩ := HB7.out.c
  obtain ⟨r0, r1, r2⟩ := HR7.out.c
  obtain ⟨z0, z1, z2⟩ := HR7.out.z
  have HF : Hid (Ev W (((w7.setCell ⟨W.heap.size + 1, 0, none⟩ (.int .i64 7)).setCell ⟨W.heap.size + 1, 1, none⟩ (.int .i64 (-1))).setCell ⟨W.heap.size + 1, 2, none⟩ (.int .i64 w))) := Lib.hid (((HE7.out.setC (by simp) _).setC (by simp) _).setC (by simp) _)
  have HOF : Hid (OwnI (((w7.setCell ⟨W.heap.size + 1, 0, none⟩ (.int .i64 7)).setCell ⟨W.heap.size + 1, 1, none⟩ (.int .i64 (-1))).setCell ⟨W.heap.size + 1, 2, none⟩ (.int .i64 w)) W.heap.size v (one f)) := Lib.hid (wk (own_set (own_set (own_set HO7.out _ _ HS6.out) _ _ HS6.out) _ _ HS6.out) (by have := HS6.out; omega))
  go_wp2_with fail
  exact bodyPost_ret (v := .tuple #[rd 7 (-1) w, v, .int .i64 (-1), .int .i64 0]) (by simp [results, Tryd.results12, go_sem, *]) rfl ⟨_, rfl, HOF.out, HF.out⟩
end Go.Proofs.YtfiglmbnjfgdlaaDoor
