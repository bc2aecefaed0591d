import Derived.Test.YtfiglmbnjfgdlaaDoorDC
namespace Go.Proofs.YtfiglmbnjfgdlaaDoor
open Go.RowKit
theorem BoxR.oth {W : World} {b c k : Nat} {s f w : Int} {v : Value} (h : BoxR W c s f w) (hne : c ≠ b) : BoxR (W.setCell ⟨b, k, none⟩ v) c s f w := World.rowIs.setOther h hne _
set_option maxRecDepth 100000 in
set_option maxHeartbeats 8000000 in
theorem rstep1 (s f n : Int) (W : World) (h0 : ck s f (-1) = 0) (hv : cev s (-1) 1 n = 0) :
    Calls Tryd.prog 13 #[rd s f (-1), .int .i64 1, .int .i64 n] W fun x w' => StepP W ⟨2, n, (-1), [], (-1)⟩ x w' := by
  have HB := Lib.hid ((BoxR.new W s f (-1)).al (rdO 0 0 0))
  have HR0 := BoxR.new (W.alloc (rdO s f (-1))) 0 0 0
  rw [World.size_alloc] at HR0
  have HR := Lib.hid HR0
  have HE : Hid (Ev W ((W.alloc (rdO s f (-1))).alloc (rdO 0 0 0))) := Lib.hid (((Ev.refl W).alloc _).alloc _)
  have CK := Lib.hid (rcheck_any s f (-1) ((W.alloc (rdO s f (-1))).alloc (rdO 0 0 0)))
  rw [h0] at CK
  obtain ⟨-, -, hm⟩ := cev_e s (-1) 1 n hv
  have CA := Lib.hid fun W => allows_any s f (-1) 1 W h0 (by decide)
  rw [hm] at CA
  have hif : inF n = true := by
    rcases hq : inF n with _ | _
    · unfold cev at hv
      rw [if_neg (by decide), if_pos (by left; exact ⟨rfl, hq⟩)] at hv
      cases hv
    · rfl
  have CF := Lib.hid fun W => risF_any n W
  rw [hif] at CF
  have hnw : (n == -1) = false := by unfold inF at hif; have := of_decide_eq_true hif; simp; omega
  clear hif
  clear HR0 h0 hv hm
  go_enter Tryd.func13, Tryd.ntmps13
  go_wp2_with fail
  refine CK.out.mono ?_
  rintro e w6 ⟨rfl, hev⟩
  have HE6 := Lib.hid (HE.out.step hev)
  have HB6 := Lib.hid (HB.out.ev hev)
  have HR6 := Lib.hid (HR.out.ev hev)
  clear hev
  obtain ⟨b0, b1, b2⟩ := HB6.out.c
  go_wp2_with fail
  refine (CF.out _).mono ?_
  rintro e wq ⟨rfl, rfl⟩
  go_wp2_with fail
  refine (CA.out _).mono ?_
  rintro e w8 ⟨rfl, hev⟩
  have HE8 := Lib.hid (HE6.out.step hev)
  have HB8 := Lib.hid (HB6.out.ev hev)
  have HR8 := Lib.hid (HR6.out.ev hev)
  clear hev b0 b1 b2
  obtain ⟨b0, b1, b2⟩ := HB8.out.c
  go_upto_region 13 with fail
  clear b0 b1 b2
  have HP := Lib.hid (BoxR.new w8 s f (-1))
  have HB9 := Lib.hid (HB8.out.al (rdO s f (-1)))
  have HR9 := Lib.hid (HR8.out.al (rdO s f (-1)))
  have HE9 : Hid (Ev W (w8.alloc (rdO s f (-1)))) := Lib.hid (HE8.out.alloc _)
  have HSZ9 : Hid (w8.heap.size < (w8.alloc (rdO s f (-1))).heap.size) := Lib.hid (by simp)
  have hlt := World.rowIs.lt HR8.out
  generalize (w8.alloc (rdO s f (-1))) = w9 at *
  generalize w8.heap.size = p at *
  have HPG : Hid (W.heap.size ≤ p) := Lib.hid (by omega)
  have HN0 : Hid (W.heap.size ≠ p) := Lib.hid (by omega)
  have HN1 : Hid (W.heap.size + 1 ≠ p) := Lib.hid (by omega)
  have hn0 : ¬ W.heap.size = p := by omega
  have hn1 : ¬ W.heap.size + 1 = p := by omega
  have hn2 : ¬ p = W.heap.size := by omega
  have hn3 : ¬ p = W.heap.size + 1 := by omega
  clear hlt
  obtain ⟨b0, b1, b2⟩ := HB9.out.c
  obtain ⟨p0, p1, p2⟩ := HP.out.c
  obtain ⟨y0, y1, y2⟩ := HP.out.z
  have HEY : Hid (Ev W (((w9.setCell ⟨p, 0, none⟩ (.int .i64 2)).setCell ⟨p, 1, none⟩ (.int .i64 n)).setCell ⟨p, 2, none⟩ (.int .i64 (-1)))) := Lib.hid (((HE9.out.setC HPG.out _).setC HPG.out _).setC HPG.out _)
  have HPY : Hid (BoxR (((w9.setCell ⟨p, 0, none⟩ (.int .i64 2)).setCell ⟨p, 1, none⟩ (.int .i64 n)).setCell ⟨p, 2, none⟩ (.int .i64 (-1))) p 2 n (-1)) := Lib.hid (((HP.out.set0 2).set1 n).set2 (-1))
  have HBY : Hid (BoxR (((w9.setCell ⟨p, 0, none⟩ (.int .i64 2)).setCell ⟨p, 1, none⟩ (.int .i64 n)).setCell ⟨p, 2, none⟩ (.int .i64 (-1))) W.heap.size s f (-1)) := Lib.hid (((HB9.out.oth HN0.out).oth HN0.out).oth HN0.out)
  have HRY : Hid (BoxR (((w9.setCell ⟨p, 0, none⟩ (.int .i64 2)).setCell ⟨p, 1, none⟩ (.int .i64 n)).setCell ⟨p, 2, none⟩ (.int .i64 (-1))) (W.heap.size + 1) 0 0 0) := Lib.hid (((HR9.out.oth HN1.out).oth HN1.out).oth HN1.out)
  obtain ⟨r0, r1, r2⟩ := HR9.out.c
  obtain ⟨z0, z1, z2⟩ := HR9.out.z
  have HF : Hid (Ev W ((((((w9.setCell ⟨p, 0, none⟩ (.int .i64 2)).setCell ⟨p, 1, none⟩ (.int .i64 n)).setCell ⟨p, 2, none⟩ (.int .i64 (-1))).setCell ⟨W.heap.size + 1, 0, none⟩ (.int .i64 2)).setCell ⟨W.heap.size + 1, 1, none⟩ (.int .i64 n)).setCell ⟨W.heap.size + 1, 2, none⟩ (.int .i64 (-1)))) := Lib.hid (((HEY.out.setC (by simp) _).setC (by simp) _).setC (by simp) _)
  go_wp2_with fail
  exact bodyPost_ret (v := .tuple #[rd 2 n (-1), .slice none 0 0, .int .i64 (-1), .int .i64 0]) (by simp [results, Tryd.results13, go_sem, *]) rfl ⟨_, rfl, nil_own _ _, HF.out⟩
set_option maxRecDepth 100000 in
set_option maxHeartbeats 8000000 in
theorem rstep2 (s f w n : Int) (W : World) (h0 : ck s f w = 0) (hv : cev s w 2 n = 0) :
    Calls Tryd.prog 13 #[rd s f w, .int .i64 2, .int .i64 n] W fun x w' => StepP W ⟨4, f, w, [], (-1)⟩ x w' := by
  have HB := Lib.hid ((BoxR.new W s f w).al (rdO 0 0 0))
  have HR0 := BoxR.new (W.alloc (rdO s f w)) 0 0 0
  rw [World.size_alloc] at HR0
  have HR := Lib.hid HR0
  have HE : Hid (Ev W ((W.alloc (rdO s f w)).alloc (rdO 0 0 0))) := Lib.hid (((Ev.refl W).alloc _).alloc _)
  have CK := Lib.hid (rcheck_any s f w ((W.alloc (rdO s f w)).alloc (rdO 0 0 0)))
  rw [h0] at CK
  obtain ⟨-, -, hm⟩ := cev_e s w 2 n hv
  have CA := Lib.hid fun W => allows_any s f w 2 W h0 (by decide)
  rw [hm] at CA
  have n1 : (n != -1) = false := by
    unfold cev at hv
    rw [if_neg (by decide)] at hv
    split at hv
    · cases hv
    · rename_i hq
      simp at hq
      simp [hq]
  clear HR0 h0 hv hm
  go_enter Tryd.func13, Tryd.ntmps13
  go_wp2_with fail
  refine CK.out.mono ?_
  rintro e w6 ⟨rfl, hev⟩
  have HE6 := Lib.hid (HE.out.step hev)
  have HB6 := Lib.hid (HB.out.ev hev)
  have HR6 := Lib.hid (HR.out.ev hev)
  clear hev
  obtain ⟨b0, b1, b2⟩ := HB6.out.c
  go_wp2_with fail
  refine (CA.out _).mono ?_
  rintro e w8 ⟨rfl, hev⟩
  have HE8 := Lib.hid (HE6.out.step hev)
  have HB8 := Lib.hid (HB6.out.ev hev)
  have HR8 := Lib.hid (HR6.out.ev hev)
  clear hev b0 b1 b2
  obtain ⟨b0, b1, b2⟩ := HB8.out.c
  go_upto_region 13 with fail
  clear b0 b1 b2
  have HP := Lib.hid (BoxR.new w8 s f w)
  have HB9 := Lib.hid (HB8.out.al (rdO s f w))
  have HR9 := Lib.hid (HR8.out.al (rdO s f w))
  have HE9 : Hid (Ev W (w8.alloc (rdO s f w))) := Lib.hid (HE8.out.alloc _)
  have HSZ9 : Hid (w8.heap.size < (w8.alloc (rdO s f w)).heap.size) := Lib.hid (by simp)
  have hlt := World.rowIs.lt HR8.out
  generalize (w8.alloc (rdO s f w)) = w9 at *
  generalize w8.heap.size = p at *
  have HPG : Hid (W.heap.size ≤ p) := Lib.hid (by omega)
  have HN0 : Hid (W.heap.size ≠ p) := Lib.hid (by omega)
  have HN1 : Hid (W.heap.size + 1 ≠ p) := Lib.hid (by omega)
  have hn0 : ¬ W.heap.size = p := by omega
  have hn1 : ¬ W.heap.size + 1 = p := by omega
  have hn2 : ¬ p = W.heap.size := by omega
  have hn3 : ¬ p = W.heap.size + 1 := by omega
  clear hlt
  obtain ⟨b0, b1, b2⟩ := HB9.out.c
  obtain ⟨p0, p1, p2⟩ := HP.out.c
  obtain ⟨y0, y1, y2⟩ := HP.out.z
  have HEY : Hid (Ev W (w9.setCell ⟨p, 0, none⟩ (.int .i64 4))) := Lib.hid (HE9.out.setC HPG.out _)
  have HPY : Hid (BoxR (w9.setCell ⟨p, 0, none⟩ (.int .i64 4)) p 4 f w) := Lib.hid (HP.out.set0 4)
  have HBY : Hid (BoxR (w9.setCell ⟨p, 0, none⟩ (.int .i64 4)) W.heap.size s f w) := Lib.hid (HB9.out.oth HN0.out)
  have HRY : Hid (BoxR (w9.setCell ⟨p, 0, none⟩ (.int .i64 4)) (W.heap.size + 1) 0 0 0) := Lib.hid (HR9.out.oth HN1.out)
  obtain ⟨r0, r1, r2⟩ := HR9.out.c
  obtain ⟨z0, z1, z2⟩ := HR9.out.z
  have HF : Hid (Ev W ((((w9.setCell ⟨p, 0, none⟩ (.int .i64 4)).setCell ⟨W.heap.size + 1, 0, none⟩ (.int .i64 4)).setCell ⟨W.heap.size + 1, 1, none⟩ (.int .i64 f)).setCell ⟨W.heap.size + 1, 2, none⟩ (.int .i64 w))) := Lib.hid (((HEY.out.setC (by simp) _).setC (by simp) _).setC (by simp) _)
  go_wp2_with fail
  exact bodyPost_ret (v := .tuple #[rd 4 f w, .slice none 0 0, .int .i64 (-1), .int .i64 0]) (by simp [results, Tryd.results13, go_sem, *]) rfl ⟨_, rfl, nil_own _ _, HF.out⟩
set_option maxRecDepth 100000 in
set_option maxHeartbeats 8000000 in
theorem rstep3 (s f w n : Int) (W : World) (h0 : ck s f w = 0) (hv : cev s w 3 n = 0) :
    Calls Tryd.prog 13 #[rd s f w, .int .i64 3, .int .i64 n] W fun x w' => StepP W ⟨3, f, w, [], (-1)⟩ x w' := by
  have HB := Lib.hid ((BoxR.new W s f w).al (rdO 0 0 0))
  have HR0 := BoxR.new (W.alloc (rdO s f w)) 0 0 0
  rw [World.size_alloc] at HR0
  have HR := Lib.hid HR0
  have HE : Hid (Ev W ((W.alloc (rdO s f w)).alloc (rdO 0 0 0))) := Lib.hid (((Ev.refl W).alloc _).alloc _)
  have CK := Lib.hid (rcheck_any s f w ((W.alloc (rdO s f w)).alloc (rdO 0 0 0)))
  rw [h0] at CK
  obtain ⟨-, -, hm⟩ := cev_e s w 3 n hv
  have CA := Lib.hid fun W => allows_any s f w 3 W h0 (by decide)
  rw [hm] at CA
  have n1 : (n != -1) = false := by
    unfold cev at hv
    rw [if_neg (by decide)] at hv
    split at hv
    · cases hv
    · rename_i hq
      simp at hq
      simp [hq]
  clear HR0 h0 hv hm
  go_enter Tryd.func13, Tryd.ntmps13
  go_wp2_with fail
  refine CK.out.mono ?_
  rintro e w6 ⟨rfl, hev⟩
  have HE6 := Lib.hid (HE.out.step hev)
  have HB6 := Lib.hid (HB.out.ev hev)
  have HR6 := Lib.hid (HR.out.ev hev)
  clear hev
  obtain ⟨b0, b1, b2⟩ := HB6.out.c
  go_wp2_with fail
  refine (CA.out _).mono ?_
  rintro e w8 ⟨rfl, hev⟩
  have HE8 := Lib.hid (HE6.out.step hev)
  have HB8 := Lib.hid (HB6.out.ev hev)
  have HR8 := Lib.hid (HR6.out.ev hev)
  clear hev b0 b1 b2
  obtain ⟨b0, b1, b2⟩ := HB8.out.c
  go_upto_region 13 with fail
  clear b0 b1 b2
  have HP := Lib.hid (BoxR.new w8 s f w)
  have HB9 := Lib.hid (HB8.out.al (rdO s f w))
  have HR9 := Lib.hid (HR8.out.al (rdO s f w))
  have HE9 : Hid (Ev W (w8.alloc (rdO s f w))) := Lib.hid (HE8.out.alloc _)
  have HSZ9 : Hid (w8.heap.size < (w8.alloc (rdO s f w)).heap.size) := Lib.hid (by simp)
  have hlt := World.rowIs.lt HR8.out
  generalize (w8.alloc (rdO s f w)) = w9 at *
  generalize w8.heap.size = p at *
  have HPG : Hid (W.heap.size ≤ p) := Lib.hid (by omega)
  have HN0 : Hid (W.heap.size ≠ p) := Lib.hid (by omega)
  have HN1 : Hid (W.heap.size + 1 ≠ p) := Lib.hid (by omega)
  have hn0 : ¬ W.heap.size = p := by omega
  have hn1 : ¬ W.heap.size + 1 = p := by omega
  have hn2 : ¬ p = W.heap.size := by omega
  have hn3 : ¬ p = W.heap.size + 1 := by omega
  clear hlt
  obtain ⟨b0, b1, b2⟩ := HB9.out.c
  obtain ⟨p0, p1, p2⟩ := HP.out.c
  obtain ⟨y0, y1, y2⟩ := HP.out.z
  have HEY : Hid (Ev W (w9.setCell ⟨p, 0, none⟩ (.int .i64 3))) := Lib.hid (HE9.out.setC HPG.out _)
  have HPY : Hid (BoxR (w9.setCell ⟨p, 0, none⟩ (.int .i64 3)) p 3 f w) := Lib.hid (HP.out.set0 3)
  have HBY : Hid (BoxR (w9.setCell ⟨p, 0, none⟩ (.int .i64 3)) W.heap.size s f w) := Lib.hid (HB9.out.oth HN0.out)
  have HRY : Hid (BoxR (w9.setCell ⟨p, 0, none⟩ (.int .i64 3)) (W.heap.size + 1) 0 0 0) := Lib.hid (HR9.out.oth HN1.out)
  obtain ⟨r0, r1, r2⟩ := HR9.out.c
  obtain ⟨z0, z1, z2⟩ := HR9.out.z
  have HF : Hid (Ev W ((((w9.setCell ⟨p, 0, none⟩ (.int .i64 3)).setCell ⟨W.heap.size + 1, 0, none⟩ (.int .i64 3)).setCell ⟨W.heap.size + 1, 1, none⟩ (.int .i64 f)).setCell ⟨W.heap.size + 1, 2, none⟩ (.int .i64 w))) := Lib.hid (((HEY.out.setC (by simp) _).setC (by simp) _).setC (by simp) _)
  go_wp2_with fail
  exact bodyPost_ret (v := .tuple #[rd 3 f w, .slice none 0 0, .int .i64 (-1), .int .i64 0]) (by simp [results, Tryd.results13, go_sem, *]) rfl ⟨_, rfl, nil_own _ _, HF.out⟩
set_option maxRecDepth 100000 in
set_option maxHeartbeats 8000000 in
theorem rstep5r (f w n : Int) (W : World) (h0 : ck 3 f w = 0) (hv : cev 3 w 5 n = 0) :
    Calls Tryd.prog 13 #[rd 3 f w, .int .i64 5, .int .i64 n] W fun x w' => StepP W ⟨5, f, w, [], f⟩ x w' := by
  have HB := Lib.hid ((BoxR.new W 3 f w).al (rdO 0 0 0))
  have HR0 := BoxR.new (W.alloc (rdO 3 f w)) 0 0 0
  rw [World.size_alloc] at HR0
  have HR := Lib.hid HR0
  have HE : Hid (Ev W ((W.alloc (rdO 3 f w)).alloc (rdO 0 0 0))) := Lib.hid (((Ev.refl W).alloc _).alloc _)
  have CK := Lib.hid (rcheck_any 3 f w ((W.alloc (rdO 3 f w)).alloc (rdO 0 0 0)))
  rw [h0] at CK
  obtain ⟨-, -, hm⟩ := cev_e 3 w 5 n hv
  have CA := Lib.hid fun W => allows_any 3 f w 5 W h0 (by decide)
  rw [hm] at CA
  have n1 : (n != -1) = false := by
    unfold cev at hv
    rw [if_neg (by decide)] at hv
    split at hv
    · cases hv
    · rename_i hq
      simp at hq
      simp [hq]
  clear HR0 h0 hv hm
  go_enter Tryd.func13, Tryd.ntmps13
  go_wp2_with fail
  refine CK.out.mono ?_
  rintro e w6 ⟨rfl, hev⟩
  have HE6 := Lib.hid (HE.out.step hev)
  have HB6 := Lib.hid (HB.out.ev hev)
  have HR6 := Lib.hid (HR.out.ev hev)
  clear hev
  obtain ⟨b0, b1, b2⟩ := HB6.out.c
  go_wp2_with fail
  refine (CA.out _).mono ?_
  rintro e w8 ⟨rfl, hev⟩
  have HE8 := Lib.hid (HE6.out.step hev)
  have HB8 := Lib.hid (HB6.out.ev hev)
  have HR8 := Lib.hid (HR6.out.ev hev)
  clear hev b0 b1 b2
  obtain ⟨b0, b1, b2⟩ := HB8.out.c
  go_upto_region 13 with fail
  clear b0 b1 b2
  have HP := Lib.hid (BoxR.new w8 3 f w)
  have HB9 := Lib.hid (HB8.out.al (rdO 3 f w))
  have HR9 := Lib.hid (HR8.out.al (rdO 3 f w))
  have HE9 : Hid (Ev W (w8.alloc (rdO 3 f w))) := Lib.hid (HE8.out.alloc _)
  have HSZ9 : Hid (w8.heap.size < (w8.alloc (rdO 3 f w)).heap.size) := Lib.hid (by simp)
  have hlt := World.rowIs.lt HR8.out
  generalize (w8.alloc (rdO 3 f w)) = w9 at *
  generalize w8.heap.size = p at *
  have HPG : Hid (W.heap.size ≤ p) := Lib.hid (by omega)
  have HN0 : Hid (W.heap.size ≠ p) := Lib.hid (by omega)
  have HN1 : Hid (W.heap.size + 1 ≠ p) := Lib.hid (by omega)
  have hn0 : ¬ W.heap.size = p := by omega
  have hn1 : ¬ W.heap.size + 1 = p := by omega
  have hn2 : ¬ p = W.heap.size := by omega
  have hn3 : ¬ p = W.heap.size + 1 := by omega
  clear hlt
  obtain ⟨b0, b1, b2⟩ := HB9.out.c
  obtain ⟨p0, p1, p2⟩ := HP.out.c
  obtain ⟨y0, y1, y2⟩ := HP.out.z
  have HEY : Hid (Ev W (w9.setCell ⟨p, 0, none⟩ (.int .i64 5))) := Lib.hid (HE9.out.setC HPG.out _)
  have HPY : Hid (BoxR (w9.setCell ⟨p, 0, none⟩ (.int .i64 5)) p 5 f w) := Lib.hid (HP.out.set0 5)
  have HBY : Hid (BoxR (w9.setCell ⟨p, 0, none⟩ (.int .i64 5)) W.heap.size 3 f w) := Lib.hid (HB9.out.oth HN0.out)
  have HRY : Hid (BoxR (w9.setCell ⟨p, 0, none⟩ (.int .i64 5)) (W.heap.size + 1) 0 0 0) := Lib.hid (HR9.out.oth HN1.out)
  obtain ⟨r0, r1, r2⟩ := HR9.out.c
  obtain ⟨z0, z1, z2⟩ := HR9.out.z
  have HF : Hid (Ev W ((((w9.setCell ⟨p, 0, none⟩ (.int .i64 5)).setCell ⟨W.heap.size + 1, 0, none⟩ (.int .i64 5)).setCell ⟨W.heap.size + 1, 1, none⟩ (.int .i64 f)).setCell ⟨W.heap.size + 1, 2, none⟩ (.int .i64 w))) := Lib.hid (((HEY.out.setC (by simp) _).setC (by simp) _).setC (by simp) _)
  go_wp2_with fail
  exact bodyPost_ret (v := .tuple #[rd 5 f w, .slice none 0 0, .int .i64 f, .int .i64 0]) (by simp [results, Tryd.results13, go_sem, *]) rfl ⟨_, rfl, nil_own _ _, HF.out⟩
set_option maxRecDepth 100000 in
set_option maxHeartbeats 8000000 in
theorem rstep6r (f w n : Int) (W : World) (h0 : ck 3 f w = 0) (hv : cev 3 w 6 n = 0) :
    Calls Tryd.prog 13 #[rd 3 f w, .int .i64 6, .int .i64 n] W fun x w' => StepP W ⟨6, f, w, [], (-1)⟩ x w' := by
  have HB := Lib.hid ((BoxR.new W 3 f w).al (rdO 0 0 0))
  have HR0 := BoxR.new (W.alloc (rdO 3 f w)) 0 0 0
  rw [World.size_alloc] at HR0
  have HR := Lib.hid HR0
  have HE : Hid (Ev W ((W.alloc (rdO 3 f w)).alloc (rdO 0 0 0))) := Lib.hid (((Ev.refl W).alloc _).alloc _)
  have CK := Lib.hid (rcheck_any 3 f w ((W.alloc (rdO 3 f w)).alloc (rdO 0 0 0)))
  rw [h0] at CK
  obtain ⟨-, -, hm⟩ := cev_e 3 w 6 n hv
  have CA := Lib.hid fun W => allows_any 3 f w 6 W h0 (by decide)
  rw [hm] at CA
  have n1 : (n != -1) = false := by
    unfold cev at hv
    rw [if_neg (by decide)] at hv
    split at hv
    · cases hv
    · rename_i hq
      simp at hq
      simp [hq]
  clear HR0 h0 hv hm
  go_enter Tryd.func13, Tryd.ntmps13
  go_wp2_with fail
  refine CK.out.mono ?_
  rintro e w6 ⟨rfl, hev⟩
  have HE6 := Lib.hid (HE.out.step hev)
  have HB6 := Lib.hid (HB.out.ev hev)
  have HR6 := Lib.hid (HR.out.ev hev)
  clear hev
  obtain ⟨b0, b1, b2⟩ := HB6.out.c
  go_wp2_with fail
  refine (CA.out _).mono ?_
  rintro e w8 ⟨rfl, hev⟩
  have HE8 := Lib.hid (HE6.out.step hev)
  have HB8 := Lib.hid (HB6.out.ev hev)
  have HR8 := Lib.hid (HR6.out.ev hev)
  clear hev b0 b1 b2
  obtain ⟨b0, b1, b2⟩ := HB8.out.c
  go_upto_region 13 with fail
  clear b0 b1 b2
  have HP := Lib.hid (BoxR.new w8 3 f w)
  have HB9 := Lib.hid (HB8.out.al (rdO 3 f w))
  have HR9 := Lib.hid (HR8.out.al (rdO 3 f w))
  have HE9 : Hid (Ev W (w8.alloc (rdO 3 f w))) := Lib.hid (HE8.out.alloc _)
  have HSZ9 : Hid (w8.heap.size < (w8.alloc (rdO 3 f w)).heap.size) := Lib.hid (by simp)
  have hlt := World.rowIs.lt HR8.out
  generalize (w8.alloc (rdO 3 f w)) = w9 at *
  generalize w8.heap.size = p at *
  have HPG : Hid (W.heap.size ≤ p) := Lib.hid (by omega)
  have HN0 : Hid (W.heap.size ≠ p) := Lib.hid (by omega)
  have HN1 : Hid (W.heap.size + 1 ≠ p) := Lib.hid (by omega)
  have hn0 : ¬ W.heap.size = p := by omega
  have hn1 : ¬ W.heap.size + 1 = p := by omega
  have hn2 : ¬ p = W.heap.size := by omega
  have hn3 : ¬ p = W.heap.size + 1 := by omega
  clear hlt
  obtain ⟨b0, b1, b2⟩ := HB9.out.c
  obtain ⟨p0, p1, p2⟩ := HP.out.c
  obtain ⟨y0, y1, y2⟩ := HP.out.z
  have HEY : Hid (Ev W (w9.setCell ⟨p, 0, none⟩ (.int .i64 6))) := Lib.hid (HE9.out.setC HPG.out _)
  have HPY : Hid (BoxR (w9.setCell ⟨p, 0, none⟩ (.int .i64 6)) p 6 f w) := Lib.hid (HP.out.set0 6)
  have HBY : Hid (BoxR (w9.setCell ⟨p, 0, none⟩ (.int .i64 6)) W.heap.size 3 f w) := Lib.hid (HB9.out.oth HN0.out)
  have HRY : Hid (BoxR (w9.setCell ⟨p, 0, none⟩ (.int .i64 6)) (W.heap.size + 1) 0 0 0) := Lib.hid (HR9.out.oth HN1.out)
  obtain ⟨r0, r1, r2⟩ := HR9.out.c
  obtain ⟨z0, z1, z2⟩ := HR9.out.z
  have HF : Hid (Ev W ((((w9.setCell ⟨p, 0, none⟩ (.int .i64 6)).setCell ⟨W.heap.size + 1, 0, none⟩ (.int .i64 6)).setCell ⟨W.heap.size + 1, 1, none⟩ (.int .i64 f)).setCell ⟨W.heap.size + 1, 2, none⟩ (.int .i64 w))) := Lib.hid (((HEY.out.setC (by simp) _).setC (by simp) _).setC (by simp) _)
  go_wp2_with fail
  exact bodyPost_ret (v := .tuple #[rd 6 f w, .slice none 0 0, .int .i64 (-1), .int .i64 0]) (by simp [results, Tryd.results13, go_sem, *]) rfl ⟨_, rfl, nil_own _ _, HF.out⟩
end Go.Proofs.YtfiglmbnjfgdlaaDoor
