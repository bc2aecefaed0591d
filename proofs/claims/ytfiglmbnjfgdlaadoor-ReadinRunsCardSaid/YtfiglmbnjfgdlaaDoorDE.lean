import Derived.Test.YtfiglmbnjfgdlaaDoorDD
namespace Go.Proofs.YtfiglmbnjfgdlaaDoor
open Go.RowKit
set_option maxRecDepth 100000 in
set_option maxHeartbeats 8000000 in
theorem rstep4c (f w n : Int) (W : World) (h0 : ck 4 f w = 0) (hv : cev 4 w 4 n = 0) :
    Calls Tryd.prog 13 #[rd 4 f w, .int .i64 4, .int .i64 n] W fun x w' => StepP W ⟨5, w, (-1), (one f), w⟩ x w' := by
  have HB := Lib.hid ((BoxR.new W 4 f w).al (rdO 0 0 0))
  have HR0 := BoxR.new (W.alloc (rdO 4 f w)) 0 0 0
  rw [World.size_alloc] at HR0
  have HR := Lib.hid HR0
  have HE : Hid (Ev W ((W.alloc (rdO 4 f w)).alloc (rdO 0 0 0))) := Lib.hid (((Ev.refl W).alloc _).alloc _)
  have CK := Lib.hid (rcheck_any 4 f w ((W.alloc (rdO 4 f w)).alloc (rdO 0 0 0)))
  rw [h0] at CK
  obtain ⟨-, -, hm⟩ := cev_e 4 w 4 n hv
  have CA := Lib.hid fun W => allows_any 4 f w 4 W h0 (by decide)
  rw [hm] at CA
  have n1 : (n != -1) = false := by
    unfold cev at hv
    rw [if_neg (by decide)] at hv
    split at hv
    · cases hv
    · rename_i hq
      simp at hq
      simp [hq]
  clear HR0 h0 hv hm
  go_enter Tryd.func13, Tryd.ntmps13
  go_wp2_with fail
  refine CK.out.mono ?_
  rintro e w6 ⟨rfl, hev⟩
  have HE6 := Lib.hid (HE.out.step hev)
  have HB6 := Lib.hid (HB.out.ev hev)
  have HR6 := Lib.hid (HR.out.ev hev)
  clear hev
  obtain ⟨b0, b1, b2⟩ := HB6.out.c
  go_wp2_with fail
  refine (CA.out _).mono ?_
  rintro e w8 ⟨rfl, hev⟩
  have HE8 := Lib.hid (HE6.out.step hev)
  have HB8 := Lib.hid (HB6.out.ev hev)
  have HR8 := Lib.hid (HR6.out.ev hev)
  clear hev b0 b1 b2
  obtain ⟨b0, b1, b2⟩ := HB8.out.c
  go_upto_region 13 with fail
  clear b0 b1 b2
  have HP := Lib.hid (BoxR.new w8 4 f w)
  have HB9 := Lib.hid (HB8.out.al (rdO 4 f w))
  have HR9 := Lib.hid (HR8.out.al (rdO 4 f w))
  have HE9 : Hid (Ev W (w8.alloc (rdO 4 f w))) := Lib.hid (HE8.out.alloc _)
  have HSZ9 : Hid (w8.heap.size < (w8.alloc (rdO 4 f w)).heap.size) := Lib.hid (by simp)
  have hlt := World.rowIs.lt HR8.out
  generalize (w8.alloc (rdO 4 f w)) = w9 at *
  generalize w8.heap.size = p at *
  have HPG : Hid (W.heap.size ≤ p) := Lib.hid (by omega)
  have HN0 : Hid (W.heap.size ≠ p) := Lib.hid (by omega)
  have HN1 : Hid (W.heap.size + 1 ≠ p) := Lib.hid (by omega)
  have hn0 : ¬ W.heap.size = p := by omega
  have hn1 : ¬ W.heap.size + 1 = p := by omega
  have hn2 : ¬ p = W.heap.size := by omega
  have hn3 : ¬ p = W.heap.size + 1 := by omega
  clear hlt
  obtain ⟨b0, b1, b2⟩ := HB9.out.c
  obtain ⟨p0, p1, p2⟩ := HP.out.c
  obtain ⟨y0, y1, y2⟩ := HP.out.z
  have HEY : Hid (Ev W ((((w9.setCell ⟨p, 2, none⟩ (.int .i64 (-1))).setCell ⟨p, 0, none⟩ (.int .i64 5)).setCell ⟨p, 1, none⟩ (.int .i64 w)).setCell ⟨p, 2, none⟩ (.int .i64 (-1)))) := Lib.hid ((((HE9.out.setC HPG.out _).setC HPG.out _).setC HPG.out _).setC HPG.out _)
  have HPY : Hid (BoxR ((((w9.setCell ⟨p, 2, none⟩ (.int .i64 (-1))).setCell ⟨p, 0, none⟩ (.int .i64 5)).setCell ⟨p, 1, none⟩ (.int .i64 w)).setCell ⟨p, 2, none⟩ (.int .i64 (-1))) p 5 w (-1)) := Lib.hid ((((HP.out.set2 (-1)).set0 5).set1 w).set2 (-1))
  have HBY : Hid (BoxR ((((w9.setCell ⟨p, 2, none⟩ (.int .i64 (-1))).setCell ⟨p, 0, none⟩ (.int .i64 5)).setCell ⟨p, 1, none⟩ (.int .i64 w)).setCell ⟨p, 2, none⟩ (.int .i64 (-1))) W.heap.size 4 f w) := Lib.hid ((((HB9.out.oth HN0.out).oth HN0.out).oth HN0.out).oth HN0.out)
  have HRY : Hid (BoxR ((((w9.setCell ⟨p, 2, none⟩ (.int .i64 (-1))).setCell ⟨p, 0, none⟩ (.int .i64 5)).setCell ⟨p, 1, none⟩ (.int .i64 w)).setCell ⟨p, 2, none⟩ (.int .i64 (-1))) (W.heap.size + 1) 0 0 0) := Lib.hid ((((HR9.out.oth HN1.out).oth HN1.out).oth HN1.out).oth HN1.out)
  have CS := Lib.hid (some_any _ 1 [f] _ (RdI.lit ((((w9.setCell ⟨p, 2, none⟩ (.int .i64 (-1))).setCell ⟨p, 0, none⟩ (.int .i64 5)).setCell ⟨p, 1, none⟩ (.int .i64 w)).setCell ⟨p, 2, none⟩ (.int .i64 (-1))) #[.int .i64 f] 3 [f] rfl (by simp)) (by simp))
  rw [one_flt] at CS
  have HZY : Hid (((((w9.setCell ⟨p, 2, none⟩ (.int .i64 (-1))).setCell ⟨p, 0, none⟩ (.int .i64 5)).setCell ⟨p, 1, none⟩ (.int .i64 w)).setCell ⟨p, 2, none⟩ (.int .i64 (-1))).heap.size = w9.heap.size) := Lib.hid (by simp)
  rw [HZY.out] at CS
  go_wp2_with fail
  refine CS.out.mono ?_
  rintro e w10 ⟨v, rfl, hown, hev⟩
  have HE10 := Lib.hid ((HEY.out.alloc _).step hev)
  have HP10 := Lib.hid ((HPY.out.al _).ev hev)
  have HB10 := Lib.hid ((HBY.out.al _).ev hev)
  have HR10 := Lib.hid ((HRY.out.al _).ev hev)
  have HSA : Hid (W.heap.size + 1 < (((((w9.setCell ⟨p, 2, none⟩ (.int .i64 (-1))).setCell ⟨p, 0, none⟩ (.int .i64 5)).setCell ⟨p, 1, none⟩ (.int .i64 w)).setCell ⟨p, 2, none⟩ (.int .i64 (-1))).alloc (.cells #[.int .i64 f] 3)).heap.size) := Lib.hid (World.rowIs.lt (HRY.out.al _))
  have HO10 := Lib.hid hown
  clear hown hev b0 b1 b2 p0 p1 p2 y0 y1 y2
  obtain ⟨b0, b1, b2⟩ := HB10.out.c
  obtain ⟨p0, p1, p2⟩ := HP10.out.c
  obtain ⟨r0, r1, r2⟩ := HR10.out.c
  obtain ⟨z0, z1, z2⟩ := HR10.out.z
  have HF : Hid (Ev W (((w10.setCell ⟨W.heap.size + 1, 0, none⟩ (.int .i64 5)).setCell ⟨W.heap.size + 1, 1, none⟩ (.int .i64 w)).setCell ⟨W.heap.size + 1, 2, none⟩ (.int .i64 (-1)))) := Lib.hid (((HE10.out.setC (by simp) _).setC (by simp) _).setC (by simp) _)
  have HOF : Hid (OwnI (((w10.setCell ⟨W.heap.size + 1, 0, none⟩ (.int .i64 5)).setCell ⟨W.heap.size + 1, 1, none⟩ (.int .i64 w)).setCell ⟨W.heap.size + 1, 2, none⟩ (.int .i64 (-1))) W.heap.size v (one f)) := Lib.hid (wk (own_set (own_set (own_set HO10.out _ _ HSA.out) _ _ HSA.out) _ _ HSA.out) (by have := HSA.out; omega))
  go_wp2_with fail
  exact bodyPost_ret (v := .tuple #[rd 5 w (-1), v, .int .i64 w, .int .i64 0]) (by simp [results, Tryd.results13, go_sem, *]) rfl ⟨_, rfl, HOF.out, HF.out⟩
set_option maxRecDepth 100000 in
set_option maxHeartbeats 8000000 in
theorem rstep4n (s f w n : Int) (W : World) (h0 : ck s f w = 0) (hv : cev s w 4 n = 0) (hs : (s == 4) = false) :
    Calls Tryd.prog 13 #[rd s f w, .int .i64 4, .int .i64 n] W fun x w' => StepP W ⟨s, f, (-1), (one w), (-1)⟩ x w' := by
  have HB := Lib.hid ((BoxR.new W s f w).al (rdO 0 0 0))
  have HR0 := BoxR.new (W.alloc (rdO s f w)) 0 0 0
  rw [World.size_alloc] at HR0
  have HR := Lib.hid HR0
  have HE : Hid (Ev W ((W.alloc (rdO s f w)).alloc (rdO 0 0 0))) := Lib.hid (((Ev.refl W).alloc _).alloc _)
  have CK := Lib.hid (rcheck_any s f w ((W.alloc (rdO s f w)).alloc (rdO 0 0 0)))
  rw [h0] at CK
  obtain ⟨-, -, hm⟩ := cev_e s w 4 n hv
  have CA := Lib.hid fun W => allows_any s f w 4 W h0 (by decide)
  rw [hm] at CA
  have n1 : (n != -1) = false := by
    unfold cev at hv
    rw [if_neg (by decide)] at hv
    split at hv
    · cases hv
    · rename_i hq
      simp at hq
      simp [hq]
  clear HR0 h0 hv hm
  go_enter Tryd.func13, Tryd.ntmps13
  go_wp2_with fail
  refine CK.out.mono ?_
  rintro e w6 ⟨rfl, hev⟩
  have HE6 := Lib.hid (HE.out.step hev)
  have HB6 := Lib.hid (HB.out.ev hev)
  have HR6 := Lib.hid (HR.out.ev hev)
  clear hev
  obtain ⟨b0, b1, b2⟩ := HB6.out.c
  go_wp2_with fail
  refine (CA.out _).mono ?_
  rintro e w8 ⟨rfl, hev⟩
  have HE8 := Lib.hid (HE6.out.step hev)
  have HB8 := Lib.hid (HB6.out.ev hev)
  have HR8 := Lib.hid (HR6.out.ev hev)
  clear hev b0 b1 b2
  obtain ⟨b0, b1, b2⟩ := HB8.out.c
  go_upto_region 13 with fail
  clear b0 b1 b2
  have HP := Lib.hid (BoxR.new w8 s f w)
  have HB9 := Lib.hid (HB8.out.al (rdO s f w))
  have HR9 := Lib.hid (HR8.out.al (rdO s f w))
  have HE9 : Hid (Ev W (w8.alloc (rdO s f w))) := Lib.hid (HE8.out.alloc _)
  have HSZ9 : Hid (w8.heap.size < (w8.alloc (rdO s f w)).heap.size) := Lib.hid (by simp)
  have hlt := World.rowIs.lt HR8.out
  generalize (w8.alloc (rdO s f w)) = w9 at *
  generalize w8.heap.size = p at *
  have HPG : Hid (W.heap.size ≤ p) := Lib.hid (by omega)
  have HN0 : Hid (W.heap.size ≠ p) := Lib.hid (by omega)
  have HN1 : Hid (W.heap.size + 1 ≠ p) := Lib.hid (by omega)
  have hn0 : ¬ W.heap.size = p := by omega
  have hn1 : ¬ W.heap.size + 1 = p := by omega
  have hn2 : ¬ p = W.heap.size := by omega
  have hn3 : ¬ p = W.heap.size + 1 := by omega
  clear hlt
  obtain ⟨b0, b1, b2⟩ := HB9.out.c
  obtain ⟨p0, p1, p2⟩ := HP.out.c
  obtain ⟨y0, y1, y2⟩ := HP.out.z
  have HEY : Hid (Ev W (w9.setCell ⟨p, 2, none⟩ (.int .i64 (-1)))) := Lib.hid (HE9.out.setC HPG.out _)
  have HPY : Hid (BoxR (w9.setCell ⟨p, 2, none⟩ (.int .i64 (-1))) p s f (-1)) := Lib.hid (HP.out.set2 (-1))
  have HBY : Hid (BoxR (w9.setCell ⟨p, 2, none⟩ (.int .i64 (-1))) W.heap.size s f w) := Lib.hid (HB9.out.oth HN0.out)
  have HRY : Hid (BoxR (w9.setCell ⟨p, 2, none⟩ (.int .i64 (-1))) (W.heap.size + 1) 0 0 0) := Lib.hid (HR9.out.oth HN1.out)
  have CS := Lib.hid (some_any _ 1 [w] _ (RdI.lit (w9.setCell ⟨p, 2, none⟩ (.int .i64 (-1))) #[.int .i64 w] 3 [w] rfl (by simp)) (by simp))
  rw [one_flt] at CS
  have HZY : Hid ((w9.setCell ⟨p, 2, none⟩ (.int .i64 (-1))).heap.size = w9.heap.size) := Lib.hid (by simp)
  rw [HZY.out] at CS
  go_wp2_with fail
  refine CS.out.mono ?_
  rintro e w10 ⟨v, rfl, hown, hev⟩
  have HE10 := Lib.hid ((HEY.out.alloc _).step hev)
  have HP10 := Lib.hid ((HPY.out.al _).ev hev)
  have HB10 := Lib.hid ((HBY.out.al _).ev hev)
  have HR10 := Lib.hid ((HRY.out.al _).ev hev)
  have HSA : Hid (W.heap.size + 1 < ((w9.setCell ⟨p, 2, none⟩ (.int .i64 (-1))).alloc (.cells #[.int .i64 w] 3)).heap.size) := Lib.hid (World.rowIs.lt (HRY.out.al _))
  have HO10 := Lib.hid hown
  clear hown hev b0 b1 b2 p0 p1 p2 y0 y1 y2
  obtain ⟨b0, b1, b2⟩ := HB10.out.c
  obtain ⟨p0, p1, p2⟩ := HP10.out.c
  obtain ⟨r0, r1, r2⟩ := HR10.out.c
  obtain ⟨z0, z1, z2⟩ := HR10.out.z
  have HF : Hid (Ev W (((w10.setCell ⟨W.heap.size + 1, 0, none⟩ (.int .i64 s)).setCell ⟨W.heap.size + 1, 1, none⟩ (.int .i64 f)).setCell ⟨W.heap.size + 1, 2, none⟩ (.int .i64 (-1)))) := Lib.hid (((HE10.out.setC (by simp) _).setC (by simp) _).setC (by simp) _)
  have HOF : Hid (OwnI (((w10.setCell ⟨W.heap.size + 1, 0, none⟩ (.int .i64 s)).setCell ⟨W.heap.size + 1, 1, none⟩ (.int .i64 f)).setCell ⟨W.heap.size + 1, 2, none⟩ (.int .i64 (-1))) W.heap.size v (one w)) := Lib.hid (wk (own_set (own_set (own_set HO10.out _ _ HSA.out) _ _ HSA.out) _ _ HSA.out) (by have := HSA.out; omega))
  go_wp2_with fail
  exact bodyPost_ret (v := .tuple #[rd s f (-1), v, .int .i64 (-1), .int .i64 0]) (by simp [results, Tryd.results13, go_sem, *]) rfl ⟨_, rfl, HOF.out, HF.out⟩
set_option maxRecDepth 100000 in
set_option maxHeartbeats 8000000 in
theorem rstep5o (f n : Int) (W : World) (h0 : ck 6 f (-1) = 0) (hv : cev 6 (-1) 5 n = 0) :
    Calls Tryd.prog 13 #[rd 6 f (-1), .int .i64 5, .int .i64 n] W fun x w' => StepP W ⟨8, (-1), (-1), (one f), (-1)⟩ x w' := by
  have HB := Lib.hid ((BoxR.new W 6 f (-1)).al (rdO 0 0 0))
  have HR0 := BoxR.new (W.alloc (rdO 6 f (-1))) 0 0 0
  rw [World.size_alloc] at HR0
  have HR := Lib.hid HR0
  have HE : Hid (Ev W ((W.alloc (rdO 6 f (-1))).alloc (rdO 0 0 0))) := Lib.hid (((Ev.refl W).alloc _).alloc _)
  have CK := Lib.hid (rcheck_any 6 f (-1) ((W.alloc (rdO 6 f (-1))).alloc (rdO 0 0 0)))
  rw [h0] at CK
  obtain ⟨-, -, hm⟩ := cev_e 6 (-1) 5 n hv
  have CA := Lib.hid fun W => allows_any 6 f (-1) 5 W h0 (by decide)
  rw [hm] at CA
  have n1 : (n != -1) = false := by
    unfold cev at hv
    rw [if_neg (by decide)] at hv
    split at hv
    · cases hv
    · rename_i hq
      simp at hq
      simp [hq]
  clear HR0 h0 hv hm
  go_enter Tryd.func13, Tryd.ntmps13
  go_wp2_with fail
  refine CK.out.mono ?_
  rintro e w6 ⟨rfl, hev⟩
  have HE6 := Lib.hid (HE.out.step hev)
  have HB6 := Lib.hid (HB.out.ev hev)
  have HR6 := Lib.hid (HR.out.ev hev)
  clear hev
  obtain ⟨b0, b1, b2⟩ := HB6.out.c
  go_wp2_with fail
  refine (CA.out _).mono ?_
  rintro e w8 ⟨rfl, hev⟩
  have HE8 := Lib.hid (HE6.out.step hev)
  have HB8 := Lib.hid (HB6.out.ev hev)
  have HR8 := Lib.hid (HR6.out.ev hev)
  clear hev b0 b1 b2
  obtain ⟨b0, b1, b2⟩ := HB8.out.c
  go_upto_region 13 with fail
  clear b0 b1 b2
  have HP := Lib.hid (BoxR.new w8 6 f (-1))
  have HB9 := Lib.hid (HB8.out.al (rdO 6 f (-1)))
  have HR9 := Lib.hid (HR8.out.al (rdO 6 f (-1)))
  have HE9 : Hid (Ev W (w8.alloc (rdO 6 f (-1)))) := Lib.hid (HE8.out.alloc _)
  have HSZ9 : Hid (w8.heap.size < (w8.alloc (rdO 6 f (-1))).heap.size) := Lib.hid (by simp)
  have hlt := World.rowIs.lt HR8.out
  generalize (w8.alloc (rdO 6 f (-1))) = w9 at *
  generalize w8.heap.size = p at *
  have HPG : Hid (W.heap.size ≤ p) := Lib.hid (by omega)
  have HN0 : Hid (W.heap.size ≠ p) := Lib.hid (by omega)
  have HN1 : Hid (W.heap.size + 1 ≠ p) := Lib.hid (by omega)
  have hn0 : ¬ W.heap.size = p := by omega
  have hn1 : ¬ W.heap.size + 1 = p := by omega
  have hn2 : ¬ p = W.heap.size := by omega
  have hn3 : ¬ p = W.heap.size + 1 := by omega
  clear hlt
  obtain ⟨b0, b1, b2⟩ := HB9.out.c
  obtain ⟨p0, p1, p2⟩ := HP.out.c
  obtain ⟨y0, y1, y2⟩ := HP.out.z
  have HEY : Hid (Ev W (((w9.setCell ⟨p, 0, none⟩ (.int .i64 8)).setCell ⟨p, 1, none⟩ (.int .i64 (-1))).setCell ⟨p, 2, none⟩ (.int .i64 (-1)))) := Lib.hid (((HE9.out.setC HPG.out _).setC HPG.out _).setC HPG.out _)
  have HPY : Hid (BoxR (((w9.setCell ⟨p, 0, none⟩ (.int .i64 8)).setCell ⟨p, 1, none⟩ (.int .i64 (-1))).setCell ⟨p, 2, none⟩ (.int .i64 (-1))) p 8 (-1) (-1)) := Lib.hid (((HP.out.set0 8).set1 (-1)).set2 (-1))
  have HBY : Hid (BoxR (((w9.setCell ⟨p, 0, none⟩ (.int .i64 8)).setCell ⟨p, 1, none⟩ (.int .i64 (-1))).setCell ⟨p, 2, none⟩ (.int .i64 (-1))) W.heap.size 6 f (-1)) := Lib.hid (((HB9.out.oth HN0.out).oth HN0.out).oth HN0.out)
  have HRY : Hid (BoxR (((w9.setCell ⟨p, 0, none⟩ (.int .i64 8)).setCell ⟨p, 1, none⟩ (.int .i64 (-1))).setCell ⟨p, 2, none⟩ (.int .i64 (-1))) (W.heap.size + 1) 0 0 0) := Lib.hid (((HR9.out.oth HN1.out).oth HN1.out).oth HN1.out)
  have CS := Lib.hid (some_any _ 1 [f] _ (RdI.lit (((w9.setCell ⟨p, 0, none⟩ (.int .i64 8)).setCell ⟨p, 1, none⟩ (.int .i64 (-1))).setCell ⟨p, 2, none⟩ (.int .i64 (-1))) #[.int .i64 f] 3 [f] rfl (by simp)) (by simp))
  rw [one_flt] at CS
  have HZY : Hid ((((w9.setCell ⟨p, 0, none⟩ (.int .i64 8)).setCell ⟨p, 1, none⟩ (.int .i64 (-1))).setCell ⟨p, 2, none⟩ (.int .i64 (-1))).heap.size = w9.heap.size) := Lib.hid (by simp)
  rw [HZY.out] at CS
  go_wp2_with fail
  refine CS.out.mono ?_
  rintro e w10 ⟨v, rfl, hown, hev⟩
  have HE10 := Lib.hid ((HEY.out.alloc _).step hev)
  have HP10 := Lib.hid ((HPY.out.al _).ev hev)
  have HB10 := Lib.hid ((HBY.out.al _).ev hev)
  have HR10 := Lib.hid ((HRY.out.al _).ev hev)
  have HSA : Hid (W.heap.size + 1 < ((((w9.setCell ⟨p, 0, none⟩ (.int .i64 8)).setCell ⟨p, 1, none⟩ (.int .i64 (-1))).setCell ⟨p, 2, none⟩ (.int .i64 (-1))).alloc (.cells #[.int .i64 f] 3)).heap.size) := Lib.hid (World.rowIs.lt (HRY.out.al _))
  have HO10 := Lib.hid hown
  clear hown hev b0 b1 b2 p0 p1 p2 y0 y1 y2
  obtain ⟨b0, b1, b2⟩ := HB10.out.c
  obtain ⟨p0, p1, p2⟩ := HP10.out.c
  obtain ⟨r0, r1, r2⟩ := HR10.out.c
  obtain ⟨z0, z1, z2⟩ := HR10.out.z
  have HF : Hid (Ev W (((w10.setCell ⟨W.heap.size + 1, 0, none⟩ (.int .i64 8)).setCell ⟨W.heap.size + 1, 1, none⟩ (.int .i64 (-1))).setCell ⟨W.heap.size + 1, 2, none⟩ (.int .i64 (-1)))) := Lib.hid (((HE10.out.setC (by simp) _).setC (by simp) _).setC (by simp) _)
  have HOF : Hid (OwnI (((w10.setCell ⟨W.heap.size + 1, 0, none⟩ (.int .i64 8)).setCell ⟨W.heap.size + 1, 1, none⟩ (.int .i64 (-1))).setCell ⟨W.heap.size + 1, 2, none⟩ (.int .i64 (-1))) W.heap.size v (one f)) := Lib.hid (wk (own_set (own_set (own_set HO10.out _ _ HSA.out) _ _ HSA.out) _ _ HSA.out) (by have := HSA.out; omega))
  go_wp2_with fail
  exact bodyPost_ret (v := .tuple #[rd 8 (-1) (-1), v, .int .i64 (-1), .int .i64 0]) (by simp [results, Tryd.results13, go_sem, *]) rfl ⟨_, rfl, HOF.out, HF.out⟩
set_option maxRecDepth 100000 in
set_option maxHeartbeats 8000000 in
theorem rstep6n (s f w n : Int) (W : World) (h0 : ck s f w = 0) (hv : cev s w 6 n = 0) (hs : (s == 3) = false) :
    Calls Tryd.prog 13 #[rd s f w, .int .i64 6, .int .i64 n] W fun x w' => StepP W ⟨7, (-1), w, (one f), (-1)⟩ x w' := by
  have HB := Lib.hid ((BoxR.new W s f w).al (rdO 0 0 0))
  have HR0 := BoxR.new (W.alloc (rdO s f w)) 0 0 0
  rw [World.size_alloc] at HR0
  have HR := Lib.hid HR0
  have HE : Hid (Ev W ((W.alloc (rdO s f w)).alloc (rdO 0 0 0))) := Lib.hid (((Ev.refl W).alloc _).alloc _)
  have CK := Lib.hid (rcheck_any s f w ((W.alloc (rdO s f w)).alloc (rdO 0 0 0)))
  rw [h0] at CK
  obtain ⟨-, -, hm⟩ := cev_e s w 6 n hv
  have CA := Lib.hid fun W => allows_any s f w 6 W h0 (by decide)
  rw [hm] at CA
  have n1 : (n != -1) = false := by
    unfold cev at hv
    rw [if_neg (by decide)] at hv
    split at hv
    · cases hv
    · rename_i hq
      simp at hq
      simp [hq]
  clear HR0 h0 hv hm
  go_enter Tryd.func13, Tryd.ntmps13
  go_wp2_with fail
  refine CK.out.mono ?_
  rintro e w6 ⟨rfl, hev⟩
  have HE6 := Lib.hid (HE.out.step hev)
  have HB6 := Lib.hid (HB.out.ev hev)
  have HR6 := Lib.hid (HR.out.ev hev)
  clear hev
  obtain ⟨b0, b1, b2⟩ := HB6.out.c
  go_wp2_with fail
  refine (CA.out _).mono ?_
  rintro e w8 ⟨rfl, hev⟩
  have HE8 := Lib.hid (HE6.out.step hev)
  have HB8 := Lib.hid (HB6.out.ev hev)
  have HR8 := Lib.hid (HR6.out.ev hev)
  clear hev b0 b1 b2
  obtain ⟨b0, b1, b2⟩ := HB8.out.c
  go_upto_region 13 with fail
  clear b0 b1 b2
  have HP := Lib.hid (BoxR.new w8 s f w)
  have HB9 := Lib.hid (HB8.out.al (rdO s f w))
  have HR9 := Lib.hid (HR8.out.al (rdO s f w))
  have HE9 : Hid (Ev W (w8.alloc (rdO s f w))) := Lib.hid (HE8.out.alloc _)
  have HSZ9 : Hid (w8.heap.size < (w8.alloc (rdO s f w)).heap.size) := Lib.hid (by simp)
  have hlt := World.rowIs.lt HR8.out
  generalize (w8.alloc (rdO s f w)) = w9 at *
  generalize w8.heap.size = p at *
  have HPG : Hid (W.heap.size ≤ p) := Lib.hid (by omega)
  have HN0 : Hid (W.heap.size ≠ p) := Lib.hid (by omega)
  have HN1 : Hid (W.heap.size + 1 ≠ p) := Lib.hid (by omega)
  have hn0 : ¬ W.heap.size = p := by omega
  have hn1 : ¬ W.heap.size + 1 = p := by omega
  have hn2 : ¬ p = W.heap.size := by omega
  have hn3 : ¬ p = W.heap.size + 1 := by omega
  clear hlt
  obtain ⟨b0, b1, b2⟩ := HB9.out.c
  obtain ⟨p0, p1, p2⟩ := HP.out.c
  obtain ⟨y0, y1, y2⟩ := HP.out.z
  have HEY : Hid (Ev W (((w9.setCell ⟨p, 0, none⟩ (.int .i64 7)).setCell ⟨p, 1, none⟩ (.int .i64 (-1))).setCell ⟨p, 2, none⟩ (.int .i64 w))) := Lib.hid (((HE9.out.setC HPG.out _).setC HPG.out _).setC HPG.out _)
  have HPY : Hid (BoxR (((w9.setCell ⟨p, 0, none⟩ (.int .i64 7)).setCell ⟨p, 1, none⟩ (.int .i64 (-1))).setCell ⟨p, 2, none⟩ (.int .i64 w)) p 7 (-1) w) := Lib.hid (((HP.out.set0 7).set1 (-1)).set2 w)
  have HBY : Hid (BoxR (((w9.setCell ⟨p, 0, none⟩ (.int .i64 7)).setCell ⟨p, 1, none⟩ (.int .i64 (-1))).setCell ⟨p, 2, none⟩ (.int .i64 w)) W.heap.size s f w) := Lib.hid (((HB9.out.oth HN0.out).oth HN0.out).oth HN0.out)
  have HRY : Hid (BoxR (((w9.setCell ⟨p, 0, none⟩ (.int .i64 7)).setCell ⟨p, 1, none⟩ (.int .i64 (-1))).setCell ⟨p, 2, none⟩ (.int .i64 w)) (W.heap.size + 1) 0 0 0) := Lib.hid (((HR9.out.oth HN1.out).oth HN1.out).oth HN1.out)
  have CS := Lib.hid (some_any _ 1 [f] _ (RdI.lit (((w9.setCell ⟨p, 0, none⟩ (.int .i64 7)).setCell ⟨p, 1, none⟩ (.int .i64 (-1))).setCell ⟨p, 2, none⟩ (.int .i64 w)) #[.int .i64 f] 3 [f] rfl (by simp)) (by simp))
  rw [one_flt] at CS
  have HZY : Hid ((((w9.setCell ⟨p, 0, none⟩ (.int .i64 7)).setCell ⟨p, 1, none⟩ (.int .i64 (-1))).setCell ⟨p, 2, none⟩ (.int .i64 w)).heap.size = w9.heap.size) := Lib.hid (by simp)
  rw [HZY.out] at CS
  go_wp2_with fail
  refine CS.out.mono ?_
  rintro e w10 ⟨v, rfl, hown, hev⟩
  have HE10 := Lib.hid ((HEY.out.alloc _).step hev)
  have HP10 := Lib.hid ((HPY.out.al _).ev hev)
  have HB10 := Lib.hid ((HBY.out.al _).ev hev)
  have HR10 := Lib.hid ((HRY.out.al _).ev hev)
  have HSA : Hid (W.heap.size + 1 < ((((w9.setCell ⟨p, 0, none⟩ (.int .i64 7)).setCell ⟨p, 1, none⟩ (.int .i64 (-1))).setCell ⟨p, 2, none⟩ (.int .i64 w)).alloc (.cells #[.int .i64 f] 3)).heap.size) := Lib.hid (World.rowIs.lt (HRY.out.al _))
  have HO10 := Lib.hid hown
  clear hown hev b0 b1 b2 p0 p1 p2 y0 y1 y2
  obtain ⟨b0, b1, b2⟩ := HB10.out.c
  obtain ⟨p0, p1, p2⟩ := HP10.out.c
  obtain ⟨r0, r1, r2⟩ := HR10.out.c
  obtain ⟨z0, z1, z2⟩ := HR10.out.z
  have HF : Hid (Ev W (((w10.setCell ⟨W.heap.size + 1, 0, none⟩ (.int .i64 7)).setCell ⟨W.heap.size + 1, 1, none⟩ (.int .i64 (-1))).setCell ⟨W.heap.size + 1, 2, none⟩ (.int .i64 w))) := Lib.hid (((HE10.out.setC (by simp) _).setC (by simp) _).setC (by simp) _)
  have HOF : Hid (OwnI (((w10.setCell ⟨W.heap.size + 1, 0, none⟩ (.int .i64 7)).setCell ⟨W.heap.size + 1, 1, none⟩ (.int .i64 (-1))).setCell ⟨W.heap.size + 1, 2, none⟩ (.int .i64 w)) W.heap.size v (one f)) := Lib.hid (wk (own_set (own_set (own_set HO10.out _ _ HSA.out) _ _ HSA.out) _ _ HSA.out) (by have := HSA.out; omega))
  go_wp2_with fail
  exact bodyPost_ret (v := .tuple #[rd 7 (-1) w, v, .int .i64 (-1), .int .i64 0]) (by simp [results, Tryd.results13, go_sem, *]) rfl ⟨_, rfl, HOF.out, HF.out⟩
end Go.Proofs.YtfiglmbnjfgdlaaDoor
