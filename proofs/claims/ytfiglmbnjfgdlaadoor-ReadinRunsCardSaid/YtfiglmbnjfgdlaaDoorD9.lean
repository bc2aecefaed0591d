import Derived.Test.YtfiglmbnjfgdlaaDoorD8
namespace Go.Proofs.YtfiglmbnjfgdlaaDoor
open Go.RowKit
def stE (s f w e n : Int) : Int := if ck s f w = 0 then cev s w e n else ck s f w
def stR (s f w e n : Int) : Res := if stE s f w e n = 0 then stp s f w e n else ⟨0, 0, 0, [], 0⟩
set_option maxRecDepth 100000 in
set_option maxHeartbeats 4000000 in
theorem step_bad (s f w e n er : Int) (W : World) (hT : Tab W) (hE : stE s f w e n = er) (hne : (er != 0) = true) :
    Calls Tryd.prog 12 #[rd s f w, .int .i64 e, .int .i64 n] W fun x w' => x = .returned (.tuple #[rd 0 0 0, .slice none 0 0, .int .i64 0, .int .i64 er]) ∧ Ev W w' := by
  have HB := Lib.hid ((BoxR.new W s f w).al (rdO 0 0 0))
  have HR0 := BoxR.new (W.alloc (rdO s f w)) 0 0 0
  rw [World.size_alloc] at HR0
  have HR := Lib.hid HR0
  have HE : Hid (Ev W ((W.alloc (rdO s f w)).alloc (rdO 0 0 0))) := Lib.hid (((Ev.refl W).alloc _).alloc _)
  have CK := Lib.hid (check_any s f w ((W.alloc (rdO s f w)).alloc (rdO 0 0 0)))
  have HT := Lib.hid hT
  unfold stE at hE
  by_cases h0 : ck s f w = 0
  · rw [if_pos h0] at hE
    rw [h0] at CK
    have CV := Lib.hid fun W h => cev_any s f w e n W h h0
    rw [hE] at CV
    clear hT hE h0 HR0
    go_enter Tryd.func12, Tryd.ntmps12
    go_wp2_with fail
    refine CK.out.mono ?_
    rintro e w5 ⟨rfl, hev⟩
    have HE5 := Lib.hid (HE.out.step hev)
    have HB5 := Lib.hid (HB.out.ev hev)
    have HR5 := Lib.hid (HR.out.ev hev)
    clear hev
    obtain ⟨b0, b1, b2⟩ := HB5.out.c
    go_wp2_with fail
    refine (CV.out _ (HT.out.ev HE5.out)).mono ?_
    rintro e w6 ⟨rfl, hev⟩
    have HE6 := Lib.hid (HE5.out.step hev)
    obtain ⟨r0, r1, r2⟩ := (HR5.out.ev hev).c
    obtain ⟨z0, z1, z2⟩ := (HR5.out.ev hev).z
    clear hev b0 b1 b2
    have HF : Hid (Ev W (((w6.setCell ⟨W.heap.size + 1, 0, none⟩ (.int .i64 0)).setCell ⟨W.heap.size + 1, 1, none⟩ (.int .i64 0)).setCell ⟨W.heap.size + 1, 2, none⟩ (.int .i64 0))) := Lib.hid (((HE6.out.setC (by simp) _).setC (by simp) _).setC (by simp) _)
    go_wp2_with fail
    exact bodyPost_ret (v := .tuple #[rd 0 0 0, .slice none 0 0, .int .i64 0, .int .i64 er]) (by simp [results, Tryd.results12, go_sem, *]) rfl ⟨rfl, HF.out⟩
  · rw [if_neg h0] at hE
    rw [hE] at CK
    clear hT hE h0 HR0
    go_enter Tryd.func12, Tryd.ntmps12
    go_wp2_with fail
    refine CK.out.mono ?_
    rintro e w6 ⟨rfl, hev⟩
    have HE6 := Lib.hid (HE.out.step hev)
    obtain ⟨r0, r1, r2⟩ := (HR.out.ev hev).c
    obtain ⟨z0, z1, z2⟩ := (HR.out.ev hev).z
    clear hev
    have HF : Hid (Ev W (((w6.setCell ⟨W.heap.size + 1, 0, none⟩ (.int .i64 0)).setCell ⟨W.heap.size + 1, 1, none⟩ (.int .i64 0)).setCell ⟨W.heap.size + 1, 2, none⟩ (.int .i64 0))) := Lib.hid (((HE6.out.setC (by simp) _).setC (by simp) _).setC (by simp) _)
    go_wp2_with fail
    exact bodyPost_ret (v := .tuple #[rd 0 0 0, .slice none 0 0, .int .i64 0, .int .i64 er]) (by simp [results, Tryd.results12, go_sem, *]) rfl ⟨rfl, HF.out⟩
end Go.Proofs.YtfiglmbnjfgdlaaDoor
