import Derived.Test.YtfiglmbnjfgdlaaDoorDK
namespace Go.Proofs.YtfiglmbnjfgdlaaDoor
open Go.RowKit
theorem eq3 (a b : Int) (n : Nat) (w : World) : Sem.run Tryd.prog (Op.equalIn (n + 1) 3 (.int .i64 a) (.int .i64 b)) w = .ok (a == b) w := by
  unfold Op.equalIn
  simp [run_underlying Tryd.underlying3]
set_option maxHeartbeats 1000000 in
theorem eq23 (a b c a' b' c' : Int) (w : World) : Sem.run Tryd.prog (Op.equalIn 10000 23 (rd a b c) (rd a' b' c')) w = .ok ((a == a') && (b == b') && (c == c')) w := by
  rw [show (10000 : Nat) = 9998 + 1 + 1 from rfl]
  unfold Op.equalIn
  simp [run_underlying Tryd.underlying23, go_sem, eq3]
  repeat' split
  all_goals simp_all
theorem eqR : ∀ a b c W, Sem.run Tryd.prog (Op.equalIn 10000 23 (rd a b c) (rd a b c)) W = .ok true W := fun a b c W => by rw [eq23]; simp
theorem at_any (s f w : Int) (W : World) : Calls Tryd.prog 28 #[.int .i64 s, .int .i64 f, .int .i64 w] W fun e w' => e = .returned (rd s f w) ∧ Ev W w' := by
  have HE : Hid (Ev W (W.alloc (rdO s f w))) := Lib.hid (al1 _ _)
  go_enter Tryd.func28, Tryd.ntmps28
  go_wp2_with fail
  exact bodyPost_ret (v := rd s f w) (by simp [results, Tryd.results28, go_sem]) rfl ⟨rfl, HE.out⟩
set_option maxRecDepth 100000 in
set_option maxHeartbeats 8000000 in
theorem goes_any (s f w e n s' f' w' m : Int) (L : List Int) (A : Option Addr) (c : Nat) (W : World) (hT : Tab W) (hr : RdI W A L) (hE : stE s f w e n = 0) (hR : stR s f w e n = ⟨s', f', w', L, m⟩) :
    Calls Tryd.prog 29 #[rd s f w, .int .i64 e, .int .i64 n, rd s' f' w', .int .i64 m, .slice A L.length c] W fun x W' => x = .returned (.bool true) ∧ Ev W W' := by
  have HR := Lib.hid hr
  have HE0 : Hid (Ev W ((W.alloc (rdO s f w)).alloc (rdO s' f' w'))) := Lib.hid (((Ev.refl W).alloc _).alloc _)
  have HB1 := Lib.hid ((BoxR.new W s f w).al (rdO s' f' w'))
  have HB20 := BoxR.new (W.alloc (rdO s f w)) s' f' w'
  rw [World.size_alloc] at HB20
  have HB2 := Lib.hid HB20
  have CS := Lib.hid (step_any s f w e n ((W.alloc (rdO s f w)).alloc (rdO s' f' w')) (hT.ev HE0.out))
  unfold StepQ at CS
  rw [hE, hR] at CS
  simp only [] at CS
  have HF := Lib.hid eqR
  clear hr hT hE hR HB20
  go_enter Tryd.func29, Tryd.ntmps29
  go_wp2_with fail
  refine CS.out.mono ?_
  rintro e w5 ⟨A5, c5, rfl, hr5, hev⟩
  have HR5 := Lib.hid hr5
  have HE5 := Lib.hid (HE0.out.step hev)
  have HB5 := Lib.hid (HB2.out.ev hev)
  clear hr5 hev
  obtain ⟨b0, b1, b2⟩ := HB5.out.c
  have hlt := World.rowIs.lt HB5.out
  have HB6 := Lib.hid (HB5.out.al (rdO s' f' w'))
  have HN := Lib.hid (BoxR.new w5 s' f' w')
  have HE6 : Hid (Ev w5 (w5.alloc (rdO s' f' w'))) := Lib.hid (al1 _ _)
  go_upto_region 2 with fail
  clear b0 b1 b2
  generalize (w5.alloc (rdO s' f' w')) = w6 at *
  generalize w5.heap.size = p at *
  obtain ⟨b0, b1, b2⟩ := HB6.out.c
  obtain ⟨c0, c1, c2⟩ := HN.out.c
  have hf := HF.out
  clear hlt
  go_wp2_with fail
  clear hf b0 b1 b2 c0 c1 c2
  refine (sameI A5 A c5 c L _ (HR5.out.ev HE6.out) (HR.out.ev (HE5.out.step HE6.out))).mono ?_
  rintro e w7 ⟨rfl, hev⟩
  have HE7 := Lib.hid ((HE5.out.step HE6.out).step hev)
  clear hev
  go_wp2_with fail
  go_ret
  exact ⟨rfl, HE7.out⟩
end Go.Proofs.YtfiglmbnjfgdlaaDoor
