import Derived.Test.YtdkfedbjbcaajaaDoorRO
namespace Go.Proofs.YtdkfedbjbcaajaaDoor
open Go.RowKit
theorem rdc_new1 (W : World) (x y : Int) : RdC (W.alloc (.cells #[.int .i64 x, .int .i64 y] 39)) (some ⟨W.heap.size, 0, none⟩) [(x, y)] := fun j hj => by
  obtain rfl : j = 0 := by simp at hj; omega
  exact ⟨_, _, rfl, by simp, by simp, by simp⟩
set_option maxRecDepth 100000 in
set_option maxHeartbeats 4000000 in
theorem change_ok (A : Option Addr) (c : Nat) (l : List Int) (f r : Int) (w : World) (hr : RdI w A l) (hl : l.length ≤ 256) (hA : A = none → l = []) (hg : goodL l l.length) (hT : Tab w) :
    Calls Tryd.prog 23 #[.slice A l.length c, .int .i64 f, .int .i64 r] w fun e w' => ∃ v, e = .returned (.tuple #[v, .int .i64 (runS l [(f, r)] 0).2.1]) ∧ OwnI w' w.heap.size v (runS l [(f, r)] 0).1 ∧ Ev w w' := by
  have HE : Hid (Ev w (w.alloc (.cells #[.int .i64 f, .int .i64 r] 39))) := Lib.hid ((Ev.refl w).alloc _)
  have C := Lib.hid (run_ok A (some ⟨w.heap.size, 0, none⟩) c 1 l [(f, r)] _ (hr.ev HE.out) hl hA hg (rdc_new1 w f r) (by simp) (hT.ev HE.out))
  have HS : Hid (w.heap.size ≤ (w.alloc (.cells #[.int .i64 f, .int .i64 r] 39)).heap.size) := Lib.hid (by simp)
  generalize runS l [(f, r)] 0 = R at *
  clear hr hA hg hT
  go_enter Tryd.func23, Tryd.ntmps23
  go_wp2_with fail
  refine C.out.mono ?_
  rintro e w1 ⟨v, rfl, hown, hev⟩
  have HO := Lib.hid (own_weaken hown HS.out)
  have HV := Lib.hid (HE.out.step hev)
  clear hown hev
  go_wp2_with fail
  exact bodyPost_ret (v := .tuple #[v, .int .i64 R.2.1]) (by simp [results, Tryd.results23, go_sem]) rfl ⟨_, rfl, HO.out, HV.out⟩
/-- one change of a list of one frame -/
theorem run_one (a b : Int) (hb : isR b = true) (h : mb a.toNat b.toNat = true) : runS [a] [(0, b)] 0 = ([b], 0, 0) := by
  unfold runS
  rw [if_neg (by simp)]
  simp [hb, h, runS]
/-- what law Ways asks of the ways -/
theorem waysF : ∀ f t : Fin 8, (rch f.1 t.1 = false → f.1 = 1 ∧ t.1 ≠ f.1) ∧ (rch f.1 t.1 = true → ¬ (f.1 = 1 ∧ t.1 ≠ f.1) ∧ ¬ (f.1 = 0 ∧ 3 < (pathL f.1 t.1).length) ∧ ¬ (t.1 = 0 ∧ f.1 ≠ t.1 ∧ (pathL f.1 t.1).length ≠ 1) ∧
    (∀ i : Fin 8, i.1 < (pathL f.1 t.1).length → isR (((f.1 : Int) :: pathL f.1 t.1).getD i.1 0) = true ∧ isR ((pathL f.1 t.1).getD i.1 0) = true ∧ mb (((f.1 : Int) :: pathL f.1 t.1).getD i.1 0).toNat ((pathL f.1 t.1).getD i.1 0).toNat = true) ∧ ((f.1 : Int) :: pathL f.1 t.1).getD (pathL f.1 t.1).length 0 = (t.1 : Int)) := by decide +kernel
end Go.Proofs.YtdkfedbjbcaajaaDoor
