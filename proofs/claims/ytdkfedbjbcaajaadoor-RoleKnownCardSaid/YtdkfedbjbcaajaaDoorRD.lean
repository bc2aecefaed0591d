import Derived.Test.YtdkfedbjbcaajaaDoorRC
import Derived.Test.YtdkfedbjbcaajaaDoorR7
namespace Go.Proofs.YtdkfedbjbcaajaaDoor
open Go.RowKit
abbrev fl (e a : Int) : Value := .agg #[.int .i64 e, .int .i64 a]
theorem eq3 (a b : Int) (n : Nat) (w : World) : Sem.run Tryd.prog (Op.equalIn (n + 1) 3 (.int .i64 a) (.int .i64 b)) w = .ok (a == b) w := by
  unfold Op.equalIn
  simp [run_underlying Tryd.underlying3]
theorem eq22 (a b : Int) (n : Nat) (w : World) : Sem.run Tryd.prog (Op.equalIn (n + 1) 22 (.int .i64 a) (.int .i64 b)) w = .ok (a == b) w := by
  unfold Op.equalIn
  simp [run_underlying Tryd.underlying22]
set_option maxHeartbeats 1000000 in
theorem eq47 (e a f b : Int) (w : World) : Sem.run Tryd.prog (Op.equalIn 10000 47 (fl e a) (fl f b)) w = .ok ((e == f) && (a == b)) w := by
  rw [show (10000 : Nat) = 9998 + 1 + 1 from rfl]
  unfold Op.equalIn
  simp [run_underlying Tryd.underlying47, go_sem, eq22, eq3]
  repeat' split
  all_goals simp_all
def ex8 : ByteArray := ⟨#[46, 80, 83, 84, 77, 87, 82, 79]⟩
theorem ex8_at : ∀ i : Fin 8, 0 ≤ roleV (at' ex8 i.1) := by decide +kernel
theorem ex8_roles : rolesOf ex8 8 = [0, 1, 2, 3, 4, 5, 6, 7] := by decide +kernel
theorem parse_ex (w : World) : Calls Tryd.prog 31 #[.string ex8] w fun e w' => ∃ A c, e = .returned (.tuple #[.slice A 8 c, fl 0 0]) ∧ RdI w' A [0, 1, 2, 3, 4, 5, 6, 7] ∧ Ev w w' :=
  (parse_any ex8 w (by decide)).mono fun e w' hh => by
    obtain ⟨⟨v, h⟩, hev⟩ := hh
    rcases h with ⟨-, rfl, hown⟩ | ⟨i, hi, -, hneg, -, -⟩
    · rw [show ex8.size = 8 from by decide, ex8_roles] at hown
      obtain ⟨A, c, rfl, hr⟩ := RdI.of_own hown (by decide)
      exact ⟨A, c, rfl, hr, hev⟩
    · have := ex8_at ⟨i, hi⟩
      simp only [] at this
      omega
theorem lmay_any (f t : Int) (want : Bool) (w : World) (hT : Tab w) (h1 : okM f t = true) (h2 : mb f.toNat t.toNat = want) :
    Calls Tryd.prog 33 #[.int .i64 f, .int .i64 t, .bool want] w fun e w' => e = .returned (.bool true) ∧ w = w' := by
  have C := Lib.hid (May_any f t w hT)
  rw [h1, h2, if_pos rfl, Bool.true_and] at C
  have hq : (want == want) = true := by simp
  clear h1 h2
  go_enter Tryd.func33, Tryd.ntmps33
  go_wp2_with fail
  refine C.out.mono ?_
  rintro e w1 ⟨rfl, rfl⟩
  go_wp2_with fail
  go_ret
  exact ⟨ret_b (by simp), rfl⟩
theorem lpath_any (f t : Int) (l : List Int) (A : Option Addr) (c : Nat) (w : World) (hT : Tab w) (h1 : okP f t = true) (hl : pathL f.toNat t.toNat = l) (h3 : l.length < 1000) (hr : RdI w A l) :
    Calls Tryd.prog 34 #[.int .i64 f, .int .i64 t, .slice A l.length c] w fun e w' => e = .returned (.bool true) ∧ Ev w w' := by
  have C := Lib.hid (Path_any f t w hT)
  unfold pathE paths at C
  rw [h1, if_pos rfl, if_pos rfl, hl] at C
  have HR := Lib.hid hr
  clear h1 hr
  go_enter Tryd.func34, Tryd.ntmps34
  go_wp2_with fail
  refine C.out.mono ?_
  rintro e w1 ⟨v, rfl, hown, hev⟩
  obtain ⟨A', c', rfl, hr'⟩ := RdI.of_own hown (by omega)
  have HS := Lib.hid (sameI A' A c' c l w1 hr' (HR.out.ev hev))
  have HE := Lib.hid hev
  clear hown hev hr'
  go_wp2_with fail
  refine HS.out.mono ?_
  rintro e w2 ⟨rfl, hev2⟩
  have HE2 := Lib.hid (HE.out.step hev2)
  clear hev2
  go_wp2_with fail
  go_ret
  exact ⟨rfl, HE2.out⟩
theorem rd_new2 (W : World) (x y : Int) : RdI (W.alloc (.cells #[.int .i64 x, .int .i64 y] 3)) (some ⟨W.heap.size, 0, none⟩) [x, y] := by
  refine ⟨by simp, fun j hj => ⟨_, _, rfl, by simp, ?_⟩⟩
  rcases (show j = 0 ∨ j = 1 by simp at hj; omega) with rfl | rfl <;> simp
theorem rd_new8 (W : World) : RdI (W.alloc (.cells #[.int .i64 0, .int .i64 1, .int .i64 2, .int .i64 3, .int .i64 4, .int .i64 5, .int .i64 6, .int .i64 7] 3)) (some ⟨W.heap.size, 0, none⟩) [0, 1, 2, 3, 4, 5, 6, 7] := by
  refine ⟨by simp, fun j hj => ⟨_, _, rfl, by simp, ?_⟩⟩
  rcases (show j = 0 ∨ j = 1 ∨ j = 2 ∨ j = 3 ∨ j = 4 ∨ j = 5 ∨ j = 6 ∨ j = 7 by simp at hj; omega) with rfl | rfl | rfl | rfl | rfl | rfl | rfl | rfl <;> simp
theorem box2_new (W : World) (x y : Int) (t : TypeId) : Box2 (W.alloc (.cells #[.int .i64 x, .int .i64 y] t)) W.heap.size x y := ⟨by simp, by simp⟩
set_option maxRecDepth 100000 in
set_option maxHeartbeats 4000000 in
theorem awake_any (w : World) (hT : Tab w) : Calls Tryd.prog 17 #[] w fun e w' => e = .returned (.bool true) ∧ Ev w w' := by
  have HP := Lib.hid (parse_ex w)
  have HF : Hid (∀ e a W, Sem.run Tryd.prog (Op.equalIn 10000 47 (fl e a) (fl e a)) W = .ok true W) := Lib.hid fun e a W => by rw [eq47]; simp
  unfold ex8 at HP
  have HTT := Lib.hid hT
  clear hT
  go_enter Tryd.func17, Tryd.ntmps17
  go_wp2_with fail
  refine HP.out.mono ?_
  rintro e w1 ⟨A, c, rfl, hr, hev⟩
  have HR2 := Lib.hid (hr.ev (Ev.alloc (Ev.refl w1) (.cells #[.int .i64 0, .int .i64 0] 47)))
  have HE2 := Lib.hid (hev.alloc (.cells #[.int .i64 0, .int .i64 0] 47))
  have HB2 := Lib.hid (box2_new w1 0 0 47)
  have HS2 : Hid (w1.heap.size < (w1.alloc (.cells #[.int .i64 0, .int .i64 0] 47)).heap.size) := Lib.hid (by simp)
  clear hr hev
  go_upto_region 2 with fail
  generalize (w1.alloc (.cells #[.int .i64 0, .int .i64 0] 47)) = W2 at *
  have HT2 := Lib.hid (HTT.out.ev HE2.out)
  go_wp2_with fail
  refine (lmay_any 0 6 true W2 HT2.out (by decide) (by decide +kernel)).mono ?_
  rintro e w5 ⟨rfl, rfl⟩
  go_wp2_with fail
  refine (lmay_any 0 4 false W2 HT2.out (by decide) (by decide +kernel)).mono ?_
  rintro e w5 ⟨rfl, rfl⟩
  have HE3 : Hid (Ev W2 (W2.alloc (.cells #[.int .i64 6, .int .i64 4] 3))) := Lib.hid (Ev.alloc (Ev.refl W2) _)
  have HR3 := Lib.hid (rd_new2 W2 6 4)
  go_wp2_with fail
  refine (lpath_any 0 4 [6, 4] _ 2 _ (HT2.out.ev HE3.out) (by decide +kernel) (by decide +kernel) (by decide) HR3.out).mono ?_
  rintro e w4 ⟨rfl, hev4⟩
  have HE4 := Lib.hid (HE3.out.step hev4)
  clear hev4
  obtain ⟨c0, c1⟩ := HB2.out.ev HS2.out HE4.out
  have HR4 := Lib.hid (HR2.out.ev HE4.out)
  have hf := HF.out
  go_wp2_with fail
  clear hf
  have HE5 : Hid (Ev w4 (w4.alloc (.cells #[.int .i64 0, .int .i64 1, .int .i64 2, .int .i64 3, .int .i64 4, .int .i64 5, .int .i64 6, .int .i64 7] 3))) := Lib.hid (Ev.alloc (Ev.refl w4) _)
  refine (sameI A _ c 8 [0, 1, 2, 3, 4, 5, 6, 7] _ (HR4.out.ev HE5.out) (rd_new8 w4)).mono ?_
  rintro e w6 ⟨rfl, hev6⟩
  have HE6 := Lib.hid (((HE2.out.step HE4.out).step HE5.out).step hev6)
  clear hev6
  go_wp2_with fail
  go_ret
  exact ⟨rfl, HE6.out⟩
end Go.Proofs.YtdkfedbjbcaajaaDoor
