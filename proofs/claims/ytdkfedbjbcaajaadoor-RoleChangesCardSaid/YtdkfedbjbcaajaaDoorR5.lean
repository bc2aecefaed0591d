import Derived.Test.YtdkfedbjbcaajaaDoorR3
namespace Go.Proofs.YtdkfedbjbcaajaaDoor
open Go.RowKit
set_option maxHeartbeats 8000000 in
theorem rmay_any (f t : Nat) (w : World) (hf : f < 8) (ht : t < 8) : Calls Tryd.prog 40 #[.int .i64 (f : Int), .int .i64 (t : Int)] w fun e w' => e = .returned (.bool (mb f t)) ∧ w = w' := by
  rcases (show f = 0 ∨ f = 1 ∨ f = 2 ∨ f = 3 ∨ f = 4 ∨ f = 5 ∨ f = 6 ∨ f = 7 by omega) with rfl | rfl | rfl | rfl | rfl | rfl | rfl | rfl <;>
  rcases (show t = 0 ∨ t = 1 ∨ t = 2 ∨ t = 3 ∨ t = 4 ∨ t = 5 ∨ t = 6 ∨ t = 7 by omega) with rfl | rfl | rfl | rfl | rfl | rfl | rfl | rfl <;>
  (go_enter Tryd.func40, Tryd.ntmps40
   go_wp2
   go_ret
   exact ⟨ret_b (by decide), rfl⟩)
def okM (f t : Int) : Bool := isR f && isR t
theorem isR_nat {r : Int} (h : isR r = true) : ∃ n : Nat, n < 8 ∧ r = (n : Int) := by
  unfold isR at h
  have h := of_decide_eq_true h
  exact ⟨r.toNat, by omega, by omega⟩
theorem May_any (f t : Int) (w : World) (hT : Tab w) : Calls Tryd.prog 12 #[.int .i64 f, .int .i64 t] w fun e w' => e = .returned (.tuple #[.bool (okM f t && mb f.toNat t.toNat), .int .i64 (if okM f t then 0 else 14)]) ∧ w = w' := by
  have C1 := Lib.hid (isRole_any f w)
  have C2 := Lib.hid (isRole_any t w)
  unfold okM
  by_cases h1 : isR f = true
  · by_cases h2 : isR t = true
    · obtain ⟨n, hn, rfl⟩ := isR_nat h1
      obtain ⟨m, hm, rfl⟩ := isR_nat h2
      have C3 := Lib.hid (may_any n m w hT hn hm)
      rw [h1] at C1
      rw [h2] at C2
      rw [h1, h2]
      simp only [Int.toNat_natCast, Bool.and_self, Bool.true_and, if_true]
      clear h1 h2 hT
      generalize mb n m = z at *
      go_enter Tryd.func12, Tryd.ntmps12
      go_wp2_with fail
      refine C1.out.mono ?_
      rintro e w1 ⟨rfl, rfl⟩
      go_wp2_with fail
      refine C2.out.mono ?_
      rintro e w1 ⟨rfl, rfl⟩
      go_wp2_with fail
      refine C3.out.mono ?_
      rintro e w1 ⟨rfl, rfl⟩
      go_wp2_with fail
      refine bodyPost_ret (v := .tuple #[.bool z, .int .i64 0]) (by simp [results, Tryd.results12, go_sem]) rfl ⟨by simp, rfl⟩
    · have h2 : isR t = false := by simpa using h2
      rw [h1] at C1
      rw [h2] at C2
      rw [h1, h2]
      clear h1 h2 hT
      go_enter Tryd.func12, Tryd.ntmps12
      go_wp2_with fail
      refine C1.out.mono ?_
      rintro e w1 ⟨rfl, rfl⟩
      go_wp2_with fail
      refine C2.out.mono ?_
      rintro e w1 ⟨rfl, rfl⟩
      go_wp2_with fail
      refine bodyPost_ret (v := .tuple #[.bool false, .int .i64 14]) (by simp [results, Tryd.results12, go_sem]) rfl ⟨by simp, rfl⟩
  · have h1 : isR f = false := by simpa using h1
    rw [h1] at C1
    rw [h1]
    clear h1 hT C2
    go_enter Tryd.func12, Tryd.ntmps12
    go_wp2_with fail
    refine C1.out.mono ?_
    rintro e w1 ⟨rfl, rfl⟩
    go_wp2_with fail
    refine bodyPost_ret (v := .tuple #[.bool false, .int .i64 14]) (by simp [results, Tryd.results12, go_sem]) rfl ⟨by simp, rfl⟩
theorem rMay_any (f t : Int) (w : World) : Calls Tryd.prog 13 #[.int .i64 f, .int .i64 t] w fun e w' => e = .returned (.tuple #[.bool (okM f t && mb f.toNat t.toNat), .int .i64 (if okM f t then 0 else 14)]) ∧ w = w' := by
  have C1 := Lib.hid (is_any f w)
  have C2 := Lib.hid (is_any t w)
  unfold okM
  by_cases h1 : isR f = true
  · by_cases h2 : isR t = true
    · obtain ⟨n, hn, rfl⟩ := isR_nat h1
      obtain ⟨m, hm, rfl⟩ := isR_nat h2
      have C3 := Lib.hid (rmay_any n m w hn hm)
      rw [h1] at C1
      rw [h2] at C2
      rw [h1, h2]
      simp only [Int.toNat_natCast, Bool.and_self, Bool.true_and, if_true]
      clear h1 h2
      generalize mb n m = z at *
      go_enter Tryd.func13, Tryd.ntmps13
      go_wp2_with fail
      refine C1.out.mono ?_
      rintro e w1 ⟨rfl, rfl⟩
      go_wp2_with fail
      refine C2.out.mono ?_
      rintro e w1 ⟨rfl, rfl⟩
      go_wp2_with fail
      refine C3.out.mono ?_
      rintro e w1 ⟨rfl, rfl⟩
      go_wp2_with fail
      refine bodyPost_ret (v := .tuple #[.bool z, .int .i64 0]) (by simp [results, Tryd.results13, go_sem]) rfl ⟨by simp, rfl⟩
    · have h2 : isR t = false := by simpa using h2
      rw [h1] at C1
      rw [h2] at C2
      rw [h1, h2]
      clear h1 h2
      go_enter Tryd.func13, Tryd.ntmps13
      go_wp2_with fail
      refine C1.out.mono ?_
      rintro e w1 ⟨rfl, rfl⟩
      go_wp2_with fail
      refine C2.out.mono ?_
      rintro e w1 ⟨rfl, rfl⟩
      go_wp2_with fail
      refine bodyPost_ret (v := .tuple #[.bool false, .int .i64 14]) (by simp [results, Tryd.results13, go_sem]) rfl ⟨by simp, rfl⟩
  · have h1 : isR f = false := by simpa using h1
    rw [h1] at C1
    rw [h1]
    clear h1 C2
    go_enter Tryd.func13, Tryd.ntmps13
    go_wp2_with fail
    refine C1.out.mono ?_
    rintro e w1 ⟨rfl, rfl⟩
    go_wp2_with fail
    refine bodyPost_ret (v := .tuple #[.bool false, .int .i64 14]) (by simp [results, Tryd.results13, go_sem]) rfl ⟨by simp, rfl⟩
end Go.Proofs.YtdkfedbjbcaajaaDoor
