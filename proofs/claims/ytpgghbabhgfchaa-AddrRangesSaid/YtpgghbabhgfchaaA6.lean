import Derived.Test.YtpgghbabhgfchaaA5
namespace Go.Proofs.Ytpgghbabhgfchaa
open Go.RowKit
set_option maxRecDepth 100000 in
set_option maxHeartbeats 2000000 in
theorem where_law (n m : Int) (w : World) : Calls Try.prog 3 #[.int .i64 n, .int .i64 m] w fun e w' => e = .returned (.bool true) ∧ Ev w w' := by
  have L1 := Lib.hid (leaf_any n w)
  have L2 := Lib.hid (rleaf_any n w)
  have L3 := Lib.hid (where_any n w)
  have L4 := Lib.hid (rwhere_any n w)
  have L5 := Lib.hid (page_any n m w)
  have L6 := Lib.hid (rpage_any n m w)
  have L7 := Lib.hid (address_any n m w)
  have L8 := Lib.hid (raddress_any n m w)
  have L9 := Lib.hid (awake_any w)
  generalize lfA n = a1 at *
  generalize lfB n = a2 at *
  generalize lfE n = a3 at *
  generalize whA n = b1 at *
  generalize whB n = b2 at *
  generalize whE n = b3 at *
  generalize pgA 8 n m = c1 at *
  generalize pgE 8 n m = c2 at *
  generalize pgA 64 n m = d1 at *
  generalize pgE 64 n m = d2 at *
  go_enter Try.func3, Try.ntmps3
  go_wp2_with fail
  refine L1.out.mono ?_
  rintro e w' ⟨rfl, rfl⟩
  go_wp2_with fail
  refine L2.out.mono ?_
  rintro e w' ⟨rfl, rfl⟩
  have ea1 : (a1 != a1) = false := by simp
  have ea2 : (a2 != a2) = false := by simp
  have ea3 : (a3 != a3) = false := by simp
  go_wp2_with fail
  refine L3.out.mono ?_
  rintro e w' ⟨rfl, rfl⟩
  go_wp2_with fail
  refine L4.out.mono ?_
  rintro e w' ⟨rfl, rfl⟩
  have eb1 : (b1 != b1) = false := by simp
  have eb2 : (b2 != b2) = false := by simp
  have eb3 : (b3 != b3) = false := by simp
  go_wp2_with fail
  refine L5.out.mono ?_
  rintro e w' ⟨rfl, rfl⟩
  go_wp2_with fail
  refine L6.out.mono ?_
  rintro e w' ⟨rfl, rfl⟩
  go_wp2_with fail
  refine L7.out.mono ?_
  rintro e w' ⟨rfl, rfl⟩
  go_wp2_with fail
  refine L8.out.mono ?_
  rintro e w' ⟨rfl, rfl⟩
  go_wp2_with fail
  refine L9.out.mono ?_
  rintro e w' ⟨rfl, hev⟩
  go_wp2_with fail
  go_ret
  exact ⟨rfl, hev⟩
end Go.Proofs.Ytpgghbabhgfchaa
