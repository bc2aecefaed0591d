import Derived.Test.YtkneonfhikcdkaaDoorO9
namespace Go.Proofs.YtkneonfhikcdkaaDoor
open Go.RowKit

set_option maxHeartbeats 1000000 in
theorem sizes_any (n o : Int) (w : World) (hn : n ≤ 9223372036854775807) (hT : Tab w) (h2 : 2 ≤ w.heap.size) : Calls Tryd.prog 3 #[.int .i64 n, .int .i64 o] w fun e w' => e = .returned (.bool true) ∧ Ev w w' := by
  have H1 := Lib.hid fun W => log_any n W hn
  have H2 := Lib.hid fun W => rlog_any n W hn
  have H3 := Lib.hid fun W => least_any n W hn
  have H4 := Lib.hid fun W => rleast_any n W hn
  have H5 := Lib.hid fun W => Size_any o W
  have H6 := Lib.hid fun W => rSize_any o W
  have H7 := Lib.hid (awake_any w hT h2)
  clear hT hn
  generalize logV n = a1 at *
  generalize logE n = a2 at *
  generalize lstV n = a3 at *
  generalize sizV o = a5 at *
  generalize sizE o = a6 at *
  go_enter Tryd.func3, Tryd.ntmps3
  go_wp2_with fail
  refine (H1.out _).mono ?_
  rintro e w' ⟨rfl, rfl⟩
  go_wp2_with fail
  refine (H2.out _).mono ?_
  rintro e w' ⟨rfl, rfl⟩
  go_wp2_with fail
  refine (H3.out _).mono ?_
  rintro e w' ⟨rfl, rfl⟩
  go_wp2_with fail
  refine (H4.out _).mono ?_
  rintro e w' ⟨rfl, rfl⟩
  go_wp2_with fail
  refine (H5.out _).mono ?_
  rintro e w' ⟨rfl, rfl⟩
  go_wp2_with fail
  refine (H6.out _).mono ?_
  rintro e w' ⟨rfl, rfl⟩
  go_wp2_with fail
  refine H7.out.mono ?_
  rintro e w' ⟨rfl, hev⟩
  go_wp2_with fail
  go_ret
  exact ⟨rfl, hev⟩
end Go.Proofs.YtkneonfhikcdkaaDoor
