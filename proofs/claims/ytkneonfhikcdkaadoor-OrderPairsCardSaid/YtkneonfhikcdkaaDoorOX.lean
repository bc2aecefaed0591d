import Derived.Test.YtkneonfhikcdkaaDoorOWa
import Derived.Test.YtkneonfhikcdkaaDoorOWb
import Derived.Test.YtkneonfhikcdkaaDoorOWc
namespace Go.Proofs.YtkneonfhikcdkaaDoor
open Go.RowKit
theorem pairs_any (at' k : Int) (w : World) (hT : Tab w) (h2 : 2 ≤ w.heap.size) : Calls Tryd.prog 9 #[.int .i64 at', .int .i64 k] w fun e w' => e = .returned (.bool true) ∧ Ev w w' := by
  have h0 := Int.emod_nonneg k (show (6 : Int) ≠ 0 by omega)
  have h1 := Int.emod_lt_of_pos k (show (0 : Int) < 6 by omega)
  rcases (show k % 6 = 0 ∨ k % 6 = 1 ∨ k % 6 = 2 ∨ k % 6 = 3 ∨ k % 6 = 4 ∨ k % 6 = 5 by omega) with h | h | h | h | h | h
  · refine pairs_0 at' k (at' % 256) (at' % 256) w hT h2 h rfl rfl ?_
    have a := Int.emod_nonneg at' (show (256 : Int) ≠ 0 by omega)
    have b := Int.emod_lt_of_pos at' (show (0 : Int) < 256 by omega)
    generalize at' % 256 = m at *
    unfold blkE
    rw [show sz 0 = 1 by decide, if_neg (by omega), if_neg (by omega), if_neg (by omega)]
  · refine pairs_1 at' k (at' % 128) (at' % 128 * 2) w hT h2 h rfl rfl ?_
    have a := Int.emod_nonneg at' (show (128 : Int) ≠ 0 by omega)
    have b := Int.emod_lt_of_pos at' (show (0 : Int) < 128 by omega)
    generalize at' % 128 = m at *
    unfold blkE
    rw [show sz 1 = 2 by decide, if_neg (by omega), if_neg (by omega), if_neg (by omega)]
  · refine pairs_2 at' k (at' % 64) (at' % 64 * 4) w hT h2 h rfl rfl ?_
    have a := Int.emod_nonneg at' (show (64 : Int) ≠ 0 by omega)
    have b := Int.emod_lt_of_pos at' (show (0 : Int) < 64 by omega)
    generalize at' % 64 = m at *
    unfold blkE
    rw [show sz 2 = 4 by decide, if_neg (by omega), if_neg (by omega), if_neg (by omega)]
  · refine pairs_3 at' k (at' % 32) (at' % 32 * 8) w hT h2 h rfl rfl ?_
    have a := Int.emod_nonneg at' (show (32 : Int) ≠ 0 by omega)
    have b := Int.emod_lt_of_pos at' (show (0 : Int) < 32 by omega)
    generalize at' % 32 = m at *
    unfold blkE
    rw [show sz 3 = 8 by decide, if_neg (by omega), if_neg (by omega), if_neg (by omega)]
  · refine pairs_4 at' k (at' % 16) (at' % 16 * 16) w hT h2 h rfl rfl ?_
    have a := Int.emod_nonneg at' (show (16 : Int) ≠ 0 by omega)
    have b := Int.emod_lt_of_pos at' (show (0 : Int) < 16 by omega)
    generalize at' % 16 = m at *
    unfold blkE
    rw [show sz 4 = 16 by decide, if_neg (by omega), if_neg (by omega), if_neg (by omega)]
  · refine pairs_5 at' k (at' % 8) (at' % 8 * 32) w hT h2 h rfl rfl ?_
    have a := Int.emod_nonneg at' (show (8 : Int) ≠ 0 by omega)
    have b := Int.emod_lt_of_pos at' (show (0 : Int) < 8 by omega)
    generalize at' % 8 = m at *
    unfold blkE
    rw [show sz 5 = 32 by decide, if_neg (by omega), if_neg (by omega), if_neg (by omega)]
end Go.Proofs.YtkneonfhikcdkaaDoor
