import Derived.Test.YtnlbkaabhnkkfaaPLa
import Derived.Test.YtnlbkaabhnkkfaaPLb
import Derived.Test.YtnlbkaabhnkkfaaPLc
namespace Go.Proofs.Ytnlbkaabhnkkfaa
open Go.RowKit
theorem more_any (n x y : Int) (w : World) (hn : -9223372036854775808 ≤ n) (hn2 : n ≤ 9223372036854775807) : Calls Try.prog 7 #[.int .i64 n, .int .i64 x, .int .i64 y] w fun e w' => e = .returned (.bool true) ∧ Ev w w' := by
  have HX := Lib.hid fun W => mod_any x 40 W (by omega) (by omega)
  have HY := Lib.hid fun W => mod_any y 40 W (by omega) (by omega)
  have x0 : 0 ≤ x % 40 ∧ x % 40 < 40 := ⟨Int.emod_nonneg _ (by omega), Int.emod_lt_of_pos _ (by omega)⟩
  have y0 : 0 ≤ y % 40 ∧ y % 40 < 40 := ⟨Int.emod_nonneg _ (by omega), Int.emod_lt_of_pos _ (by omega)⟩
  generalize x % 40 = x1 at *
  generalize y % 40 = y1 at *
  rcases (show x1 < y1 ∨ y1 < x1 ∨ x1 = y1 by omega) with h | h | h
  · exact more_a n x y x1 y1 w hn hn2 HX HY (by omega) x0.1 y0.2 h
  · exact more_b n x y y1 x1 w hn hn2 HX HY (by omega) y0.1 x0.2 h
  · subst h
    exact more_c n x y x1 w hn hn2 HX HY (by omega) x0.1 x0.2
end Go.Proofs.Ytnlbkaabhnkkfaa
