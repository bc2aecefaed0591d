import Derived.Test.YtfclbnaabdlmhaaPG1
import Derived.Test.YtfclbnaabdlmhaaPG2
import Derived.Test.YtfclbnaabdlmhaaPG3
import Derived.Test.YtfclbnaabdlmhaaPG4
import Derived.Test.YtfclbnaabdlmhaaPG5
import Derived.Test.YtfclbnaabdlmhaaPG6
import Derived.Test.YtfclbnaabdlmhaaPG7
import Derived.Test.YtfclbnaabdlmhaaPG8
namespace Go.Proofs.Ytfclbnaabdlmhaa
open Go.RowKit
theorem puts_law (c : Nat → Nat) (v : Nat) (a : Int) (w : World) (hv : v < 18446744073709551616) (ha : -9223372036854775808 ≤ a ∧ a ≤ 9223372036854775807) : Calls Try.prog 8 #[pg c, .int .u64 (v : Int), .int .i64 a] w fun e w' => e = .returned (.bool true) ∧ Ev w w' := by
  rcases (show a.tdiv 64 % 8 = 0 ∨ a.tdiv 64 % 8 = 1 ∨ a.tdiv 64 % 8 = 2 ∨ a.tdiv 64 % 8 = 3 ∨ a.tdiv 64 % 8 = 4 ∨ a.tdiv 64 % 8 = 5 ∨ a.tdiv 64 % 8 = 6 ∨ a.tdiv 64 % 8 = 7 by omega) with h | h | h | h | h | h | h | h
  · exact puts1 c v a w hv ha h
  · exact puts2 c v a w hv ha h
  · exact puts3 c v a w hv ha h
  · exact puts4 c v a w hv ha h
  · exact puts5 c v a w hv ha h
  · exact puts6 c v a w hv ha h
  · exact puts7 c v a w hv ha h
  · exact puts8 c v a w hv ha h
end Go.Proofs.Ytfclbnaabdlmhaa
