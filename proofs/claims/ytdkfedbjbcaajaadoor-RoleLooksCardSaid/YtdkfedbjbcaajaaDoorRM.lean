/- What the rows of role share: what the listed table gives the walks. -/
import Derived.Test.YtdkfedbjbcaajaaDoorR1
import Derived.ProofKit
import Derived.LaidMore
import Derived.OpenShut
import Derived.Stop.Joined
import Derived.Lib.SmallJoins
import Derived.Lib.LaidTab
import Derived.ChangeOld
import Derived.MakeChecks
namespace Go.Proofs.YtdkfedbjbcaajaaDoor
open Go.ChangeShapes Go.WideShapes Go.ChangeAt Go.RowKit Go.Joins

theorem own : ownKnob Tryd.prog.godebug = none := by kernel_rfl
theorem laidOut : laidOutB Tryd.prog = true := by kernel_rfl
theorem gTab : Tryd.prog.globalNamed "headgate/role.allowed" = some 0 := by kernel_rfl
theorem gTabT : (Tryd.prog.globals[0]?).map (·.type) = some 66 := by kernel_rfl
theorem cells5 : Tryd.prog.cellsOf 5 = 1 := by kernel_rfl
theorem cells66 : Tryd.prog.cellsOf 66 = 8 := by kernel_rfl
/-- What the table's condition gives the walks. -/
theorem tab_of_met {W : World} {rest : List (String × DataW Unit)} (h : laidMet Tryd.prog (("headgate/role.allowed", Rows.laid_headgate_role_allowed) :: rest) W) : Tab W := by
  have hT : Lib.TabIs Tryd.prog W "headgate/role.allowed" .u8 [78, 0, 1, 1, 33, 17, 153, 1] :=
    Lib.tabIs_of_head gTab gTabT Tryd.underlying66 Tryd.underlying5 cells5 cells66 (rest := rest) h
  have hc : ∀ j, j < 8 → W.cell? ⟨0, j, none⟩ = some (.int .u8 (tb j : Int)) := fun j hj => by
    have := hT.cell gTab j (by simpa using hj)
    rw [this]
    rcases (show j = 0 ∨ j = 1 ∨ j = 2 ∨ j = 3 ∨ j = 4 ∨ j = 5 ∨ j = 6 ∨ j = 7 by omega) with rfl | rfl | rfl | rfl | rfl | rfl | rfl | rfl <;> rfl
  refine ⟨?_, hc⟩
  have h0 := hc 0 (by decide)
  rcases Nat.lt_or_ge 0 W.heap.size with h1 | h1
  · exact h1
  · exfalso
    have : W.heap[0]? = none := Array.getElem?_eq_none (by omega)
    simp [World.cell?, this] at h0
end Go.Proofs.YtdkfedbjbcaajaaDoor
