/- What the rows of wout share: what the listed variable gives the walks. -/
import Derived.Test.YtkkmnpjkladhfaaDoorWF
import Derived.ProofKit
import Derived.LaidMore
import Derived.OpenShut
import Derived.Stop.Joined
import Derived.Lib.SmallJoins
import Derived.Lib.LaidTab
import Derived.ChangeOld
import Derived.MakeChecks
namespace Go.Proofs.YtkkmnpjkladhfaaDoor
open Go.ChangeShapes Go.WideShapes Go.ChangeAt Go.RowKit Go.Joins

theorem own : ownKnob Tryd.prog.godebug = none := by kernel_rfl
theorem laidOut : laidOutB Tryd.prog = true := by kernel_rfl
theorem gClaim : Tryd.prog.globalNamed "headgate/headgatelaw20.claim" = some 0 := by kernel_rfl
theorem gClaimT : (Tryd.prog.globals[0]?).map (·.type) = some 25 := by kernel_rfl
theorem cells23 : Tryd.prog.cellsOf 23 = 3 := by kernel_rfl
theorem cells25 : Tryd.prog.cellsOf 25 = 2 := by kernel_rfl
theorem cells3 : Tryd.prog.cellsOf 3 = 1 := by kernel_rfl
/-- What the variable's condition gives the walks. -/
theorem tab_of_met {W : World} {rest : List (String × DataW Unit)} (h : laidMet Tryd.prog (("headgate/headgatelaw20.claim", Rows.laid_headgate_headgatelaw20_claim) :: rest) W) : Tab W ∧ 0 < W.heap.size := by
  obtain ⟨ps, ⟨g', t', cs, fuel, p, q, hg', ht', hvar, hd, _, _⟩, _⟩ := h
  obtain rfl := Option.some.inj (gClaim.symm.trans hg')
  obtain rfl := Option.some.inj (gClaimT.symm.trans ht')
  obtain ⟨y0, y1, n, hx, hl, h0, h1⟩ := trod_struct2 Tryd.underlying25 hd
  rw [cells25] at hl
  obtain ⟨c0, c1, rfl⟩ := array2 (cs := cs) (by simpa using hl)
  simp [cells3] at h0 h1
  obtain ⟨m0, e0, f0, _⟩ := DataW.trod_int Tryd.underlying3 h0
  obtain ⟨m1, e1, f1, _⟩ := DataW.trod_int Tryd.underlying3 h1
  simp at e0 e1
  subst e0 e1
  subst f0 f1
  simp [Rows.laid_headgate_headgatelaw20_claim] at hx
  obtain ⟨⟨rfl, rfl⟩, -⟩ := hx
  have k0 := World.var?_cell gClaim hvar 0
  have k1 := World.var?_cell gClaim hvar 1
  refine ⟨⟨by simpa using k0, by simpa using k1⟩, ?_⟩
  rcases Nat.eq_zero_or_pos W.heap.size with h1 | h1
  · exfalso
    have : W.heap[0]? = none := Array.getElem?_eq_none (by omega)
    simp [World.cell?, this] at k0
  · exact h1
end Go.Proofs.YtkkmnpjkladhfaaDoor
