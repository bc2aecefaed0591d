/- What the rows of readin share: what the listed table gives the walks. -/
import Derived.Test.YtfiglmbnjfgdlaaDoorD6
import Derived.ProofKit
import Derived.LaidMore
import Derived.OpenShut
import Derived.Stop.Joined
import Derived.Lib.SmallJoins
import Derived.Lib.LaidTab
import Derived.ChangeOld
import Derived.MakeChecks
import Derived.Carry
namespace Go.Proofs.YtfiglmbnjfgdlaaDoor
open Go.ChangeShapes Go.WideShapes Go.ChangeAt Go.RowKit Go.Joins

theorem own : ownKnob Tryd.prog.godebug = none := by kernel_rfl
theorem laidOut : laidOutB Tryd.prog = true := by kernel_rfl
theorem gTab : Tryd.prog.globalNamed "headgate/readin.possible" = some 0 := by kernel_rfl
theorem gTabT : (Tryd.prog.globals[0]?).map (·.type) = some 75 := by kernel_rfl
theorem cells5 : Tryd.prog.cellsOf 5 = 1 := by kernel_rfl
theorem cells74 : Tryd.prog.cellsOf 74 = 2 := by kernel_rfl
theorem cells23 : Tryd.prog.cellsOf 23 = 3 := by kernel_rfl
theorem cells3 : Tryd.prog.cellsOf 3 = 1 := by kernel_rfl
/-- An array of arrays of integers that reads as a table of tables holds their numbers, cell for cell. -/
theorem cells_of_tab2 {H : Type} {enc : TypeId × Value → H} {P : Program} {w : World} {base : Nat} {sp : Nat → Bool} {held : Bool} {fuel : Nat} {t e c : TypeId} {n m : Nat} {k : IntKind} {cs : List Value} {zss : List (List Int)} {p : List MemPlace}
    (ht : P.underlying t = some (.array n e)) (he : P.underlying e = some (.array m c)) (hc : P.underlying c = some (.int k)) (hcc : P.cellsOf c = 1) (hce : P.cellsOf e = m)
    (h : DataW.trod enc P w base sp held fuel t cs = some (.agg (zss.map fun zs => Lib.tabData k zs), p)) (i j : Nat) (hi : i < n) (hj : j < m) (hz : ∀ zs ∈ zss, zs.length = m) : cs[i * m + j]? = some (.int k ((zss.getD i []).getD j 0)) := by
  cases fuel with
  | zero => simp [DataW.trod] at h
  | succ fuel =>
    simp only [DataW.trod, ht, hce] at h
    split at h
    · rename_i hl
      obtain ⟨xs, hm, hx⟩ := Option.map_eq_some_iff.1 h
      have hxs : xs.map (·.1) = zss.map fun zs => (Lib.tabData k zs : DataW H) := by
        have := congrArg Prod.fst hx
        simpa using this
      have hxl : xs.length = n := by simpa using Lib.mapM_length hm
      have hzl : zss.length = n := by
        have := congrArg List.length hxs
        simp at this
        omega
      obtain ⟨b, hb, hf⟩ := Lib.mapM_at hm i i (by simp [hi])
      have h2 : (xs.map (·.1))[i]? = some b.1 := by simp [hb]
      rw [hxs] at h2
      simp only [List.getElem?_map, Option.map_eq_some_iff] at h2
      obtain ⟨zs, hzs, hbz⟩ := h2
      have hzg : zss.getD i [] = zs := by rw [List.getD_eq_getElem?_getD, hzs]; rfl
      have hzm : zs.length = m := hz zs (List.mem_of_getElem? hzs)
      obtain ⟨b1, b2⟩ := b
      simp only [] at hbz
      subst hbz
      have hcell := Lib.cells_of_tab he hc hcc hce hf
      have h3 := congrArg (·[j]?) hcell
      simp only [List.getElem?_take, List.getElem?_drop, List.getElem?_map, if_pos hj] at h3
      rw [h3, hzg, List.getD_eq_getElem?_getD, List.getElem?_eq_getElem (by omega)]
      rfl
    · cases h
/-- What the table's condition gives the walks. -/
theorem tab_of_met {W : World} {rest : List (String × DataW Unit)} (h : laidMet Tryd.prog (("headgate/readin.possible", Rows.laid_headgate_readin_possible) :: rest) W) : Tab W := by
  obtain ⟨ps, ⟨g', t', cs, fuel, p, q, hg', ht', hvar, hd, _, _⟩, _⟩ := h
  obtain rfl := Option.some.inj (gTab.symm.trans hg')
  obtain rfl := Option.some.inj (gTabT.symm.trans ht')
  have hall := fun i j hi hj => cells_of_tab2 (zss := [[0, 0], [66, 84], [72, 84], [96, 0], [0, 80], [0, 0], [32, 0], [0, 16], [0, 0]]) Tryd.underlying75 Tryd.underlying74 Tryd.underlying5 cells5 cells74 hd i j hi hj (by decide)
  have hc : ∀ j, j < 18 → W.cell? ⟨0, j, none⟩ = some (.int .u8 (pt j : Int)) := fun j hj => by
    have k0 := World.var?_cell gTab hvar j
    have k1 := hall (j / 2) (j % 2) (by omega) (by omega)
    rw [show j / 2 * 2 + j % 2 = j by omega] at k1
    rw [k0]
    simp only [Array.getElem?_toList] at k1 ⊢
    rw [k1]
    rcases (show j = 0 ∨ j = 1 ∨ j = 2 ∨ j = 3 ∨ j = 4 ∨ j = 5 ∨ j = 6 ∨ j = 7 ∨ j = 8 ∨ j = 9 ∨ j = 10 ∨ j = 11 ∨ j = 12 ∨ j = 13 ∨ j = 14 ∨ j = 15 ∨ j = 16 ∨ j = 17 by omega) with rfl | rfl | rfl | rfl | rfl | rfl | rfl | rfl | rfl | rfl | rfl | rfl | rfl | rfl | rfl | rfl | rfl | rfl <;> rfl
  refine ⟨?_, hc⟩
  have h0 := hc 0 (by decide)
  rcases Nat.lt_or_ge 0 W.heap.size with h1 | h1
  · exact h1
  · exfalso
    have : W.heap[0]? = none := Array.getElem?_eq_none (by omega)
    simp [World.cell?, this] at h0
end Go.Proofs.YtfiglmbnjfgdlaaDoor
