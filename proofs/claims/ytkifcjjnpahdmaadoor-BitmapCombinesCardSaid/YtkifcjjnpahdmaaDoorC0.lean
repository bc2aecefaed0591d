import Derived.Test.YtkifcjjnpahdmaaDoorB9
import Derived.ProofKit
import Derived.LaidMore
import Derived.OpenShut
import Derived.Stop.Joined
import Derived.Lib.SmallJoins
import Derived.Lib.LaidTab
import Derived.ChangeOld
import Derived.MakeChecks
namespace Go.Proofs.YtkifcjjnpahdmaaDoor
open Go.ChangeShapes Go.WideShapes Go.ChangeAt Go.RowKit Go.Joins

theorem own : ownKnob Tryd.prog.godebug = none := by kernel_rfl
theorem laidOut : laidOutB Tryd.prog = true := by kernel_rfl
theorem gTab : Tryd.prog.globalNamed "math/bits.deBruijn64tab" = some 0 := by kernel_rfl
theorem gTabT : (Tryd.prog.globals[0]?).map (·.type) = some 88 := by kernel_rfl
theorem cells5 : Tryd.prog.cellsOf 5 = 1 := by kernel_rfl
theorem cells88 : Tryd.prog.cellsOf 88 = 64 := by kernel_rfl
theorem cells24 : Tryd.prog.cellsOf 24 = 2 := by kernel_rfl

/-- What the table's condition gives the walks. -/
theorem tab_of_met {W : World} {rest : List (String × DataW Unit)} (h : laidMet Tryd.prog (("math/bits.deBruijn64tab", Rows.laid_math_bits_deBruijn64tab) :: rest) W) : Tab W ∧ 0 < W.heap.size := by
  have hT : Lib.TabIs Tryd.prog W "math/bits.deBruijn64tab" .u8 (Lib.deBruijn64tab.map fun (n : Nat) => (n : Int)) :=
    Lib.tabIs_of_head gTab gTabT Tryd.underlying88 Tryd.underlying5 cells5 cells88 (rest := rest) h
  have hc : Tab W := fun j hj => by
    have := hT.cell gTab j (by simpa [Lib.deBruijn64tab] using hj)
    rw [this]
    simp [List.getD, List.getElem?_map]
    rcases h1 : Lib.deBruijn64tab[j]? with _ | x <;> simp
  refine ⟨hc, ?_⟩
  have h0 := hc 0 (by decide)
  rcases Nat.eq_zero_or_pos W.heap.size with h1 | h1
  · exfalso
    have : W.heap[0]? = none := Array.getElem?_eq_none (by omega)
    simp [World.cell?, this] at h0
  · exact h1
theorem cell_lt {w : World} {a : Addr} {v : Value} (h : w.cell? a = some v) : a.block < w.heap.size := by
  rcases Nat.lt_or_ge a.block w.heap.size with h1 | h1
  · exact h1
  · exfalso
    have : w.heap[a.block]? = none := Array.getElem?_eq_none h1
    simp [World.cell?, this] at h

set_option maxRecDepth 100000 in
/-- What a set that came in gives the walks. -/
theorem open_set {H : Type} {enc : TypeId × Value → H} {W : World} {base : Nat} {v : Value} {d : DataW H} {p : List MemPlace} (hv : Value.okWide Tryd.prog W .any base 24 v) (h : DataW.Trod enc Tryd.prog W 0 (fun _ => true) true 24 v d p) :
    ∃ (n : Int) (A : Option Addr) (len cap : Nat), v = .agg #[.int .i64 n, .slice A len cap] ∧ Nil0 A cap ∧ len ≤ 9223372036854775807 ∧ (len ≤ 4000000000 → ∃ ws : List Nat, ws.length = len ∧ Rd W A ws) := by
  obtain ⟨c0, c1, y0, y1, m, rfl, rfl, rfl, hy0, hy1⟩ := open_agg2 Tryd.underlying24 (by kernel_rfl) cells24 hv h
  obtain ⟨n, e0, _, _⟩ := DataW.trod_int Tryd.underlying3 hy0
  simp at e0
  subst e0
  rcases open_ints Tryd.underlying22 Tryd.underlying61 (by kernel_rfl) hy1 with ⟨hcs, _⟩ | ⟨x, l, c, zs, hcs, _, hl, hm, hz, _, hcell, hwz⟩
  · simp at hcs
    subst hcs
    exact ⟨n, none, 0, 0, rfl, fun _ => rfl, by omega, fun _ => ⟨[], rfl, Rd.zero⟩⟩
  · simp at hcs
    subst hcs
    have hzl : zs.length = c := by simpa using hz
    refine ⟨n, some x, l, c, rfl, nil0_some _, by unfold maxLen at hm; omega, fun hl4 => ⟨(zs.take l).map Int.toNat, by simp; omega, ?_, by simp; omega, ?_⟩⟩
    · intro y hy
      obtain ⟨z, hz1, rfl⟩ := List.mem_map.1 hy
      have hw := hwz z (List.mem_of_mem_take hz1)
      have hb := bounds_u64 hw
      omega
    · intro j hj
      have hj' : j < l := by simp at hj; omega
      have hc := hcell j (by omega)
      obtain ⟨b, o, sp⟩ := x
      have hs : sp = none := by simpa [Addr.add] using World.cell?_spot (hcell 0 (by omega))
      subst hs
      rw [add_cell] at hc
      refine ⟨b, o, rfl, cell_lt hc, ?_⟩
      rw [hc]
      have hjz : j < zs.length := by omega
      have hw := bounds_u64 (hwz zs[j] (List.getElem_mem hjz))
      have e1 : zs.getD j 0 = zs[j] := by simp [hjz]
      have e2 : ((zs.take l).map Int.toNat).getD j 0 = zs[j].toNat := by simp [hjz, hj']
      rw [e1, e2]
      have e3 : ((zs[j].toNat : Nat) : Int) = zs[j] := by omega
      rw [e3]
end Go.Proofs.YtkifcjjnpahdmaaDoor
