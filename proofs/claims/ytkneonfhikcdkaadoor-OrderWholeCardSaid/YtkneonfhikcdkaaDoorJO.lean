import Derived.Test.YtkneonfhikcdkaaDoorJL
import Derived.Test.YtkneonfhikcdkaaDoorOM
import Derived.Deep.SlicePairs
namespace Go.Proofs.YtkneonfhikcdkaaDoor
open Go.ChangeShapes Go.WideShapes Go.ChangeAt Go.RowKit Go.Joins Go.Deep
theorem cellsJ28 : Tryd.prog.cellsOf 28 = 2 := by kernel_rfl
theorem cellsJ3 : Tryd.prog.cellsOf 3 = 1 := by kernel_rfl
theorem cell_ltJ {w : World} {a : Addr} {v : Value} (h : w.cell? a = some v) : a.block < w.heap.size := by
  rcases Nat.lt_or_ge a.block w.heap.size with h1 | h1
  · exact h1
  · exfalso
    have : w.heap[a.block]? = none := Array.getElem?_eq_none h1
    simp [World.cell?, this] at h
set_option maxRecDepth 100000 in
/-- What a list of blocks that came in gives the walks. -/
theorem open_bls {H : Type} {enc : TypeId × Value → H} {W : World} {base : Nat} {v : Value} {d : DataW H} {p : List MemPlace} (hv : Value.okWide Tryd.prog W .any base 33 v) (h : DataW.Trod enc Tryd.prog W 0 (fun _ => true) true 33 v d p) :
    ∃ (A : Option Addr) (len cap : Nat), v = .slice A len cap ∧ (A = none → len = 0 ∧ cap = 0) ∧ (len ≤ 4000000000 → ∃ es : List (Int × Int), es.length = len ∧ RdP W A es) ∧ (len : Int) ≤ 9223372036854775807 := by
  obtain ⟨a0, len, cap, rfl⟩ := okWide_slice Tryd.underlying33 hv
  obtain ⟨fuel, hf⟩ := h
  refine ⟨a0, len, cap, rfl, ?_⟩
  rcases open_slice_pairs Tryd.underlying33 Tryd.underlying28 cellsJ28 rfl rfl cellsJ3 cellsJ3 hf with ⟨hcs, _⟩ | ⟨x, l, c, m, n, V0, V1, D0, D1, P0, P1, hcs, _, hl, hm, hmm, _, hcell⟩
  · simp [Value.cells] at hcs
    obtain ⟨rfl, rfl, rfl⟩ := hcs
    exact ⟨fun _ => ⟨rfl, rfl⟩, fun _ => ⟨[], rfl, RdP.nil _ _⟩, by simp⟩
  · simp [Value.cells] at hcs
    obtain ⟨rfl, rfl, rfl⟩ := hcs
    have hmc : m = cap := by simpa using hmm
    refine ⟨(fun h => by cases h), (fun hl4 => ?_), (by unfold maxLen at hm; omega)⟩
    have each : ∀ i, i < m → ∃ q : Int × Int, W.cell? (x.add (i * 2)) = some (.int .i64 q.1) ∧ W.cell? (x.add (i * 2 + 1)) = some (.int .i64 q.2) := by
      intro i hi
      obtain ⟨h1, h2, h3, h4⟩ := hcell i hi
      obtain ⟨a, e0, _, _⟩ := DataW.trod_int Tryd.underlying3 h3
      obtain ⟨b, e1, _, _⟩ := DataW.trod_int Tryd.underlying3 h4
      simp at e0 e1
      exact ⟨(a, b), by rw [h1, e0], by rw [h2, e1]⟩
    obtain ⟨q, hq⟩ := choose_lt each
    refine ⟨(List.range len).map q, by simp, by simpa using hl4, fun j hj => ?_⟩
    have hj' : j < len := by simpa using hj
    obtain ⟨h1, h2⟩ := hq j (by omega)
    obtain ⟨b, o, sp⟩ := x
    have hs : sp = none := by simpa [Addr.add] using World.cell?_spot (hq 0 (by omega)).1
    subst hs
    rw [add_plainS] at h1 h2
    refine ⟨b, o, rfl, cell_ltJ h1, ?_, ?_⟩
    · rw [h1]; simp [List.getD, hj']
    · rw [show o + j * 2 + 1 = o + (j * 2 + 1) from by omega, h2]; simp [List.getD, hj']
end Go.Proofs.YtkneonfhikcdkaaDoor
