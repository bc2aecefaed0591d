import Derived.Test.YtdkfedbjbcaajaaDoorRN
import Derived.Test.YtdkfedbjbcaajaaDoorSD
import Derived.Deep.SlicePairs
namespace Go.Proofs.YtdkfedbjbcaajaaDoor
open Go.ChangeShapes Go.WideShapes Go.ChangeAt Go.RowKit Go.Joins Go.Deep
theorem cells39 : Tryd.prog.cellsOf 39 = 2 := by kernel_rfl
set_option maxRecDepth 100000 in
/-- What a list of changes that came in gives the walks. -/
theorem open_chs {H : Type} {enc : TypeId × Value → H} {W : World} {base : Nat} {v : Value} {d : DataW H} {p : List MemPlace} (hv : Value.okWide Tryd.prog W .any base 31 v) (h : DataW.Trod enc Tryd.prog W 0 (fun _ => true) true 31 v d p) :
    ∃ (A : Option Addr) (len cap : Nat), v = .slice A len cap ∧ (len ≤ 4000000000 → ∃ es : List (Int × Int), es.length = len ∧ RdC W A es) := by
  obtain ⟨a0, len, cap, rfl⟩ := okWide_slice Tryd.underlying31 hv
  obtain ⟨fuel, hf⟩ := h
  refine ⟨a0, len, cap, rfl, fun hl4 => ?_⟩
  rcases open_slice_pairs Tryd.underlying31 Tryd.underlying39 cells39 rfl rfl cells3 cells3 hf with ⟨hcs, _⟩ | ⟨x, l, c, m, n, V0, V1, D0, D1, P0, P1, hcs, _, hl, hm, hmm, _, hcell⟩
  · simp [Value.cells] at hcs
    obtain ⟨rfl, rfl, rfl⟩ := hcs
    exact ⟨[], rfl, fun j hj => by simp at hj⟩
  · simp [Value.cells] at hcs
    obtain ⟨rfl, rfl, rfl⟩ := hcs
    have hmc : m = cap := by simpa using hmm
    have each : ∀ i, i < m → ∃ q : Int × Int, W.cell? (x.add (i * 2)) = some (.int .i64 q.1) ∧ W.cell? (x.add (i * 2 + 1)) = some (.int .i64 q.2) := by
      intro i hi
      obtain ⟨h1, h2, h3, h4⟩ := hcell i hi
      obtain ⟨a, e0, _, _⟩ := DataW.trod_int Tryd.underlying3 h3
      obtain ⟨b, e1, _, _⟩ := DataW.trod_int Tryd.underlying3 h4
      simp at e0 e1
      exact ⟨(a, b), by rw [h1, e0], by rw [h2, e1]⟩
    obtain ⟨q, hq⟩ := choose_lt each
    refine ⟨(List.range len).map q, by simp, fun j hj => ?_⟩
    have hj' : j < len := by simpa using hj
    obtain ⟨h1, h2⟩ := hq j (by omega)
    obtain ⟨b, o, sp⟩ := x
    have hs : sp = none := by simpa [Addr.add] using World.cell?_spot (hq 0 (by omega)).1
    subst hs
    rw [add_plain'] at h1 h2
    refine ⟨b, o, rfl, cell_lt h1, ?_, ?_⟩
    · rw [h1]; simp [List.getD, hj']
    · rw [show o + j * 2 + 1 = o + (j * 2 + 1) from by omega, h2]; simp [List.getD, hj']
end Go.Proofs.YtdkfedbjbcaajaaDoor
