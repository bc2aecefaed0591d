import Derived.Test.YtabojlbodjfphaaQS
import Derived.Test.YtabojlbodjfphaaM1
import Derived.Deep.SlicePairs
namespace Go.Proofs.Ytabojlbodjfphaa
open Go.ChangeShapes Go.WideShapes Go.ChangeAt Go.RowKit Go.Joins Go.Deep
theorem cells5 : Try.prog.cellsOf 5 = 1 := by kernel_rfl
theorem cell_lt {w : World} {a : Addr} {v : Value} (h : w.cell? a = some v) : a.block < w.heap.size := by
  rcases Nat.lt_or_ge a.block w.heap.size with h1 | h1
  · exact h1
  · exfalso
    have : w.heap[a.block]? = none := Array.getElem?_eq_none h1
    simp [World.cell?, this] at h
theorem add_plain' (b o j : Nat) : (⟨b, o, none⟩ : Addr).add j = ⟨b, o + j, none⟩ := by
  unfold Addr.add
  by_cases h : j = 0
  · subst h; rfl
  · simp [h]
set_option maxRecDepth 100000 in
/-- What a list of slabs that came in gives the walks. -/
theorem open_sls {H : Type} {enc : TypeId × Value → H} {W : World} {base : Nat} {v : Value} {d : DataW H} {p : List MemPlace} (hv : Value.okWide Try.prog W .any base 41 v) (h : DataW.Trod enc Try.prog W 0 (fun _ => true) true 41 v d p) :
    ∃ (A : Option Addr) (len cap : Nat), v = .slice A len cap ∧ (len ≤ 4000000000 → ∃ L : List Sl, L.length = len ∧ RdS W A L) := by
  obtain ⟨a0, len, cap, rfl⟩ := okWide_slice Try.underlying41 hv
  obtain ⟨fuel, hf⟩ := h
  refine ⟨a0, len, cap, rfl, fun hl4 => ?_⟩
  rcases open_slice_pairs Try.underlying41 Try.underlying23 cells23 rfl rfl cells3 cells5 hf with ⟨hcs, _⟩ | ⟨x, l, c, m, n, V0, V1, D0, D1, P0, P1, hcs, _, hl, hm, hmm, _, hcell⟩
  · simp [Value.cells] at hcs
    obtain ⟨rfl, rfl, rfl⟩ := hcs
    exact ⟨[], rfl, by simp, fun j hj => by simp at hj⟩
  · simp [Value.cells] at hcs
    obtain ⟨rfl, rfl, rfl⟩ := hcs
    have hmc : m = cap := by simpa using hmm
    have each : ∀ i, i < m → ∃ q : Sl, q.2 < 256 ∧ W.cell? (x.add (i * 2)) = some (.int .i64 q.1) ∧ W.cell? (x.add (i * 2 + 1)) = some (.int .u8 (q.2 : Int)) := by
      intro i hi
      obtain ⟨h1, h2, h3, h4⟩ := hcell i hi
      obtain ⟨a, e0, _, _⟩ := DataW.trod_int Try.underlying3 h3
      obtain ⟨b, e1, _, wf⟩ := DataW.trod_int Try.underlying5 h4
      obtain ⟨k, rfl, hk⟩ := u8_nat wf
      simp at e0 e1
      exact ⟨(a, k), hk, by rw [h1, e0], by rw [h2, e1]⟩
    obtain ⟨q, hq⟩ := choose_lt each
    refine ⟨(List.range len).map q, by simp, by simp; omega, fun j hj => ?_⟩
    have hj' : j < len := by simpa using hj
    obtain ⟨h0, h1, h2⟩ := hq j (by omega)
    obtain ⟨b, o, sp⟩ := x
    have hs : sp = none := by simpa [Addr.add] using World.cell?_spot (hq 0 (by omega)).2.1
    subst hs
    rw [add_plain'] at h1 h2
    refine ⟨by simpa [List.getD, hj'] using h0, b, o, rfl, cell_lt h1, ?_, ?_⟩
    · rw [h1]; simp [List.getD, hj']
    · rw [show o + j * 2 + 1 = o + (j * 2 + 1) from by omega, h2]; simp [List.getD, hj']
end Go.Proofs.Ytabojlbodjfphaa
