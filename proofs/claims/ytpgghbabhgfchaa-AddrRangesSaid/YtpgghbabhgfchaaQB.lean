import Derived.Test.YtpgghbabhgfchaaC7
import Derived.Test.YtpgghbabhgfchaaQA
import Derived.Deep.SlicePairs
namespace Go.Proofs.Ytpgghbabhgfchaa
open Go.ChangeShapes Go.WideShapes Go.ChangeAt Go.RowKit Go.Joins Go.Deep
theorem cell_ltQ {w : World} {a : Addr} {v : Value} (h : w.cell? a = some v) : a.block < w.heap.size := by
  rcases Nat.lt_or_ge a.block w.heap.size with h1 | h1
  · exact h1
  · exfalso
    have : w.heap[a.block]? = none := Array.getElem?_eq_none h1
    simp [World.cell?, this] at h
set_option maxRecDepth 100000 in
/-- What a list of ranges that came in gives the walks. -/
theorem open_rgs {H : Type} {enc : TypeId × Value → H} {W : World} {base : Nat} {v : Value} {d : DataW H} {p : List MemPlace} (hv : Value.okWide Try.prog W .any base 31 v) (h : DataW.Trod enc Try.prog W 0 (fun _ => true) true 31 v d p) :
    ∃ (A : Option Addr) (len cap : Nat), v = .slice A len cap ∧ (A = none → len = 0 ∧ cap = 0) ∧ (len ≤ 4000000000 → ∃ es : List (Int × Int), es.length = len ∧ RdP W A es) ∧ (len : Int) ≤ 9223372036854775807 := by
  obtain ⟨a0, len, cap, rfl⟩ := okWide_slice Try.underlying31 hv
  obtain ⟨fuel, hf⟩ := h
  refine ⟨a0, len, cap, rfl, ?_⟩
  rcases open_slice_pairs Try.underlying31 Try.underlying30 cells30 rfl rfl cells3 cells3 hf with ⟨hcs, _⟩ | ⟨x, l, c, m, n, V0, V1, D0, D1, P0, P1, hcs, _, hl, hm, hmm, _, hcell⟩
  · simp [Value.cells] at hcs
    obtain ⟨rfl, rfl, rfl⟩ := hcs
    exact ⟨fun _ => ⟨rfl, rfl⟩, fun _ => ⟨[], rfl, RdP.nil _ _⟩, by simp⟩
  · simp [Value.cells] at hcs
    obtain ⟨rfl, rfl, rfl⟩ := hcs
    have hmc : m = cap := by simpa using hmm
    refine ⟨(fun h => by cases h), (fun hl4 => ?_), (by unfold maxLen at hm; omega)⟩
    have each : ∀ i, i < m → ∃ q : Int × Int, W.cell? (x.add (i * 2)) = some (.int .i64 q.1) ∧ W.cell? (x.add (i * 2 + 1)) = some (.int .i64 q.2) := by
      intro i hi
      obtain ⟨h1, h2, h3, h4⟩ := hcell i hi
      obtain ⟨a, e0, _, _⟩ := DataW.trod_int Try.underlying3 h3
      obtain ⟨b, e1, _, _⟩ := DataW.trod_int Try.underlying3 h4
      simp at e0 e1
      exact ⟨(a, b), by rw [h1, e0], by rw [h2, e1]⟩
    obtain ⟨q, hq⟩ := choose_lt each
    refine ⟨(List.range len).map q, by simp, by simp; omega, fun j hj => ?_⟩
    have hj' : j < len := by simpa using hj
    obtain ⟨h1, h2⟩ := hq j (by omega)
    obtain ⟨b, o, sp⟩ := x
    have hs : sp = none := by simpa [Addr.add] using World.cell?_spot (hq 0 (by omega)).1
    subst hs
    rw [add_plainS] at h1 h2
    refine ⟨b, o, rfl, cell_ltQ h1, ?_, ?_⟩
    · rw [h1]; simp [List.getD, hj']
    · rw [show o + j * 2 + 1 = o + (j * 2 + 1) from by omega, h2]; simp [List.getD, hj']
theorem ranges_all (a b c d : Int) (A : Option Addr) (n cap : Nat) (w : World) (hnil : A = none → n = 0 ∧ cap = 0) (hes : n ≤ 4000000000 → ∃ es : List (Int × Int), es.length = n ∧ RdP w A es) (hmax : (n : Int) ≤ 9223372036854775807) :
    Calls Try.prog 4 #[rg a b, rg c d, .slice A n cap] w fun e w' => e = .returned (.bool true) ∧ Ev w w' := by
  by_cases h : 70 < n
  · exact ranges_big a b c d A n cap w h hmax
  · obtain ⟨es, rfl, hr⟩ := hes (by omega)
    exact ranges_law a b c d A cap es w hr hnil (by omega)
end Go.Proofs.Ytpgghbabhgfchaa
