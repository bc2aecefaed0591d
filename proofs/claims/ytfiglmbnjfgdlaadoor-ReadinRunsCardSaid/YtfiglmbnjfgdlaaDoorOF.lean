import Derived.Test.YtfiglmbnjfgdlaaDoorOL
import Derived.Test.YtfiglmbnjfgdlaaDoorEF
import Derived.Deep.SlicePairs
import Derived.Deep.CutRange
namespace Go.Proofs.YtfiglmbnjfgdlaaDoor
open Go.ChangeShapes Go.WideShapes Go.ChangeAt Go.RowKit Go.Joins Go.Deep
theorem cells42 : Tryd.prog.cellsOf 42 = 2 := by kernel_rfl
set_option maxRecDepth 100000 in
/-- What a list of events that came in gives the walks. -/
theorem open_evs' {H : Type} {enc : TypeId × Value → H} {W : World} {base : Nat} {v : Value} {d : DataW H} {p : List MemPlace} (hv : Value.okWide Tryd.prog W .any base 38 v) (h : DataW.Trod enc Tryd.prog W 0 (fun _ => true) true 38 v d p) :
    ∃ (A : Option Addr) (len cap : Nat), v = .slice A len cap ∧ (A = none → len = 0 ∧ cap = 0) ∧ (len ≤ 4000000000 → ∃ es : List (Int × Int), es.length = len ∧ RdC W A es) ∧ (len : Int) ≤ 9223372036854775807 := by
  obtain ⟨a0, len, cap, rfl⟩ := okWide_slice Tryd.underlying38 hv
  obtain ⟨fuel, hf⟩ := h
  refine ⟨a0, len, cap, rfl, ?_⟩
  rcases open_slice_pairs Tryd.underlying38 Tryd.underlying42 cells42 rfl rfl cells3 cells3 hf with ⟨hcs, _⟩ | ⟨x, l, c, m, n, V0, V1, D0, D1, P0, P1, hcs, _, hl, hm, hmm, _, hcell⟩
  · simp [Value.cells] at hcs
    obtain ⟨rfl, rfl, rfl⟩ := hcs
    exact ⟨fun _ => ⟨rfl, rfl⟩, fun _ => ⟨[], rfl, fun j hj => by simp at hj⟩, by simp⟩
  · simp [Value.cells] at hcs
    obtain ⟨rfl, rfl, rfl⟩ := hcs
    have hmc : m = cap := by simpa using hmm
    refine ⟨(fun h => by cases h), (fun hl4 => ?_), (by unfold maxLen at hm; omega)⟩
    have each : ∀ i, i < m → ∃ q : Int × Int, W.cell? (x.add (i * 2)) = some (.int .i64 q.1) ∧ W.cell? (x.add (i * 2 + 1)) = some (.int .i64 q.2) := by
      intro i hi
      obtain ⟨h1, h2, h3, h4⟩ := hcell i hi
      obtain ⟨a, e0, _, _⟩ := DataW.trod_int Tryd.underlying3 h3
      obtain ⟨b, e1, _, _⟩ := DataW.trod_int Tryd.underlying3 h4
      simp at e0 e1
      exact ⟨(a, b), by rw [h1, e0], by rw [h2, e1]⟩
    obtain ⟨q, hq⟩ := choose_lt each
    refine ⟨(List.range len).map q, by simp, fun j hj => ?_⟩
    have hj' : j < len := by simpa using hj
    obtain ⟨h1, h2⟩ := hq j (by omega)
    obtain ⟨b, o, sp⟩ := x
    have hs : sp = none := by simpa [Addr.add] using World.cell?_spot (hq 0 (by omega)).1
    subst hs
    rw [add_plain'] at h1 h2
    refine ⟨b, o, rfl, cell_lt h1, ?_, ?_⟩
    · rw [h1]; simp [List.getD, hj']
    · rw [show o + j * 2 + 1 = o + (j * 2 + 1) from by omega, h2]; simp [List.getD, hj']
/-- events as cells -/
def flatC : List (Int × Int) → List Value
  | [] => []
  | (f, t) :: r => .int .i64 f :: .int .i64 t :: flatC r
theorem flatC_len (s : List (Int × Int)) : (flatC s).length = s.length * 2 := by
  induction s with
  | nil => rfl
  | cons a s ih => obtain ⟨f, t⟩ := a; simp [flatC, ih]; omega
theorem flatC_get (L : List (Int × Int)) : ∀ j, j < L.length → (flatC L)[j * 2]? = some (.int .i64 (L.getD j (0, 0)).1) ∧ (flatC L)[j * 2 + 1]? = some (.int .i64 (L.getD j (0, 0)).2) := by
  induction L with
  | nil => intro j hj; simp at hj
  | cons x L ih =>
    obtain ⟨f, t⟩ := x
    intro j hj
    rcases j with _ | j
    · simp [flatC]
    · have := ih j (by simpa using hj)
      rw [show (j + 1) * 2 = j * 2 + 2 from by omega]
      simpa [flatC] using this
theorem flatC_at (L : List (Int × Int)) (j : Nat) (u : Value) (h : (flatC L)[j]? = some u) : (∃ k, k < L.length ∧ ((j = k * 2 ∧ u = .int .i64 (L.getD k (0, 0)).1) ∨ (j = k * 2 + 1 ∧ u = .int .i64 (L.getD k (0, 0)).2))) := by
  have hj : j < (flatC L).length := by
    rcases Nat.lt_or_ge j (flatC L).length with h1 | h1
    · exact h1
    · rw [List.getElem?_eq_none h1] at h; cases h
  rw [flatC_len] at hj
  obtain ⟨h1, h2⟩ := flatC_get L (j / 2) (by omega)
  refine ⟨j / 2, by omega, ?_⟩
  rcases (show j = j / 2 * 2 ∨ j = j / 2 * 2 + 1 by omega) with e | e
  · left
    refine ⟨e, ?_⟩
    rw [e] at h
    rw [h1] at h
    simpa using h.symm
  · right
    refine ⟨e, ?_⟩
    rw [e] at h
    rw [h2] at h
    simpa using h.symm
theorem flatC_one (L : List (Int × Int)) : ∀ u ∈ flatC L, u.oneCell' = true := by
  induction L with
  | nil => intro u hu; cases hu
  | cons x L ih =>
    obtain ⟨f, t⟩ := x
    intro u hu
    simp only [flatC, List.mem_cons] at hu
    rcases hu with rfl | rfl | hu
    · rfl
    · rfl
    · exact ih u hu
theorem info42 : (Tryd.prog.info? 42).map (fun i => (i.zero, i.size, i.bytes)) = some (some (.agg #[.int .i64 0, .int .i64 0]), 2, 16) := by kernel_rfl
theorem RdC.of_own {w : World} {base : Nat} {v : Value} {L : List (Int × Int)} (h : w.ownsRow base 42 2 v L.length (flatC L)) : ∃ A cap, v = .slice A L.length cap ∧ RdC w A L := by
  rcases h.2 with ⟨rfl, h0⟩ | ⟨g, cap, cur, rfl, hbg, hh, hn, hc, hs, ht⟩
  · have e : L = [] := List.eq_nil_of_length_eq_zero h0
    subst e
    exact ⟨none, 0, rfl, fun j hj => by simp at hj⟩
  · refine ⟨some ⟨g, 0, none⟩, cap, rfl, fun j hj => ⟨g, 0, rfl, (h.lt g rfl).2, ?_, ?_⟩⟩
    · rw [Nat.zero_add, World.ownsRow.cellAt h (j * 2) (by omega)]
      exact (flatC_get L j hj).1
    · rw [Nat.zero_add, World.ownsRow.cellAt h (j * 2 + 1) (by omega)]
      exact (flatC_get L j hj).2
theorem eq42 (a b a' b' : Int) (w : World) : Sem.run Tryd.prog (Op.equalIn 10000 42 (.agg #[.int .i64 a, .int .i64 b]) (.agg #[.int .i64 a', .int .i64 b'])) w = .ok ((a == a') && (b == b')) w := by
  rw [show (10000 : Nat) = 9998 + 1 + 1 from rfl]
  unfold Op.equalIn
  simp [run_underlying Tryd.underlying42, go_sem, eq3]
  repeat' split
  all_goals simp_all
/-- what the append asks of its source -/
theorem news_of {w : World} {ad : Addr} {l : List (Int × Int)} (hr : RdC w (some ad) l) : ∀ j u, (flatC l)[j]? = some u → w.cell? (ad.add j) = some u := by
  intro j u hu
  obtain ⟨k, hk, hjk⟩ := flatC_at l j u hu
  obtain ⟨b, o, he, hb, h1, h2⟩ := hr k hk
  obtain rfl := Option.some.inj he
  rw [add_plain']
  rcases hjk with ⟨rfl, rfl⟩ | ⟨rfl, rfl⟩
  · exact h1
  · rw [show o + (k * 2 + 1) = o + k * 2 + 1 from by omega]; exact h2
end Go.Proofs.YtfiglmbnjfgdlaaDoor
