import Derived.Test.YtdkfedbjbcaajaaDoorR1
namespace Go.Proofs.YtdkfedbjbcaajaaDoor
open Go.RowKit
/-- a queue of the call's own: a slice anywhere in a block from base on, of numbers -/
def OwnQ (w : World) (base : Nat) (v : Value) (l : List Int) : Prop :=
  ∃ (g o cap : Nat) (C : Array Value), v = .slice (some ⟨g, o, none⟩) l.length cap ∧ base ≤ g ∧ w.heap[g]? = some (.cells C 3 (0, 0)) ∧ l.length ≤ cap ∧ (0 < cap → o + cap ≤ C.size) ∧ ∀ j, j < l.length → C[o + j]? = some (.int .i64 (l.getD j 0))
theorem OwnQ.below {w W : World} {base : Nat} {v : Value} {l : List Int} (h : OwnQ w base v l) (e : Ev w W) : OwnQ W base v l := by
  obtain ⟨g, o, cap, C, h1, h2, h3, h4, h5, h6⟩ := h
  exact ⟨g, o, cap, C, h1, h2, (e.block g (Array.getElem?_eq_some_iff.1 h3).1).trans h3, h4, h5, h6⟩
theorem OwnQ.far {w : World} {base : Nat} {v : Value} {l : List Int} (h : OwnQ w base v l) {p : Addr} (hp : p.block < base) (x : Value) : OwnQ (w.setCell p x) base v l := by
  obtain ⟨g, o, cap, C, h1, h2, h3, h4, h5, h6⟩ := h
  exact ⟨g, o, cap, C, h1, h2, (heap_setCell_other _ _ _ _ (by omega)).trans h3, h4, h5, h6⟩
theorem getD_snoc (l : List Int) (y : Int) (j : Nat) (h : j < l.length + 1) : (l ++ [y]).getD j 0 = if j < l.length then l.getD j 0 else y := by
  by_cases e : j < l.length
  · rw [if_pos e, List.getD_eq_getElem?_getD, List.getD_eq_getElem?_getD, List.getElem?_append_left e]
  · rw [if_neg e, List.getD_eq_getElem?_getD, List.getElem?_append_right (by omega), show j - l.length = 0 from by omega]; rfl
/-- 'queue = append(queue, y)' -/
theorem wpList_push {P : Program} (w : World) {ops : Array Oper} {rest : List Oper} {o : Oper} {a : Act} {Q : Exit → Act → World → Prop}
    (hg : o.guard = none) (s x : Operand) (t : TypeId) (hop : o.op = Op.call { callee := Callee.builtin Builtin.append, args := #[s, x], argTypes := #[t, t] })
    (i : TypeInfo) (h1 : P.underlying t = some (.slice 3)) (h2 : P.info? 3 = some i) (h3 : i.zero = some (.int .i64 0)) (h4 : i.size = 1) (h5 : i.bytes = 8)
    (base : Nat) (v : Value) (l : List Int) (hs : a.eval s = v) (hq : OwnQ w base v l) (hl : l.length ≤ 1000) (hbase : base ≤ w.heap.size)
    (ad : Addr) (c : Nat) (y : Int) (hx : a.eval x = .slice (some ad) 1 c) (hc : w.cell? ad = some (.int .i64 y)) (had : ad.spot = none)
    (hK : ∀ v' w', OwnQ w' base v' (l ++ [y]) → Below base w w' → wpList P ops Q rest (a.put o.dst v') w') :
    wpList P ops Q (o :: rest) a w := by
  obtain ⟨g, f, cap, C, rfl, q2, q3, q4, q5, q6⟩ := hq
  have hadd : ∀ j u, [Value.int .i64 y][j]? = some u → w.cell? (ad.add j) = some u := by
    intro j u hj
    rcases j with _ | j
    · simp at hj; subst hj
      obtain ⟨ab, ao, asp⟩ := ad
      simp only at had
      subst had
      simpa [Addr.add] using hc
    · simp at hj
  have hold : ∀ j u, (l.map (Value.int .i64))[j]? = some u → w.cell? ⟨g, f + j, none⟩ = some u := by
    intro j u hj
    have hjl : j < l.length := by
      have := (List.getElem?_eq_some_iff.1 hj).1
      simpa using this
    rw [cell_of_row w g (f + j) C 3 (0, 0) q3, q6 j hjl]
    simp [hjl] at hj
    rw [← hj, List.getD_eq_getElem?_getD, List.getElem?_eq_getElem hjl]; rfl
  refine wpList_append_arg (P := P) w hg s x t hop 3 i (.int .i64 0) 1 8 h1 h2 h3 h4 h5 rfl (by omega) g f l.length cap (l.map (Value.int .i64)) hs (by simp) hold ad 1 c [.int .i64 y] hx rfl hadd (by simp [Value.oneCell'])
    ?_ (by unfold maxLen; omega) (by omega) ?_ ?_
  · intro hr j hj
    have : j = 0 := by simpa using hj
    subst this
    refine ⟨?_, frozen_of_row w g _ C 3 q3⟩
    rw [cell_of_row w g _ C 3 (0, 0) q3]
    have := q5 (by omega)
    simp; omega
  · intro hr
    have e : w.setCells g (f + l.length * 1) [Value.int .i64 y] = w.setCell ⟨g, f + l.length, none⟩ (.int .i64 y) := by simp [World.setCells]
    rw [e]
    refine hK _ _ ⟨g, f, cap, C.setIfInBounds (f + l.length) (.int .i64 y), by simp, q2, heap_setCell_same _ _ _ C 3 _ q3, by simp; omega, fun h => by rw [Array.size_setIfInBounds]; exact q5 h, fun j hj => ?_⟩ (Below.setCell (Below.refl _ _) q2 _)
    have hj' : j < l.length + 1 := by simpa using hj
    rw [Array.getElem?_setIfInBounds, getD_snoc l y j hj']
    have := q5 (by omega)
    by_cases ej : j < l.length
    · rw [if_neg (by omega), if_pos ej, q6 j ej]
    · rw [if_pos (by omega), if_pos (by omega), if_neg ej]
  · intro hr v' w' hown hgrow
    refine hK v' w' ?_ ⟨hgrow.os, hgrow.tape, hgrow.output, hgrow.size, fun k hk => hgrow.block k (by omega) (by simp)⟩
    have hlen := hown.1
    rcases hown.2 with ⟨rfl, h0⟩ | ⟨g', cap', cur, rfl, hb, hh, hn, hcm, hsz, htk⟩
    · omega
    · refine ⟨g', 0, cap', cur, by simp, by omega, hh, by simp; omega, fun _ => by rw [hsz]; omega, fun j hj => ?_⟩
      have hj' : j < l.length + 1 := by simpa using hj
      have hcell := World.ownsRow.cellAt hown j (by omega)
      rw [cell_of_row w' g' j cur 3 (0, 0) hh] at hcell
      rw [Nat.zero_add, hcell, getD_snoc l y j hj']
      by_cases ej : j < l.length
      · rw [if_pos ej, List.getElem?_append_left (by simpa using ej)]
        simp [ej]
      · rw [if_neg ej, List.getElem?_append_right (by simp; omega)]
        simp [show j - l.length = 0 from by omega]
end Go.Proofs.YtdkfedbjbcaajaaDoor
