import Derived.Test.YtdkfedbjbcaajaaDoorR3
import Derived.RangeFuncBox
namespace Go.Proofs.YtdkfedbjbcaajaaDoor
open Go.RowKit

theorem OwnI.swap {w : World} {base g cap i j : Nat} {L : List Int} {x y : Int} (h : OwnI w base (.slice (some ⟨g, 0, none⟩) L.length cap) L) :
    OwnI ((w.setCell ⟨g, i, none⟩ (.int .i64 x)).setCell ⟨g, j, none⟩ (.int .i64 y)) base (.slice (some ⟨g, 0, none⟩) L.length cap) ((L.set i x).set j y) ∧ Below base w ((w.setCell ⟨g, i, none⟩ (.int .i64 x)).setCell ⟨g, j, none⟩ (.int .i64 y)) := by
  have h1 := World.ownsRow.stored h i (.int .i64 x)
  have h2 := World.ownsRow.stored h1.1 j (.int .i64 y)
  have hb := (World.ownsRow.lt h g rfl).1
  refine ⟨?_, Below.setCell (Below.setCell (Below.refl _ _) hb _) hb _⟩
  have e : IV ((L.set i x).set j y) = ((IV L).set i (.int .i64 x)).set j (.int .i64 y) := by unfold IV; simp [List.map_set]
  unfold OwnI
  rw [e]; simpa using h2.1
theorem OwnI.at {w : World} {base g cap : Nat} {L : List Int} (h : OwnI w base (.slice (some ⟨g, 0, none⟩) L.length cap) L) (j : Nat) (hj : j < L.length) : w.cell? ⟨g, j, none⟩ = some (.int .i64 (L.getD j 0)) := by
  rw [World.ownsRow.cellAt h j (by omega)]
  unfold IV
  simp [hj]
set_option maxRecDepth 100000 in
set_option maxHeartbeats 4000000 in
theorem reverse_any (base : Nat) (v : Value) (L : List Int) (w : World) (h : OwnI w base v L) (hl : L.length ≤ 5) :
    Calls Tryd.prog 42 #[v] w fun e w' => e = .returned (.tuple #[]) ∧ OwnI w' base v L.reverse ∧ Below base w w' := by
  rcases L with _ | ⟨a, _ | ⟨b, _ | ⟨c, _ | ⟨d, _ | ⟨e, _ | ⟨f, l⟩⟩⟩⟩⟩⟩
  · obtain ⟨A, cap, rfl, -⟩ := RdI.of_own h (by simp)
    simp only [List.length_nil]
    have HH := Lib.hid h
    clear h
    go_enter Tryd.func42, Tryd.ntmps42
    go_wp2_with fail
    refine wp_loop_rounds 1 ?_
    rw [rounds_succ]
    go_wp2_with fail
    exact bodyPost_end (v := .tuple #[]) (by simp [results, Tryd.results42, go_sem]) rfl ⟨rfl, HH.out, Below.refl _ _⟩
  · obtain ⟨g, cap, rfl⟩ := ownsRow_succ h
    have c0 := OwnI.at h 0 (by simp)
    have f0 := World.ownsRow.frozenAt h 0
    have HH := Lib.hid h
    simp only [List.length_cons, List.length_nil, List.getD_cons_zero, Nat.zero_add] at *
    clear h
    go_enter Tryd.func42, Tryd.ntmps42
    go_wp2_with fail
    refine wp_loop_rounds 1 ?_
    rw [rounds_succ]
    go_wp2_with fail
    exact bodyPost_end (v := .tuple #[]) (by simp [results, Tryd.results42, go_sem]) rfl ⟨rfl, HH.out, Below.refl _ _⟩
  · obtain ⟨g, cap, rfl⟩ := ownsRow_succ h
    have c0 := OwnI.at h 0 (by simp)
    have f0 := World.ownsRow.frozenAt h 0
    have c1 := OwnI.at h 1 (by simp)
    have f1 := World.ownsRow.frozenAt h 1
    have HH := Lib.hid h
    simp only [List.length_cons, List.length_nil, List.getD_cons_zero, List.getD_cons_succ, Nat.zero_add, Nat.reduceAdd] at *
    clear h
    go_enter Tryd.func42, Tryd.ntmps42
    go_wp2_with fail
    refine wp_loop_rounds 2 ?_
    rw [rounds_succ]
    go_wp2_with fail
    go_region
    go_wp2_with fail
    rw [rounds_succ]
    go_wp2_with fail
    have S0 := OwnI.swap (i := 0) (j := 1) (x := b) (y := a) HH.out
    exact bodyPost_end (v := .tuple #[]) (by simp [results, Tryd.results42, go_sem]) rfl ⟨rfl, World.ownsRow.drew S0.1, S0.2.drew⟩
  · obtain ⟨g, cap, rfl⟩ := ownsRow_succ h
    have c0 := OwnI.at h 0 (by simp)
    have f0 := World.ownsRow.frozenAt h 0
    have c1 := OwnI.at h 1 (by simp)
    have f1 := World.ownsRow.frozenAt h 1
    have c2 := OwnI.at h 2 (by simp)
    have f2 := World.ownsRow.frozenAt h 2
    have HH := Lib.hid h
    simp only [List.length_cons, List.length_nil, List.getD_cons_zero, List.getD_cons_succ, Nat.zero_add, Nat.reduceAdd] at *
    clear h
    go_enter Tryd.func42, Tryd.ntmps42
    go_wp2_with fail
    refine wp_loop_rounds 2 ?_
    rw [rounds_succ]
    go_wp2_with fail
    go_region
    go_wp2_with fail
    rw [rounds_succ]
    go_wp2_with fail
    have S0 := OwnI.swap (i := 0) (j := 2) (x := c) (y := a) HH.out
    exact bodyPost_end (v := .tuple #[]) (by simp [results, Tryd.results42, go_sem]) rfl ⟨rfl, World.ownsRow.drew S0.1, S0.2.drew⟩
  · obtain ⟨g, cap, rfl⟩ := ownsRow_succ h
    have c0 := OwnI.at h 0 (by simp)
    have f0 := World.ownsRow.frozenAt h 0
    have c1 := OwnI.at h 1 (by simp)
    have f1 := World.ownsRow.frozenAt h 1
    have c2 := OwnI.at h 2 (by simp)
    have f2 := World.ownsRow.frozenAt h 2
    have c3 := OwnI.at h 3 (by simp)
    have f3 := World.ownsRow.frozenAt h 3
    have HH := Lib.hid h
    simp only [List.length_cons, List.length_nil, List.getD_cons_zero, List.getD_cons_succ, Nat.zero_add, Nat.reduceAdd] at *
    clear h
    go_enter Tryd.func42, Tryd.ntmps42
    go_wp2_with fail
    refine wp_loop_rounds 3 ?_
    rw [rounds_succ]
    go_wp2_with fail
    go_region
    go_wp2_with fail
    rw [rounds_succ]
    go_wp2_with fail
    go_region
    go_wp2_with fail
    rw [rounds_succ]
    go_wp2_with fail
    have S0 := OwnI.swap (i := 0) (j := 3) (x := d) (y := a) HH.out
    have S1 := OwnI.swap (i := 1) (j := 2) (x := c) (y := b) (World.ownsRow.drew S0.1)
    exact bodyPost_end (v := .tuple #[]) (by simp [results, Tryd.results42, go_sem]) rfl ⟨rfl, World.ownsRow.drew S1.1, (Below.trans S0.2.drew S1.2).drew⟩
  · obtain ⟨g, cap, rfl⟩ := ownsRow_succ h
    have c0 := OwnI.at h 0 (by simp)
    have f0 := World.ownsRow.frozenAt h 0
    have c1 := OwnI.at h 1 (by simp)
    have f1 := World.ownsRow.frozenAt h 1
    have c2 := OwnI.at h 2 (by simp)
    have f2 := World.ownsRow.frozenAt h 2
    have c3 := OwnI.at h 3 (by simp)
    have f3 := World.ownsRow.frozenAt h 3
    have c4 := OwnI.at h 4 (by simp)
    have f4 := World.ownsRow.frozenAt h 4
    have HH := Lib.hid h
    simp only [List.length_cons, List.length_nil, List.getD_cons_zero, List.getD_cons_succ, Nat.zero_add, Nat.reduceAdd] at *
    clear h
    go_enter Tryd.func42, Tryd.ntmps42
    go_wp2_with fail
    refine wp_loop_rounds 3 ?_
    rw [rounds_succ]
    go_wp2_with fail
    go_region
    go_wp2_with fail
    rw [rounds_succ]
    go_wp2_with fail
    go_region
    go_wp2_with fail
    rw [rounds_succ]
    go_wp2_with fail
    have S0 := OwnI.swap (i := 0) (j := 4) (x := e) (y := a) HH.out
    have S1 := OwnI.swap (i := 1) (j := 3) (x := d) (y := b) (World.ownsRow.drew S0.1)
    exact bodyPost_end (v := .tuple #[]) (by simp [results, Tryd.results42, go_sem]) rfl ⟨rfl, World.ownsRow.drew S1.1, (Below.trans S0.2.drew S1.2).drew⟩
  · simp at hl
end Go.Proofs.YtdkfedbjbcaajaaDoor
