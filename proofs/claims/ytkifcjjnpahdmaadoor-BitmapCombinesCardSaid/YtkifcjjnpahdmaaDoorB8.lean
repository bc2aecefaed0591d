import Derived.Test.YtkifcjjnpahdmaaDoorB7
namespace Go.Proofs.YtkifcjjnpahdmaaDoor
open Go.RowKit
open Go.Deep

theorem count_70 (A : Option Addr) (cap : Nat) (w : World) (hr : Rd w A shw) : Calls Tryd.prog 21 #[.agg #[.int .i64 70, .slice A shw.length cap], .int .i64 0, .int .i64 70] w fun e w' => e = .returned (.tuple #[.int .i64 5, .int .i64 0]) ∧ Below w.heap.size w w' := by
  have h := count_any 70 A cap shw 0 70 w hr
  rw [fact_count.1, fact_count.2] at h
  exact h
theorem next_70 (A : Option Addr) (cap : Nat) (w : World) (hr : Rd w A shw) (hT : Tab w) (hz0 : 0 < w.heap.size) : Calls Tryd.prog 23 #[.agg #[.int .i64 70, .slice A shw.length cap], .int .i64 63, .bool false] w fun e w' => e = .returned (.tuple #[.int .i64 67, .int .i64 0]) ∧ Below w.heap.size w w' := by
  have h := nx_any 70 A cap shw 63 false w hr hT hz0
  rw [fact_next.1, fact_next.2] at h
  exact h
theorem run_70 (A : Option Addr) (cap : Nat) (w : World) (hr : Rd w A shw) (hT : Tab w) (hz0 : 0 < w.heap.size) : Calls Tryd.prog 27 #[.agg #[.int .i64 70, .slice A shw.length cap], .int .i64 3, .int .i64 2, .bool true] w fun e w' => e = .returned (.tuple #[.int .i64 62, .int .i64 0]) ∧ Below w.heap.size w w' := by
  have h := run_any 70 A cap shw 3 2 true w hr hT hz0
  rw [fact_run.1, fact_run.2] at h
  exact h
theorem same_70 (A : Option Addr) (cap g : Nat) (w : World) (hx : Rd w A shw) (hy : Rd w (some ⟨g, 0, none⟩) shw) :
    Calls Tryd.prog 42 #[.slice A shw.length cap, .slice (some ⟨g, 0, none⟩) 2 2] w fun e w' => e = .returned (.bool true) ∧ Below w.heap.size w w' := by
  have h := sameW_any A (some ⟨g, 0, none⟩) cap 2 shw shw w hx hy
  rw [decide_eq_true rfl] at h
  exact h
theorem Rd.lit {w : World} {c : Array Value} {ws : List Nat} (hl : ws.length ≤ 4000000000) (hx : ∀ x ∈ ws, x < 18446744073709551616) (hc : c = (U ws).toArray) : Rd (w.alloc (.cells c 61)) (some ⟨w.heap.size, 0, none⟩) ws :=
  ⟨hx, hl, fun j hj => ⟨w.heap.size, 0, rfl, by simp, by
    subst hc
    unfold U
    simp [hj]⟩⟩

set_option maxHeartbeats 400000 in
theorem awake_any (w : World) (hT : Tab w) (hz0 : 0 < w.heap.size) :
    Calls Tryd.prog 12 #[] w fun e w' => e = .returned (.bool true) ∧ Below w.heap.size w w' := by
  go_enter Tryd.func12, Tryd.ntmps12
  go_wp2_with fail
  refine (shown_any _).mono ?_
  rintro e w1 ⟨A, cap, rfl, hR, hb1⟩
  have hs1 := bsz hb1
  go_wp2_with fail
  have hbA : Below w.heap.size w (w1.alloc (.cells #[.int .i64 70, .slice A shw.length cap] 24)) := hb1.alloc hs1 _
  have hRA := hR.alloc (.cells #[.int .i64 70, .slice A shw.length cap] 24)
  have hx0 : (w1.alloc (.cells #[.int .i64 70, .slice A shw.length cap] 24)).cell? ⟨w1.heap.size, 0, none⟩ = some (.int .i64 70) := by simp
  have hx1 : (w1.alloc (.cells #[.int .i64 70, .slice A shw.length cap] 24)).cell? ⟨w1.heap.size, 1, none⟩ = some (.slice A shw.length cap) := by simp
  have hsA : w1.heap.size < (w1.alloc (.cells #[.int .i64 70, .slice A shw.length cap] 24)).heap.size := by simp
  generalize w1.alloc (.cells #[.int .i64 70, .slice A shw.length cap] 24) = wA at *
  refine (count_70 A cap _ hRA).mono ?_
  rintro e w2 ⟨rfl, hb2⟩
  have hs2 := bsz hb2
  have y0 := (hb2.cell (p := ⟨w1.heap.size, 0, none⟩) hsA).trans hx0
  have y1 := (hb2.cell (p := ⟨w1.heap.size, 1, none⟩) hsA).trans hx1
  have hbB := hbA.trans (hb2.mono (by omega))
  go_wp2_with fail
  refine (next_70 A cap _ (hRA.below hb2) (hT.below hz0 hbB) (by omega)).mono ?_
  rintro e w3 ⟨rfl, hb3⟩
  have hs3 := bsz hb3
  have z0 := (hb3.cell (p := ⟨w1.heap.size, 0, none⟩) (by simp only []; omega)).trans y0
  have z1 := (hb3.cell (p := ⟨w1.heap.size, 1, none⟩) (by simp only []; omega)).trans y1
  have hbC := hbB.trans (hb3.mono (by omega))
  go_wp2_with fail
  refine (run_70 A cap _ ((hRA.below hb2).below hb3) (hT.below hz0 hbC) (by omega)).mono ?_
  rintro e w4 ⟨rfl, hb4⟩
  have hs4 := bsz hb4
  have v1 := (hb4.cell (p := ⟨w1.heap.size, 1, none⟩) (by simp only []; omega)).trans z1
  have hbD := hbC.trans (hb4.mono (by omega))
  have hR4 := ((hRA.below hb2).below hb3).below hb4
  clear hx0 hx1 y0 y1 z0 z1 hb2 hb3 hb4 hbA hbB hbC hR hRA hb1
  go_wp2_with fail
  have hL := Rd.lit (w := w4) (c := #[Value.int IntKind.u64 13835058055282163712, Value.int IntKind.u64 7]) (ws := shw) (by decide) (by decide) rfl
  refine (same_70 A cap _ _ (hR4.alloc _) hL).mono ?_
  rintro e w5 ⟨rfl, hb5⟩
  go_wp2
  go_ret
  exact ⟨rfl, (hbD.alloc (by omega) _).trans (hb5.mono (by simp <;> omega))⟩
end Go.Proofs.YtkifcjjnpahdmaaDoor
