import Derived.Test.YtkifcjjnpahdmaaDoorB6
namespace Go.Proofs.YtkifcjjnpahdmaaDoor
open Go.RowKit
open Go.Deep

/-- the words of the chapter's set -/
def shw : List Nat := [13835058055282163712, 7]
def nil2 : List Nat := [0, 0]
theorem fact_new : newN 70 = 70 ∧ newW 70 = nil2 ∧ newE 70 = 0 := by decide +kernel
theorem fact_put : putN 70 nil2 62 67 = 70 ∧ putWs 70 nil2 62 67 true = shw ∧ chpI 70 nil2 62 67 = 0 := by decide +kernel
theorem fact_count : cntVal 70 shw 0 70 = 5 ∧ chpI 70 shw 0 70 = 0 := by decide +kernel
theorem fact_next : nxVal 70 shw 63 false = 67 ∧ nxErr 70 shw 63 false = 0 := by decide +kernel
theorem fact_run : runVal 70 shw 3 2 true = 62 ∧ runErr 70 shw 3 2 true = 0 := by decide +kernel
theorem new_70 (w : World) : Calls Tryd.prog 14 #[.int .i64 70] w (RetS w 70 nil2 0) := by
  have h := new_any 70 w
  rw [fact_new.1, fact_new.2.1, fact_new.2.2] at h
  exact h
theorem put_70 (A : Option Addr) (cap : Nat) (w : World) (hr : Rd w A nil2) : Calls Tryd.prog 25 #[.agg #[.int .i64 70, .slice A nil2.length cap], .int .i64 62, .int .i64 67, .bool true] w (RetS w 70 shw 0) := by
  have h := put_any 70 A cap nil2 62 67 true w hr
  rw [fact_put.1, fact_put.2.1, fact_put.2.2] at h
  exact h

set_option maxHeartbeats 400000 in
theorem shown_any (w : World) :
    Calls Tryd.prog 35 #[] w fun e w' => ∃ A cap, e = .returned (.tuple #[.agg #[.int .i64 70, .slice A shw.length cap], .bool true]) ∧ Rd w' A shw ∧ Below w.heap.size w w' := by
  go_enter Tryd.func35, Tryd.ntmps35
  go_wp2_with fail
  refine (new_70 _).mono ?_
  rintro e w1 ⟨A, cap, rfl, _, _, hR, hb⟩
  have hs1 : w.heap.size + 1 ≤ w1.heap.size := by have := bsz hb; simpa using this
  go_wp2_with fail
  have hR1 := hR.alloc (.cells #[.int .i64 70, .slice A nil2.length cap] 24)
  refine (put_70 A cap _ hR1).mono ?_
  rintro e w2 ⟨B, cap2, rfl, _, hF, hR2, hb2⟩
  have hs2 : w1.heap.size + 1 ≤ w2.heap.size := by have := bsz hb2; simpa using this
  have hbT : Below (w.heap.size + 1) (w.alloc (.cells #[.int .i64 0, .slice none 0 0] 24)) w2 :=
    (hb.mono (by simp)).trans (((Below.refl _ _).alloc hs1 (.cells #[.int .i64 70, .slice A nil2.length cap] 24)).trans (hb2.mono (by simp <;> omega)))
  have hx0 : w2.cell? ⟨w.heap.size, 0, none⟩ = some (.int .i64 0) := (hbT.cell (p := ⟨w.heap.size, 0, none⟩) (by simp only []; omega)).trans (by simp)
  have hx1 : w2.cell? ⟨w.heap.size, 1, none⟩ = some (.slice none 0 0) := (hbT.cell (p := ⟨w.heap.size, 1, none⟩) (by simp only []; omega)).trans (by simp)
  have hz0 : w2.frozen? ⟨w.heap.size, 0, none⟩ = false := (hbT.frozen (p := ⟨w.heap.size, 0, none⟩) (by simp only []; omega)).trans (by simp)
  have hz1 : w2.frozen? ⟨w.heap.size, 1, none⟩ = false := (hbT.frozen (p := ⟨w.heap.size, 1, none⟩) (by simp only []; omega)).trans (by simp)
  have hbX : Below w.heap.size w w2 := ((Below.refl _ _).alloc (Nat.le_refl _) _).trans (hbT.mono (by omega))
  have hF2 : ∀ a, B = some a → a.block ≠ w.heap.size := fun a h => by have := hF a h; simp at this; omega
  clear hb hb2 hbT hR hR1 hF
  have hlt : w.heap.size < w2.heap.size := by omega
  go_wp2
  refine bodyPost_ret (v := .tuple #[.agg #[.int .i64 70, .slice B shw.length cap2], .bool true]) (by simp [results, Tryd.results35, go_sem, hx0, hx1, hlt]) rfl ⟨B, cap2, rfl, ?_, ?_⟩
  · exact (((hR2.setCell hF2 _).setCell hF2 _).alloc _)
  · exact ((hbX.setCell (p := ⟨w.heap.size, 0, none⟩) (Nat.le_refl _) _).setCell (p := ⟨w.heap.size, 1, none⟩) (Nat.le_refl _) _).alloc (by simp [World.setCell]; omega) _
end Go.Proofs.YtkifcjjnpahdmaaDoor
