import Derived.Test.YtkifcjjnpahdmaaDoorB4
import Derived.Deep.RegionHeld3
import Derived.Deep.RegionWith
namespace Go.Proofs.YtkifcjjnpahdmaaDoor
open Go.RowKit
open Go.Deep

theorem own_any (A : Option Addr) (cap : Nat) (ws : List Nat) (w : World) (hr : Rd w A ws) (hl : ws.length ≤ 100000) (hn : Nil0 A cap) :
    Calls Tryd.prog 43 #[.slice A ws.length cap] w fun e w' => ∃ A' cap', e = .returned (.slice A' ws.length cap') ∧ Nil0 A' cap' ∧ From w.heap.size A' ∧ Rd w' A' ws ∧ Below w.heap.size w w' := by
  rcases A with _ | ad
  · have e : ws = [] := by
      rcases ws with _ | ⟨x, l⟩
      · rfl
      · obtain ⟨b, o, h, _⟩ := hr.2.2 0 (by simp)
        cases h
    subst e
    rw [hn rfl]
    exact own_nil w
  · exact own_some ad cap ws w hr hl
set_option maxHeartbeats 400000 in
theorem ownBits_any (n : Int) (A : Option Addr) (cap : Nat) (ws : List Nat) (w : World) (hr : Rd w A ws) (hl : ws.length ≤ 100000) (hn : Nil0 A cap) :
    Calls Tryd.prog 13 #[.agg #[.int .i64 n, .slice A ws.length cap]] w fun e w' => ∃ A' cap', e = .returned (.agg #[.int .i64 n, .slice A' ws.length cap']) ∧ Nil0 A' cap' ∧ From w.heap.size A' ∧ Rd w' A' ws ∧ Below w.heap.size w w' := by
  have hr1 := (hr.alloc (.cells #[.int .i64 n, .slice A ws.length cap] 24)).alloc (.cells #[.int .i64 0, .slice none 0 0] 24)
  have hr2 : Rd ((w.alloc (.cells #[.int .i64 n, .slice A ws.length cap] 24)).alloc (.cells #[.int .i64 0, .slice none 0 0] 24)).drew A ws := hr1
  have HC := Lib.hid (fun W hR => own_any A cap ws W hR hl hn)
  have H1 := Lib.hid hr1
  have H2 := Lib.hid hr2
  clear hr1 hr2 hr
  go_enter Tryd.func13, Tryd.ntmps13
  go_wp2
  go_region_with (go_at_call 43; refine (HC.out _ H2.out).mono ?_; rintro e w1 ⟨A', cap', rfl, hn', hF, hR', hb⟩; obtain ⟨hc1, hf1⟩ := bc hb; have hs1 := bsz hb)
  all_goals
    have hx0 : w1.cell? ⟨w.heap.size + 1, 0, none⟩ = some (.int .i64 0) := by rw [hc1 _ _ (by simp)]; simp
    have hx1 : w1.cell? ⟨w.heap.size + 1, 1, none⟩ = some (.slice none 0 0) := by rw [hc1 _ _ (by simp)]; simp
    have hF2 : w.heap.size + 2 ≤ (⟨w.heap.size + 2, 0, none⟩ : Addr).block := Nat.le_refl _
    have hF3 : ∀ a, A' = some a → w.heap.size + 2 ≤ a.block := fun a h => by have := hF a h; simpa using this
    have hbW := (((Below.refl _ _).alloc (Nat.le_refl _) _).alloc (by simp) _).drew.trans (hb.mono (B' := w.heap.size) (by simp <;> omega))
    have hs2 : w.heap.size + 2 ≤ w1.heap.size := by simpa using hs1
    clear hc1 hf1 hs1 hF2
    go_wp2
    refine bodyPost_ret (v := .agg #[.int .i64 n, .slice A' ws.length cap']) (by simp [results, Tryd.results13, go_sem, hx0, hx1]) rfl ⟨A', cap', rfl, hn', (fun a h => by have := hF3 a h; omega), ?_, ?_⟩
    · exact (hR'.setCell (fun a h => by have := hF3 a h; simp only []; omega) _).setCell (fun a h => by have := hF3 a h; simp only []; omega) _
    · exact (hbW.setCell (by simp only []; omega) _).setCell (by simp only []; omega) _
end Go.Proofs.YtkifcjjnpahdmaaDoor
