import Derived.Test.YtnlbkaabhnkkfaaG1
import Derived.Test.YtnlbkaabhnkkfaaP0
namespace Go.Proofs.Ytnlbkaabhnkkfaa
open Go.RowKit
/-- marks, as the model holds them -/
abbrev mk (a b c : Int) : Value := .agg #[.int .i64 a, .int .i64 b, .int .i64 c]
abbrev mb (a b c : Int) : Obj := .cells #[.int .i64 a, .int .i64 b, .int .i64 c] 23
theorem mk_cases (a b c : Int) : (a < 0 ∧ mkE a b c = 2) ∨ (0 ≤ a ∧ 256 < c ∧ mkE a b c = 2) ∨ (0 ≤ a ∧ c ≤ 256 ∧ b ≤ a ∧ mkE a b c = 8) ∨ (0 ≤ a ∧ c ≤ 256 ∧ a < b ∧ c ≤ b ∧ mkE a b c = 8) ∨ (0 ≤ a ∧ c ≤ 256 ∧ a < b ∧ b < c ∧ mkE a b c = 0) := by
  unfold mkE
  repeat' split <;> omega
set_option maxHeartbeats 400000 in
theorem check_any (a b c : Int) (w : World) : Calls Try.prog 11 #[mk a b c] w fun e w' => e = .returned (.int .i64 (mkE a b c)) ∧ Ev w w' := by
  rcases mk_cases a b c with ⟨h1, e⟩ | ⟨h1, h2, e⟩ | ⟨h1, h2, h3, e⟩ | ⟨h1, h2, h3, h4, e⟩ | ⟨h1, h2, h3, h4, e⟩
  all_goals
    rw [e]
    clear e
    go_enter Try.func11, Try.ntmps11
    go_wp2_with fail
    go_ret
    exact ⟨rfl, al1 _ _⟩
set_option maxHeartbeats 400000 in
theorem rcheck_any (a b c : Int) (w : World) : Calls Try.prog 12 #[mk a b c] w fun e w' => e = .returned (.int .i64 (mkE a b c)) ∧ Ev w w' := by
  rcases mk_cases a b c with ⟨h1, e⟩ | ⟨h1, h2, e⟩ | ⟨h1, h2, h3, e⟩ | ⟨h1, h2, h3, h4, e⟩ | ⟨h1, h2, h3, h4, e⟩
  all_goals
    rw [e]
    clear e
    go_enter Try.func12, Try.ntmps12
    go_wp2_with fail
    go_ret
    exact ⟨rfl, al1 _ _⟩
theorem c1_any (bx bm : Nat) (x c : Int) (w : World) (hx : w.cell? ⟨bx, 0, none⟩ = some (.int .i64 x)) (hc : w.cell? ⟨bm, 2, none⟩ = some (.int .i64 c)) : Calls Try.prog 43 #[.pointer (some ⟨bx, 0, none⟩), .pointer (some ⟨bm, 0, none⟩)] w fun e w' => e = .returned (.bool (decide (c ≤ x))) ∧ w = w' := by
  go_enter Try.func43, Try.ntmps43
  go_wp2
  go_ret
  exact ⟨rfl, rfl⟩
theorem c2_any (bx bm : Nat) (x c : Int) (w : World) (hx : w.cell? ⟨bx, 0, none⟩ = some (.int .i64 x)) (hc : w.cell? ⟨bm, 1, none⟩ = some (.int .i64 c)) : Calls Try.prog 44 #[.pointer (some ⟨bx, 0, none⟩), .pointer (some ⟨bm, 0, none⟩)] w fun e w' => e = .returned (.bool (decide (c ≤ x))) ∧ w = w' := by
  go_enter Try.func44, Try.ntmps44
  go_wp2
  go_ret
  exact ⟨rfl, rfl⟩
theorem c3_any (bx bm : Nat) (x c : Int) (w : World) (hx : w.cell? ⟨bx, 0, none⟩ = some (.int .i64 x)) (hc : w.cell? ⟨bm, 0, none⟩ = some (.int .i64 c)) : Calls Try.prog 45 #[.pointer (some ⟨bx, 0, none⟩), .pointer (some ⟨bm, 0, none⟩)] w fun e w' => e = .returned (.bool (decide (c < x))) ∧ w = w' := by
  go_enter Try.func45, Try.ntmps45
  go_wp2
  go_ret
  exact ⟨rfl, rfl⟩
theorem lv_cases (a b c x : Int) : (c ≤ x ∧ lvV a b c x = 0) ∨ (x < c ∧ b ≤ x ∧ lvV a b c x = 1) ∨ (x < c ∧ x < b ∧ a < x ∧ lvV a b c x = 2) ∨ (x < c ∧ x < b ∧ x ≤ a ∧ lvV a b c x = 3) := by
  unfold lvV
  repeat' split <;> omega
end Go.Proofs.Ytnlbkaabhnkkfaa
