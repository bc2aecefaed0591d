import Derived.Test.YtnlbkaabhnkkfaaPI
namespace Go.Proofs.Ytnlbkaabhnkkfaa
open Go.RowKit
theorem asE_good {a b c x : Int} (h : 0 ≤ a ∧ a < b ∧ b < c ∧ c ≤ 256) (hx : 0 ≤ x ∧ x ≤ 256) : asE a b c [x] = 0 := by
  have h1 : mkE a b c = 0 := by unfold mkE; rw [if_neg (by omega), if_neg (by omega)]
  unfold asE
  rw [if_neg (by simp [h1]), hsE_one, if_neg (by omega)]
theorem Level_good (a b c x : Int) (W : World) (h : 0 ≤ a ∧ a < b ∧ b < c ∧ c ≤ 256) (hx : 0 ≤ x ∧ x ≤ 256) : Calls Try.prog 9 #[mk a b c, .int .i64 x] W fun e w' => e = .returned (.tuple #[.int .i64 (lvV a b c x), .int .i64 0]) ∧ Ev W w' := by
  have hh := Level_any a b c x W
  have e := asE_good h hx
  have e2 : lqV a b c x = lvV a b c x := by unfold lqV; rw [if_pos e]
  rwa [e, e2] at hh
theorem Next_good (a b c x : Int) (aw : Bool) (W : World) (h : 0 ≤ a ∧ a < b ∧ b < c ∧ c ≤ 256) (hx : 0 ≤ x ∧ x ≤ 256) : Calls Try.prog 13 #[mk a b c, .bool aw, .int .i64 x] W fun e w' => e = .returned (.tuple #[.bool (nxV b c aw x), .int .i64 0]) ∧ Ev W w' := by
  have hh := Next_any a b c x aw W
  have e := asE_good h hx
  have e2 : nqV a b c aw x = nxV b c aw x := by unfold nqV; rw [if_pos e]
  rwa [e, e2] at hh
theorem Missing_good (a b c x : Int) (aw : Bool) (W : World) (h : 0 ≤ a ∧ a < b ∧ b < c ∧ c ≤ 256) (hx : 0 ≤ x ∧ x ≤ 256) : Calls Try.prog 15 #[mk a b c, .bool aw, .int .i64 x] W fun e w' => e = .returned (.tuple #[.int .i64 (if nxV b c aw x = true then c - x else 0), .int .i64 0]) ∧ Ev W w' := by
  have hh := Missing_any a b c x aw W
  have e := asE_good h hx
  have e2 : msV a b c aw x = if nxV b c aw x = true then c - x else 0 := by unfold msV; simp [e]
  rwa [e, e2] at hh
theorem nx_more {b c x y : Int} {aw : Bool} (hbc : b < c) (h : x ≤ y) : nxV b c aw y = true → nxV b c aw x = true := by
  unfold nxV
  cases aw <;> simp <;> omega
theorem nx_lt {b c x : Int} {aw : Bool} (hbc : b < c) : nxV b c aw x = true → x < c := by
  unfold nxV
  cases aw <;> simp <;> omega
theorem lv_mono {a b c x y : Int} (_h : a < b) (hbc : b < c) (hxy : x ≤ y) : lvV a b c y ≤ lvV a b c x := by
  rcases lv_cases a b c x with ⟨h1, e⟩ | ⟨h1, h2, e⟩ | ⟨h1, h2, h3, e⟩ | ⟨h1, h2, h3, e⟩ <;> rcases lv_cases a b c y with ⟨g1, e'⟩ | ⟨g1, g2, e'⟩ | ⟨g1, g2, g3, e'⟩ | ⟨g1, g2, g3, e'⟩ <;> omega
end Go.Proofs.Ytnlbkaabhnkkfaa
