import Derived.Test.YtkifcjjnpahdmaaDoorG1
namespace Go.Proofs.YtkifcjjnpahdmaaDoor
open Go.RowKit
open Go.Deep

set_option maxHeartbeats 400000 in
theorem combs_big1 (n m : Int) (A B : Option Addr) (c d la lb : Nat) (op : Int) (w : World) (hl : 40 < la) (hlm : la ≤ 9223372036854775807) (hT : Tab w) (hz0 : 0 < w.heap.size) :
    Calls Tryd.prog 5 #[.agg #[.int .i64 n, .slice A la c], .agg #[.int .i64 m, .slice B lb d], .int .i64 op] w fun e w' => e = .returned (.bool true) ∧ Below w.heap.size w w' := by
  have hc := awake_any _ ((hT.alloc hz0 (.cells #[.int .i64 n, .slice A la c] 24)).alloc (by simp) (.cells #[.int .i64 m, .slice B lb d] 24)) (by simp)
  have HC := Lib.hid hc
  have hl' : (40 : Int) < (la : Int) := by omega
  clear hc
  go_enter Tryd.func5, Tryd.ntmps5
  go_wp2_with fail
  refine HC.out.mono ?_
  rintro e w1 ⟨rfl, hb⟩
  go_wp2
  go_ret
  exact ⟨rfl, (((Below.refl _ _).alloc (Nat.le_refl _) _).alloc (by simp) _).trans (hb.mono (by simp <;> omega))⟩
set_option maxHeartbeats 400000 in
theorem combs_big2 (n m : Int) (A B : Option Addr) (c d la lb : Nat) (op : Int) (w : World) (hla : ¬ 40 < la) (hl : 40 < lb) (hlm : lb ≤ 9223372036854775807) (hT : Tab w) (hz0 : 0 < w.heap.size) :
    Calls Tryd.prog 5 #[.agg #[.int .i64 n, .slice A la c], .agg #[.int .i64 m, .slice B lb d], .int .i64 op] w fun e w' => e = .returned (.bool true) ∧ Below w.heap.size w w' := by
  have hc := awake_any _ ((hT.alloc hz0 (.cells #[.int .i64 n, .slice A la c] 24)).alloc (by simp) (.cells #[.int .i64 m, .slice B lb d] 24)) (by simp)
  have HC := Lib.hid hc
  have hl' : (40 : Int) < (lb : Int) := by omega
  have hl2 : ¬ (40 : Int) < (la : Int) := by omega
  clear hc
  go_enter Tryd.func5, Tryd.ntmps5
  go_wp2_with fail
  refine HC.out.mono ?_
  rintro e w1 ⟨rfl, hb⟩
  go_wp2
  go_ret
  exact ⟨rfl, (((Below.refl _ _).alloc (Nat.le_refl _) _).alloc (by simp) _).trans (hb.mono (by simp <;> omega))⟩
theorem combs_any (n m : Int) (A B : Option Addr) (c d la lb : Nat) (op : Int) (w : World) (hnx : Nil0 A c) (hny : Nil0 B d) (hlm : la ≤ 9223372036854775807) (hlm2 : lb ≤ 9223372036854775807) (hws : la ≤ 4000000000 → ∃ ws : List Nat, ws.length = la ∧ Rd w A ws) (hws2 : lb ≤ 4000000000 → ∃ ws : List Nat, ws.length = lb ∧ Rd w B ws) (hT : Tab w) (hz0 : 0 < w.heap.size) :
    Calls Tryd.prog 5 #[.agg #[.int .i64 n, .slice A la c], .agg #[.int .i64 m, .slice B lb d], .int .i64 op] w fun e w' => e = .returned (.bool true) ∧ Below w.heap.size w w' := by
  by_cases h : 40 < la
  · exact combs_big1 n m A B c d la lb op w h hlm hT hz0
  · by_cases h2 : 40 < lb
    · exact combs_big2 n m A B c d la lb op w h h2 hlm2 hT hz0
    · obtain ⟨xs, rfl, hx⟩ := hws (by omega)
      obtain ⟨ys, rfl, hy⟩ := hws2 (by omega)
      exact combs_small n m A B c d xs ys op w hx hy hnx hny (by omega) (by omega) hT hz0
end Go.Proofs.YtkifcjjnpahdmaaDoor
