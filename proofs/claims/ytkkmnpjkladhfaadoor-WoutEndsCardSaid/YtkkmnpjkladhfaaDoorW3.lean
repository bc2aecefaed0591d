import Derived.Test.YtkkmnpjkladhfaaDoorW2
namespace Go.Proofs.YtkkmnpjkladhfaaDoor
open Go.RowKit

theorem setC {B : Nat} {w w' : World} (h : Below B w w') {p : Addr} (hp : B ≤ p.block) (v : Value) : Below B w (w'.setCell p v) := h.setCell hp v
def stS (s r : Int) (d : Bool) : Int := if r = 0 then 6 else if d = true ∧ s = 3 then 5 else if d = true then 4 else s
def stR (s r : Int) (d : Bool) : Int := if r = 0 then r else if d = true ∧ s = 3 then r - 1 else r
def stC (s r c : Int) (d : Bool) : Int := if r = 0 then c else if d = true ∧ s = 3 then 0 else c
set_option maxHeartbeats 1000000 in
theorem settled_any (s r c : Int) (d : Bool) (w : World) (r0 : 0 ≤ r) (r1 : r ≤ 512) : Calls Tryd.prog 46 #[wt s r c, .bool d] w fun e w' => e = .returned (wt (stS s r d) (stR s r d) (stC s r c d)) ∧ Below w.heap.size w w' := by
  rcases (show r = 0 ∨ r ≠ 0 by omega) with rfl | h
  · go_enter Tryd.func46, Tryd.ntmps46
    go_wp2
    all_goals
      refine bodyPost_ret (v := wt 6 0 c) (by simp [results, Tryd.results46, go_sem]) rfl ⟨rfl, ?_⟩
      repeat (first | exact al1 _ _ | exact Below.refl _ _ | (refine setC ?_ (by simp) _) | (refine Below.alloc ?_ (by simp) _))
  · have h' : (r == 0) = false := by simpa using h
    cases d
    · have e1 : stS s r false = s := by unfold stS; rw [if_neg h]; simp
      have e2 : stR s r false = r := by unfold stR; rw [if_neg h]; simp
      have e3 : stC s r c false = c := by unfold stC; rw [if_neg h]; simp
      rw [e1, e2, e3]
      clear e1 e2 e3 h
      go_enter Tryd.func46, Tryd.ntmps46
      go_wp2
      all_goals
        refine bodyPost_ret (v := wt s r c) (by simp [results, Tryd.results46, go_sem]) rfl ⟨rfl, ?_⟩
        repeat (first | exact al1 _ _ | exact Below.refl _ _ | (refine setC ?_ (by simp) _) | (refine Below.alloc ?_ (by simp) _))
    · rcases (show s = 3 ∨ s ≠ 3 by omega) with rfl | h3
      · have e1 : stS 3 r true = 5 := by unfold stS; rw [if_neg h]; simp
        have e2 : stR 3 r true = r - 1 := by unfold stR; rw [if_neg h]; simp
        have e3 : stC 3 r c true = 0 := by unfold stC; rw [if_neg h]; simp
        rw [e1, e2, e3]
        clear e1 e2 e3 h
        go_enter Tryd.func46, Tryd.ntmps46
        go_wp2
        all_goals
          refine bodyPost_ret (v := wt 5 (r - 1) 0) (by simp [results, Tryd.results46, go_sem]) rfl ⟨rfl, ?_⟩
          repeat (first | exact al1 _ _ | exact Below.refl _ _ | (refine setC ?_ (by simp) _) | (refine Below.alloc ?_ (by simp) _))
      · have e1 : stS s r true = 4 := by unfold stS; rw [if_neg h]; simp [h3]
        have e2 : stR s r true = r := by unfold stR; rw [if_neg h]; simp [h3]
        have e3 : stC s r c true = c := by unfold stC; rw [if_neg h]; simp [h3]
        have h3' : (s == 3) = false := by simpa using h3
        rw [e1, e2, e3]
        clear e1 e2 e3 h h3
        go_enter Tryd.func46, Tryd.ntmps46
        go_wp2
        all_goals
          refine bodyPost_ret (v := wt 4 r c) (by simp [results, Tryd.results46, go_sem]) rfl ⟨rfl, ?_⟩
          repeat (first | exact al1 _ _ | exact Below.refl _ _ | (refine setC ?_ (by simp) _) | (refine Below.alloc ?_ (by simp) _))
end Go.Proofs.YtkkmnpjkladhfaaDoor
