import Derived.Test.YtjlgaddnibelfaaZ8
namespace Go.Proofs.Ytjlgaddnibelfaa
open Go.RowKit

set_option maxHeartbeats 400000 in
theorem levels_any (mn lo hi free : Int) (was : Bool) (w : World) : Calls Try.prog 4 #[mk mn lo hi, .int .i64 free, .bool was] w fun e w' => e = .returned (.bool true) ∧ Below w.heap.size w w' := by
  have H1 := Lib.hid fun W => level_any mn lo hi free W
  have H2 := Lib.hid fun W => rlevel_any mn lo hi free W
  have H3 := Lib.hid fun W => awk_any mn lo hi free was W
  have H4 := Lib.hid fun W => rawk_any mn lo hi free was W
  have H5 := Lib.hid awake_any
  generalize levV mn lo hi free = x at *
  generalize awkV mn lo hi free was = y at *
  generalize chkE mn lo hi 1 free 0 = z at *
  have hx : (x == x) = true := by simp
  have hy : (y == y) = true := by simp
  have hz : (z == z) = true := by simp
  have ha : ∀ X, Ev w X → X = X := fun _ _ => rfl
  clear ha
  have S0 : Hid (∀ X, Ev (w.alloc (.cells #[.int .i64 mn, .int .i64 lo, .int .i64 hi] 23)) X → Box3 X w.heap.size mn lo hi) := Lib.hid fun X h => (show Box3 (w.alloc (.cells #[.int .i64 mn, .int .i64 lo, .int .i64 hi] 23)) w.heap.size mn lo hi by unfold Box3; simp).ev (by simp) h
  go_enter Try.func4, Try.ntmps4
  go_wp2_with fail
  have hev := Ev.refl (w.alloc (.cells #[.int .i64 mn, .int .i64 lo, .int .i64 hi] 23))
  refine (ev_call hev (H1.out _)).mono ?_
  clear hev
  rintro e w1 ⟨rfl, hev⟩
  obtain ⟨p1, q1, r1⟩ := S0.out _ hev
  go_wp2_with fail
  refine (ev_call hev (H2.out _)).mono ?_
  clear hev p1 q1 r1
  rintro e w1 ⟨rfl, hev⟩
  obtain ⟨p1, q1, r1⟩ := S0.out _ hev
  go_wp2_with fail
  refine (ev_call hev (H3.out _)).mono ?_
  clear hev p1 q1 r1
  rintro e w1 ⟨rfl, hev⟩
  obtain ⟨p1, q1, r1⟩ := S0.out _ hev
  go_wp2_with fail
  refine (ev_call hev (H4.out _)).mono ?_
  clear hev p1 q1 r1
  rintro e w1 ⟨rfl, hev⟩
  go_wp2_with fail
  refine (ev_call hev (H5.out _)).mono ?_
  clear hev
  rintro e w1 ⟨rfl, hev⟩
  go_wp2_with fail
  go_ret
  exact ⟨rfl, nxt0 hev⟩
end Go.Proofs.Ytjlgaddnibelfaa
