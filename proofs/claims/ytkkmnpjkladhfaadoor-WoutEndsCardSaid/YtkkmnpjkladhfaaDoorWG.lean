import Derived.Test.YtkkmnpjkladhfaaDoorWF
namespace Go.Proofs.YtkkmnpjkladhfaaDoor
open Go.RowKit

set_option maxHeartbeats 1000000 in
theorem looks_any (s r c : Int) (w : World) (hT : Tab w) (h0 : 0 < w.heap.size) : Calls Tryd.prog 4 #[wt s r c] w fun e w' => e = .returned (.bool true) ∧ Ev w w' := by
  have h0' : 0 < (w.alloc (.cells #[.int .i64 s, .int .i64 r, .int .i64 c] 23)).heap.size := by simp
  have e0 : Ev w (w.alloc (.cells #[.int .i64 s, .int .i64 r, .int .i64 c] 23)) := (Ev.refl w).alloc _
  have H1 : Hid (∀ W, Ev (w.alloc (.cells #[.int .i64 s, .int .i64 r, .int .i64 c] 23)) W → Calls Tryd.prog 18 #[wt s r c] W fun e w' => e = .returned (.tuple #[.int .i64 (roR s r c), .int .i64 (oChk s r c)]) ∧ Ev (w.alloc (.cells #[.int .i64 s, .int .i64 r, .int .i64 c] 23)) w') := Lib.hid fun W e => evN e (role_any s r c W)
  have H2 : Hid (∀ W, Ev (w.alloc (.cells #[.int .i64 s, .int .i64 r, .int .i64 c] 23)) W → Calls Tryd.prog 19 #[wt s r c] W fun e w' => e = .returned (.tuple #[.int .i64 (roR s r c), .int .i64 (oChk s r c)]) ∧ Ev (w.alloc (.cells #[.int .i64 s, .int .i64 r, .int .i64 c] 23)) w') := Lib.hid fun W e => evN e (rrole_any s r c W)
  have H3 : Hid (∀ W, Ev (w.alloc (.cells #[.int .i64 s, .int .i64 r, .int .i64 c] 23)) W → Calls Tryd.prog 20 #[wt s r c] W fun e w' => e = .returned (.tuple #[.bool (slF s r c), .bool (slB s r c), .int .i64 (oChk s r c)]) ∧ Ev (w.alloc (.cells #[.int .i64 s, .int .i64 r, .int .i64 c] 23)) w') := Lib.hid fun W e => evN e (slot_any s r c W)
  have H4 : Hid (∀ W, Ev (w.alloc (.cells #[.int .i64 s, .int .i64 r, .int .i64 c] 23)) W → Calls Tryd.prog 21 #[wt s r c] W fun e w' => e = .returned (.tuple #[.bool (slF s r c), .bool (slB s r c), .int .i64 (oChk s r c)]) ∧ Ev (w.alloc (.cells #[.int .i64 s, .int .i64 r, .int .i64 c] 23)) w') := Lib.hid fun W e => evN e (rslot_any s r c W)
  have H7 : Hid (∀ W, Ev (w.alloc (.cells #[.int .i64 s, .int .i64 r, .int .i64 c] 23)) W → Calls Tryd.prog 17 #[] W fun e w' => e = .returned (.bool true) ∧ Ev (w.alloc (.cells #[.int .i64 s, .int .i64 r, .int .i64 c] 23)) w') := Lib.hid fun W e => evN e (awake_any W ((hT.ev h0 e0).ev h0' e) (by have := Below.size e; omega))
  have HB : Hid (∀ W, Ev (w.alloc (.cells #[.int .i64 s, .int .i64 r, .int .i64 c] 23)) W → ((W.cell? ⟨w.heap.size, 0, none⟩ = some (.int .i64 s) ∧ W.cell? ⟨w.heap.size, 1, none⟩ = some (.int .i64 r) ∧ W.cell? ⟨w.heap.size, 2, none⟩ = some (.int .i64 c)) ∧ Ev w W)) := Lib.hid fun W e => ⟨((Bx3.new w s r c 23).ev (by simp) e).1, e0.step e⟩
  clear hT h0' e0
  generalize roR s r c = a1 at *
  generalize slF s r c = a2 at *
  generalize slB s r c = a3 at *
  generalize oChk s r c = a4 at *
  go_enter Tryd.func4, Tryd.ntmps4
  go_wp2_with fail
  refine (H1.out _ (Ev.refl _)).mono ?_
  rintro e w1 ⟨rfl, hev⟩
  obtain ⟨⟨x0, x1, x2⟩, -⟩ := HB.out _ hev
  go_wp2_with fail
  refine (H2.out _ hev).mono ?_
  clear hev x0 x1 x2
  rintro e w2 ⟨rfl, hev⟩
  obtain ⟨⟨x0, x1, x2⟩, -⟩ := HB.out _ hev
  go_wp2_with fail
  refine (H3.out _ hev).mono ?_
  clear hev x0 x1 x2
  rintro e w3 ⟨rfl, hev⟩
  obtain ⟨⟨x0, x1, x2⟩, -⟩ := HB.out _ hev
  go_wp2_with fail
  refine (H4.out _ hev).mono ?_
  clear hev x0 x1 x2
  rintro e w4 ⟨rfl, hev⟩
  go_wp2_with fail
  refine (H7.out _ hev).mono ?_
  clear hev
  rintro e w5 ⟨rfl, hev⟩
  go_wp2_with fail
  go_ret
  exact ⟨rfl, (HB.out _ hev).2⟩
end Go.Proofs.YtkkmnpjkladhfaaDoor
