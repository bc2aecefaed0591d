import Derived.Test.YtkneonfhikcdkaaDoorO9
namespace Go.Proofs.YtkneonfhikcdkaaDoor
open Go.RowKit

/-- a box that is only read -/
def Bo (W : World) (b : Nat) (x y : Int) : Prop := b < W.heap.size ∧ W.cell? ⟨b, 0, none⟩ = some (.int .i64 x) ∧ W.cell? ⟨b, 1, none⟩ = some (.int .i64 y)
theorem Bo.new (w : World) (x y : Int) (t : TypeId) : Bo (w.alloc (.cells #[.int .i64 x, .int .i64 y] t)) w.heap.size x y := by unfold Bo; simp
theorem Bo.ev {a W : World} {b : Nat} {x y : Int} (h : Bo a b x y) (e : Ev a W) : Bo W b x y :=
  ⟨Nat.lt_of_lt_of_le h.1 e.sz, by rw [e.cell (p := ⟨b, 0, none⟩) h.1]; exact h.2.1, by rw [e.cell (p := ⟨b, 1, none⟩) h.1]; exact h.2.2⟩
theorem Ev.new (w : World) (x y : Int) (t : TypeId) : Ev w (w.alloc (.cells #[.int .i64 x, .int .i64 y] t)) := (Ev.refl w).alloc _
set_option maxHeartbeats 4000000 in
theorem blocks_any (x o : Int) (w : World) (hT : Tab w) (h2 : 2 ≤ w.heap.size) : Calls Tryd.prog 4 #[bk x o] w fun e w' => e = .returned (.bool true) ∧ Ev w w' := by
  have H7 : Hid (∀ W, Ev w W → Calls Tryd.prog 17 #[] W fun e w' => e = .returned (.bool true) ∧ Ev W w') := Lib.hid fun W e => awake_any W (hT.ev h2 e) (by have := e.sz; omega)
  have H1 : Hid (∀ W, Ev w W → Calls Tryd.prog 18 #[bk x o] W fun e w' => e = .returned (.tuple #[bk (if childE x o = 0 then bud x o else 0) (if childE x o = 0 then o else 0), .int .i64 (childE x o)]) ∧ Ev W w') := Lib.hid fun W e => buddy_any x o W
  have H2 : Hid (∀ W, Ev w W → Calls Tryd.prog 19 #[bk x o] W fun e w' => e = .returned (.tuple #[bk (if childE x o = 0 then bud x o else 0) (if childE x o = 0 then o else 0), .int .i64 (childE x o)]) ∧ Ev W w') := Lib.hid fun W e => rbuddy_any x o W
  have H3 : Hid (∀ W, Ev w W → Calls Tryd.prog 20 #[bk x o] W fun e w' => e = .returned (.tuple #[bk (if childE x o = 0 then par x o else 0) (if childE x o = 0 then o + 1 else 0), .int .i64 (childE x o)]) ∧ Ev W w') := Lib.hid fun W e => parent_any x o W
  have H4 : Hid (∀ W, Ev w W → Calls Tryd.prog 21 #[bk x o] W fun e w' => e = .returned (.tuple #[bk (if childE x o = 0 then par x o else 0) (if childE x o = 0 then o + 1 else 0), .int .i64 (childE x o)]) ∧ Ev W w') := Lib.hid fun W e => rparent_any x o W
  have H5 : Hid (∀ W, Ev w W → Calls Tryd.prog 22 #[bk x o] W fun e w' => e = .returned (.int .i64 (blkE x o)) ∧ Ev W w') := Lib.hid fun W e => check_any x o W
  have H6 : Hid (∀ W, Ev w W → Calls Tryd.prog 23 #[bk x o] W fun e w' => e = .returned (.int .i64 (blkE x o)) ∧ Ev W w') := Lib.hid fun W e => rcheck_any x o W
  generalize (if childE x o = 0 then bud x o else 0) = a1 at *
  generalize (if childE x o = 0 then o else 0) = a2 at *
  generalize (if childE x o = 0 then par x o else 0) = a3 at *
  generalize (if childE x o = 0 then o + 1 else 0) = a4 at *
  generalize childE x o = a5 at *
  generalize blkE x o = a6 at *
  clear hT
  go_enter Tryd.func4, Tryd.ntmps4
  go_wp2_with fail
  have he := Ev.new w x o 28
  have ha := Bo.new w x o 28
  generalize w.alloc (.cells #[.int .i64 x, .int .i64 o] 28) = w1 at *
  refine (H1.out _ he).mono ?_
  rintro e w2 ⟨rfl, hev⟩
  replace ha := ha.ev hev
  replace he := he.step hev
  clear hev
  obtain ⟨ha0, ha1, ha2⟩ := id ha
  have Kha := Lib.hid ha
  clear ha
  have Khe := Lib.hid he
  clear he
  go_wp2_with fail
  clear ha0 ha1 ha2
  have he := Khe.out
  have ha := Kha.out
  clear Kha
  clear Khe
  have hb0 := Bo.new w2 a1 a2 28
  have hn := Ev.new w2 a1 a2 28
  replace ha := ha.ev hn
  replace he := he.step hn
  clear hn
  generalize w2.alloc (.cells #[.int .i64 a1, .int .i64 a2] 28) = w3 at *
  refine (H2.out _ he).mono ?_
  rintro e w4 ⟨rfl, hev⟩
  replace ha := ha.ev hev
  replace hb0 := hb0.ev hev
  replace he := he.step hev
  clear hev
  obtain ⟨ha0, ha1, ha2⟩ := id ha
  have Kha := Lib.hid ha
  clear ha
  have Khb0 := Lib.hid hb0
  clear hb0
  have Khe := Lib.hid he
  clear he
  go_wp2_with fail
  clear ha0 ha1 ha2
  have he := Khe.out
  have ha := Kha.out
  clear Kha
  have hb0 := Khb0.out
  clear Khb0
  clear Khe
  have hb1 := Bo.new w4 a1 a2 28
  have hn := Ev.new w4 a1 a2 28
  replace ha := ha.ev hn
  replace hb0 := hb0.ev hn
  replace he := he.step hn
  clear hn
  generalize w4.alloc (.cells #[.int .i64 a1, .int .i64 a2] 28) = w5 at *
  refine (H3.out _ he).mono ?_
  rintro e w6 ⟨rfl, hev⟩
  replace ha := ha.ev hev
  replace hb0 := hb0.ev hev
  replace hb1 := hb1.ev hev
  replace he := he.step hev
  clear hev
  obtain ⟨ha0, ha1, ha2⟩ := id ha
  have Kha := Lib.hid ha
  clear ha
  have Khb0 := Lib.hid hb0
  clear hb0
  have Khb1 := Lib.hid hb1
  clear hb1
  have Khe := Lib.hid he
  clear he
  go_wp2_with fail
  clear ha0 ha1 ha2
  have he := Khe.out
  have ha := Kha.out
  clear Kha
  have hb0 := Khb0.out
  clear Khb0
  have hb1 := Khb1.out
  clear Khb1
  clear Khe
  have hb2 := Bo.new w6 a3 a4 28
  have hn := Ev.new w6 a3 a4 28
  replace ha := ha.ev hn
  replace hb0 := hb0.ev hn
  replace hb1 := hb1.ev hn
  replace he := he.step hn
  clear hn
  generalize w6.alloc (.cells #[.int .i64 a3, .int .i64 a4] 28) = w7 at *
  refine (H4.out _ he).mono ?_
  rintro e w8 ⟨rfl, hev⟩
  replace ha := ha.ev hev
  replace hb0 := hb0.ev hev
  replace hb1 := hb1.ev hev
  replace hb2 := hb2.ev hev
  replace he := he.step hev
  clear hev
  obtain ⟨ha0, ha1, ha2⟩ := id ha
  have Kha := Lib.hid ha
  clear ha
  have Khb0 := Lib.hid hb0
  clear hb0
  have Khb1 := Lib.hid hb1
  clear hb1
  have Khb2 := Lib.hid hb2
  clear hb2
  have Khe := Lib.hid he
  clear he
  go_wp2_with fail
  clear ha0 ha1 ha2
  have he := Khe.out
  have ha := Kha.out
  clear Kha
  have hb0 := Khb0.out
  clear Khb0
  have hb1 := Khb1.out
  clear Khb1
  have hb2 := Khb2.out
  clear Khb2
  clear Khe
  have hb3 := Bo.new w8 a3 a4 28
  have hn := Ev.new w8 a3 a4 28
  replace ha := ha.ev hn
  replace hb0 := hb0.ev hn
  replace hb1 := hb1.ev hn
  replace hb2 := hb2.ev hn
  replace he := he.step hn
  clear hn
  generalize w8.alloc (.cells #[.int .i64 a3, .int .i64 a4] 28) = w9 at *
  go_wp2_with fail
  have HS : Hid (∀ W, Ev w9 W → (((W.cell? ⟨w.heap.size, 0, none⟩ = some (.int .i64 x) ∧ W.cell? ⟨w.heap.size, 1, none⟩ = some (.int .i64 o)) ∧ (W.cell? ⟨w2.heap.size, 0, none⟩ = some (.int .i64 a1) ∧ W.cell? ⟨w2.heap.size, 1, none⟩ = some (.int .i64 a2)) ∧ (W.cell? ⟨w4.heap.size, 0, none⟩ = some (.int .i64 a1) ∧ W.cell? ⟨w4.heap.size, 1, none⟩ = some (.int .i64 a2))) ∧ ((W.cell? ⟨w6.heap.size, 0, none⟩ = some (.int .i64 a3) ∧ W.cell? ⟨w6.heap.size, 1, none⟩ = some (.int .i64 a4)) ∧ (W.cell? ⟨w8.heap.size, 0, none⟩ = some (.int .i64 a3) ∧ W.cell? ⟨w8.heap.size, 1, none⟩ = some (.int .i64 a4)))) ∧ Ev w9 W) := Lib.hid fun W e =>
    ⟨⟨⟨(ha.ev e).2, (hb0.ev e).2, (hb1.ev e).2⟩, (hb2.ev e).2, (hb3.ev e).2⟩, e⟩
  have H5' : Hid (∀ W, Ev w9 W → Calls Tryd.prog 22 #[bk x o] W fun e w' => e = .returned (.int .i64 a6) ∧ Ev w9 w') := Lib.hid fun W e => evN e (H5.out W (he.step e))
  have H6' : Hid (∀ W, Ev w9 W → Calls Tryd.prog 23 #[bk x o] W fun e w' => e = .returned (.int .i64 a6) ∧ Ev w9 w') := Lib.hid fun W e => evN e (H6.out W (he.step e))
  have H7' : Hid (∀ W, Ev w9 W → Calls Tryd.prog 17 #[] W fun e w' => e = .returned (.bool true) ∧ Ev w9 w') := Lib.hid fun W e => evN e (H7.out W (he.step e))
  have HE := Lib.hid he
  clear H1 H2 H3 H4 H5 H6 H7 he ha hb0 hb1 hb2 hb3
  have hev := Ev.refl w9
  go_region_held3 (fun w' => (((w'.cell? ⟨w.heap.size, 0, none⟩ = some (.int .i64 x) ∧ w'.cell? ⟨w.heap.size, 1, none⟩ = some (.int .i64 o)) ∧ (w'.cell? ⟨w2.heap.size, 0, none⟩ = some (.int .i64 a1) ∧ w'.cell? ⟨w2.heap.size, 1, none⟩ = some (.int .i64 a2)) ∧ (w'.cell? ⟨w4.heap.size, 0, none⟩ = some (.int .i64 a1) ∧ w'.cell? ⟨w4.heap.size, 1, none⟩ = some (.int .i64 a2))) ∧ ((w'.cell? ⟨w6.heap.size, 0, none⟩ = some (.int .i64 a3) ∧ w'.cell? ⟨w6.heap.size, 1, none⟩ = some (.int .i64 a4)) ∧ (w'.cell? ⟨w8.heap.size, 0, none⟩ = some (.int .i64 a3) ∧ w'.cell? ⟨w8.heap.size, 1, none⟩ = some (.int .i64 a4)))) ∧ Ev w9 w')
    (first | with_reducible exact HS.out _ (by with_reducible assumption) | with_reducible exact HS.out _ (Ev.drew (by with_reducible assumption)))
    (first | (go_at_call 22; refine (H5'.out _ (by first | assumption | exact Ev.drew (by with_reducible assumption))).mono ?_; clear hev; rintro e w' ⟨rfl, hev⟩) | (go_at_call 23; refine (H6'.out _ (by first | assumption | exact Ev.drew (by with_reducible assumption))).mono ?_; clear hev; rintro e w' ⟨rfl, hev⟩) | (go_at_call 17; refine (H7'.out _ (by first | assumption | exact Ev.drew (by with_reducible assumption))).mono ?_; clear hev; rintro e w' ⟨rfl, hev⟩))
  go_wp2_with fail
  go_ret
  exact ⟨rfl, HE.out.step hev⟩
end Go.Proofs.YtkneonfhikcdkaaDoor
