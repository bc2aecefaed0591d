import Derived.Test.YtfiglmbnjfgdlaaDoorD7
namespace Go.Proofs.YtfiglmbnjfgdlaaDoor
open Go.RowKit
abbrev fnO (g : Nat) : Obj := .cells #[.func (.func g) #[] #[]] 68
theorem fn_cell (W : World) (g : Nat) : (W.alloc (fnO g)).cell? ⟨W.heap.size, 0, none⟩ = some (.func (.func g) #[] #[]) := by simp
theorem wk {w : World} {v : Value} {L : List Int} {B B' : Nat} (h : OwnI w B v L) (hb : B' ≤ B) : OwnI w B' v L := own_weaken h hb
theorem own_set {w : World} {base : Nat} {e : TypeId} {size : Nat} {v : Value} {n : Nat} {xs : List Value} (h : w.ownsRow base e size v n xs) (a : Addr) (x : Value) (hb : a.block < base) : (w.setCell a x).ownsRow base e size v n xs := by
  have hB : Below a.block w (w.setCell a x) := Below.setCell (Below.refl _ _) (Nat.le_refl _) _
  refine h.kept (row := some a.block) ⟨hB.os, hB.tape, hB.output, hB.size, fun i hi hne => Below.heap_setCell w a x i (fun e => hne (by rw [e]))⟩ ?_
  rcases hv : v.ownBlock with _ | g
  · exact .inl rfl
  · right
    intro hc
    have := row_ge h g hv
    cases hc
    omega
theorem own_nd {w : World} {base : Nat} {v : Value} {L : List Int} (h : OwnI w base v L) (n : Nat) : OwnI (w.drewN n) base v L := ((Ev.refl w).drewN n).own h
set_option maxRecDepth 100000 in
set_option maxHeartbeats 4000000 in
theorem written_c (b : Nat) (f w : Int) (W : World) (h : BoxR W b 4 f w) :
    Calls Tryd.prog 38 #[.pointer (some ⟨b, 0, none⟩)] W fun e w' => ∃ v, e = .returned (.tuple #[v, .int .i64 w]) ∧ OwnI w' W.heap.size v (one f) ∧ BoxR w' b 5 w (-1) ∧ W.grownBy w' (some b) := by
  have HB := Lib.hid h
  have hlt := World.rowIs.lt h
  obtain ⟨c0, c1, c2⟩ := h.c
  have HLT := Lib.hid hlt
  have CG := Lib.hid (give_47 b W.heap.size 4 f w _ (h.al (fnO 47)) (fn_cell W 47))
  have HA : Hid (W.grownBy (W.alloc (fnO 47)) (some b)) := Lib.hid (gb_ev ((Ev.refl W).alloc _))
  have HS : Hid (W.heap.size ≤ (W.alloc (fnO 47)).heap.size) := Lib.hid (by simp)
  clear h hlt
  go_enter Tryd.func38, Tryd.ntmps38
  go_wp2_with fail
  refine CG.out.mono ?_
  rintro e w5 ⟨v, rfl, hown, hbx, hbl⟩
  have HO5 := Lib.hid (wk hown HS.out)
  have HB5 := Lib.hid hbx
  have HL5 := Lib.hid (gb_trans HA.out hbl)
  clear hown hbx hbl c0 c1 c2
  go_wp2_with fail
  refine (takeW_any b 4 (-1) w w5 HB5.out).mono ?_
  rintro e w6 ⟨rfl, hw6⟩
  have HB6 : Hid (BoxR w6 b 4 (-1) (-1)) := Lib.hid (by rw [← hw6]; exact HB5.out.set2 (-1))
  have HL6 : Hid (W.grownBy w6 (some b)) := Lib.hid (by rw [← hw6]; exact gb_trans HL5.out (gb_set _ _ _ _))
  have HO6 : Hid (OwnI w6 W.heap.size v (one f)) := Lib.hid (by rw [← hw6]; exact own_set HO5.out _ _ HLT.out)
  clear hw6
  obtain ⟨d0, d1, d2⟩ := HB6.out.c
  obtain ⟨z0, z1, z2⟩ := HB6.out.z
  go_wp2_with fail
  go_quiet (fail)
  go_wp2_with fail
  exact bodyPost_ret (v := .tuple #[v, .int .i64 w]) (by simp [results, Tryd.results38, go_sem]) rfl ⟨v, rfl, own_nd (own_set (own_set HO6.out _ _ HLT.out) _ _ HLT.out) _, (((HB6.out.set0 5).set1 w).nd _), gb_nd (gb_trans (gb_trans HL6.out (gb_set _ _ _ _)) (gb_set _ _ _ _)) _⟩
set_option maxRecDepth 100000 in
set_option maxHeartbeats 4000000 in
theorem written_n (b : Nat) (s f w : Int) (W : World) (h : BoxR W b s f w) (hs : (s != 4) = true) :
    Calls Tryd.prog 38 #[.pointer (some ⟨b, 0, none⟩)] W fun e w' => ∃ v, e = .returned (.tuple #[v, .int .i64 (-1)]) ∧ OwnI w' W.heap.size v (one w) ∧ BoxR w' b s f (-1) ∧ W.grownBy w' (some b) := by
  have hlt := World.rowIs.lt h
  obtain ⟨c0, c1, c2⟩ := h.c
  have CG := Lib.hid (give_48 b W.heap.size s f w _ (h.al (fnO 48)) (fn_cell W 48))
  have HA : Hid (W.grownBy (W.alloc (fnO 48)) (some b)) := Lib.hid (gb_ev ((Ev.refl W).alloc _))
  have HS : Hid (W.heap.size ≤ (W.alloc (fnO 48)).heap.size) := Lib.hid (by simp)
  clear h hlt
  go_enter Tryd.func38, Tryd.ntmps38
  go_wp2_with fail
  refine CG.out.mono ?_
  rintro e w5 ⟨v, rfl, hown, hbx, hbl⟩
  have HO5 := Lib.hid (wk hown HS.out)
  have HB5 := Lib.hid hbx
  have HL5 := Lib.hid (gb_trans HA.out hbl)
  clear hown hbx hbl c0 c1 c2
  go_wp2_with fail
  exact bodyPost_ret (v := .tuple #[v, .int .i64 (-1)]) (by simp [results, Tryd.results38, go_sem]) rfl ⟨v, rfl, HO5.out, HB5.out, HL5.out⟩
set_option maxRecDepth 100000 in
set_option maxHeartbeats 4000000 in
theorem read_o (b : Nat) (f w : Int) (W : World) (h : BoxR W b 6 f w) :
    Calls Tryd.prog 39 #[.pointer (some ⟨b, 0, none⟩)] W fun e w' => ∃ v, e = .returned (.tuple #[v, .int .i64 (-1)]) ∧ OwnI w' W.heap.size v (one f) ∧ BoxR w' b 8 (-1) w ∧ W.grownBy w' (some b) := by
  have hlt := World.rowIs.lt h
  obtain ⟨c0, c1, c2⟩ := h.c
  obtain ⟨z0, z1, z2⟩ := h.z
  have h8 := h.set0 8
  have HSZ : (W.setCell ⟨b, 0, none⟩ (.int .i64 8)).heap.size = W.heap.size := by simp
  have CG0 := give_47 b (W.setCell ⟨b, 0, none⟩ (.int .i64 8)).heap.size 8 f w _ (h8.al (fnO 47)) (fn_cell _ 47)
  have HA : Hid (W.grownBy ((W.setCell ⟨b, 0, none⟩ (.int .i64 8)).alloc (fnO 47)) (some b)) := Lib.hid (gb_trans (gb_set _ _ _ _) (gb_ev ((Ev.refl _).alloc _)))
  have HS : Hid (W.heap.size ≤ ((W.setCell ⟨b, 0, none⟩ (.int .i64 8)).alloc (fnO 47)).heap.size) := Lib.hid (by simp)
  rw [HSZ] at CG0
  have CG := Lib.hid CG0
  clear h hlt h8 HSZ CG0
  go_enter Tryd.func39, Tryd.ntmps39
  go_wp2_with fail
  refine CG.out.mono ?_
  rintro e w5 ⟨v, rfl, hown, hbx, hbl⟩
  have HO5 := Lib.hid (wk hown HS.out)
  have HB5 := Lib.hid hbx
  have HL5 := Lib.hid (gb_trans HA.out hbl)
  clear hown hbx hbl c0 c1 c2
  go_wp2_with fail
  exact bodyPost_ret (v := .tuple #[v, .int .i64 (-1)]) (by simp [results, Tryd.results39, go_sem]) rfl ⟨v, rfl, HO5.out, HB5.out, HL5.out⟩
set_option maxRecDepth 100000 in
set_option maxHeartbeats 4000000 in
theorem read_r (b : Nat) (s f w : Int) (W : World) (h : BoxR W b s f w) (hs : (s == 6) = false) :
    Calls Tryd.prog 39 #[.pointer (some ⟨b, 0, none⟩)] W fun e w' => ∃ v, e = .returned (.tuple #[v, .int .i64 f]) ∧ OwnI w' W.heap.size v [] ∧ BoxR w' b 5 f w ∧ W.grownBy w' (some b) := by
  have HL : Hid (W.grownBy (W.setCell ⟨b, 0, none⟩ (.int .i64 5)) (some b)) := Lib.hid (gb_set _ _ _ _)
  have HB := Lib.hid (h.set0 5)
  obtain ⟨c0, c1, c2⟩ := h.c
  obtain ⟨z0, z1, z2⟩ := h.z
  clear h
  go_enter Tryd.func39, Tryd.ntmps39
  go_wp2_with fail
  go_quiet (fail)
  go_wp2_with fail
  exact bodyPost_ret (v := .tuple #[.slice none 0 0, .int .i64 f]) (by simp [results, Tryd.results39, go_sem]) rfl ⟨_, rfl, nil_own _ _, HB.out.nd _, gb_nd HL.out _⟩
set_option maxRecDepth 100000 in
set_option maxHeartbeats 4000000 in
theorem kill_r (b : Nat) (f w : Int) (W : World) (h : BoxR W b 3 f w) :
    Calls Tryd.prog 40 #[.pointer (some ⟨b, 0, none⟩)] W fun e w' => ∃ v, e = .returned v ∧ OwnI w' W.heap.size v [] ∧ BoxR w' b 6 f w ∧ W.grownBy w' (some b) := by
  have HL : Hid (W.grownBy (W.setCell ⟨b, 0, none⟩ (.int .i64 6)) (some b)) := Lib.hid (gb_set _ _ _ _)
  have HB := Lib.hid (h.set0 6)
  obtain ⟨c0, c1, c2⟩ := h.c
  obtain ⟨z0, z1, z2⟩ := h.z
  clear h
  go_enter Tryd.func40, Tryd.ntmps40
  go_wp2_with fail
  go_ret
  exact ⟨_, rfl, nil_own _ _, HB.out, HL.out⟩
set_option maxRecDepth 100000 in
set_option maxHeartbeats 4000000 in
theorem kill_n (b : Nat) (s f w : Int) (W : World) (h : BoxR W b s f w) (hs : (s == 3) = false) :
    Calls Tryd.prog 40 #[.pointer (some ⟨b, 0, none⟩)] W fun e w' => ∃ v, e = .returned v ∧ OwnI w' W.heap.size v (one f) ∧ BoxR w' b 7 (-1) w ∧ W.grownBy w' (some b) := by
  have hlt := World.rowIs.lt h
  obtain ⟨c0, c1, c2⟩ := h.c
  obtain ⟨z0, z1, z2⟩ := h.z
  have h8 := h.set0 7
  have HSZ : (W.setCell ⟨b, 0, none⟩ (.int .i64 7)).heap.size = W.heap.size := by simp
  have CG0 := give_47 b (W.setCell ⟨b, 0, none⟩ (.int .i64 7)).heap.size 7 f w _ (h8.al (fnO 47)) (fn_cell _ 47)
  have HA : Hid (W.grownBy ((W.setCell ⟨b, 0, none⟩ (.int .i64 7)).alloc (fnO 47)) (some b)) := Lib.hid (gb_trans (gb_set _ _ _ _) (gb_ev ((Ev.refl _).alloc _)))
  have HS : Hid (W.heap.size ≤ ((W.setCell ⟨b, 0, none⟩ (.int .i64 7)).alloc (fnO 47)).heap.size) := Lib.hid (by simp)
  rw [HSZ] at CG0
  have CG := Lib.hid CG0
  clear h hlt h8 HSZ CG0
  go_enter Tryd.func40, Tryd.ntmps40
  go_wp2_with fail
  refine CG.out.mono ?_
  rintro e w5 ⟨v, rfl, hown, hbx, hbl⟩
  have HO5 := Lib.hid (wk hown HS.out)
  have HB5 := Lib.hid hbx
  have HL5 := Lib.hid (gb_trans HA.out hbl)
  clear hown hbx hbl c0 c1 c2
  go_wp2_with fail
  go_ret
  exact ⟨_, rfl, HO5.out, HB5.out, HL5.out⟩
end Go.Proofs.YtfiglmbnjfgdlaaDoor
