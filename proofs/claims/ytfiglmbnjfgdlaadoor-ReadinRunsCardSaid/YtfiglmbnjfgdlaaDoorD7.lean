import Derived.Test.YtfiglmbnjfgdlaaDoorD6
import Derived.Laws.EntriesVeiled
namespace Go.Proofs.YtfiglmbnjfgdlaaDoor
open Go.RowKit
def bx (s f w : Int) (k : Nat) : Value := if k = 0 then .int .i64 s else if k = 1 then .int .i64 f else .int .i64 w
/-- the box b holds an access -/
def BoxR (W : World) (b : Nat) (s f w : Int) : Prop := W.rowIs b 23 3 (bx s f w)
theorem BoxR.c {W : World} {b : Nat} {s f w : Int} (h : BoxR W b s f w) : W.cell? ⟨b, 0, none⟩ = some (.int .i64 s) ∧ W.cell? ⟨b, 1, none⟩ = some (.int .i64 f) ∧ W.cell? ⟨b, 2, none⟩ = some (.int .i64 w) :=
  ⟨World.rowIs.cell h (i := 0) (by decide), World.rowIs.cell h (i := 1) (by decide), World.rowIs.cell h (i := 2) (by decide)⟩
theorem BoxR.z {W : World} {b : Nat} {s f w : Int} (h : BoxR W b s f w) : W.frozen? ⟨b, 0, none⟩ = false ∧ W.frozen? ⟨b, 1, none⟩ = false ∧ W.frozen? ⟨b, 2, none⟩ = false :=
  ⟨World.rowIs.frozen h 0, World.rowIs.frozen h 1, World.rowIs.frozen h 2⟩
theorem BoxR.new (W : World) (s f w : Int) : BoxR (W.alloc (rdO s f w)) W.heap.size s f w :=
  World.rowIs_alloc W #[.int .i64 s, .int .i64 f, .int .i64 w] 23 (bx s f w) (fun i hi => by
    have hi' : i < 3 := hi
    rcases (show i = 0 ∨ i = 1 ∨ i = 2 by omega) with rfl | rfl | rfl <;> rfl)
theorem BoxR.set0 {W : World} {b : Nat} {s f w : Int} (h : BoxR W b s f w) (x : Int) : BoxR (W.setCell ⟨b, 0, none⟩ (.int .i64 x)) b x f w :=
  (World.rowIs.set h 0 _).congr (fun i hi => by rcases (show i = 0 ∨ i = 1 ∨ i = 2 by omega) with rfl | rfl | rfl <;> rfl)
theorem BoxR.set1 {W : World} {b : Nat} {s f w : Int} (h : BoxR W b s f w) (x : Int) : BoxR (W.setCell ⟨b, 1, none⟩ (.int .i64 x)) b s x w :=
  (World.rowIs.set h 1 _).congr (fun i hi => by rcases (show i = 0 ∨ i = 1 ∨ i = 2 by omega) with rfl | rfl | rfl <;> rfl)
theorem BoxR.set2 {W : World} {b : Nat} {s f w : Int} (h : BoxR W b s f w) (x : Int) : BoxR (W.setCell ⟨b, 2, none⟩ (.int .i64 x)) b s f x :=
  (World.rowIs.set h 2 _).congr (fun i hi => by rcases (show i = 0 ∨ i = 1 ∨ i = 2 by omega) with rfl | rfl | rfl <;> rfl)
theorem BoxR.al {W : World} {b : Nat} {s f w : Int} (h : BoxR W b s f w) (o : Obj) : BoxR (W.alloc o) b s f w := World.rowIs.alloc h o
theorem BoxR.ev {W W' : World} {b : Nat} {s f w : Int} (h : BoxR W b s f w) (e : Ev W W') : BoxR W' b s f w := World.rowIs.of_block h (Below.block e b (World.rowIs.lt h))
theorem BoxR.gr {W W' : World} {b : Nat} {s f w : Int} (h : BoxR W b s f w) (hg : W.grownBy W' none) : BoxR W' b s f w := World.rowIs.of_block h (hg.block b (World.rowIs.lt h) (by simp))
theorem BoxR.nd {W : World} {b : Nat} {s f w : Int} (h : BoxR W b s f w) (n : Nat) : BoxR (W.drewN n) b s f w := h.ev ((Ev.refl W).drewN n)
theorem gb_refl (W : World) (b : Nat) : W.grownBy W (some b) := ⟨rfl, rfl, rfl, Nat.le_refl _, fun _ _ _ => rfl⟩
theorem gb_trans {A B C : World} {r : Option Nat} (h1 : A.grownBy B r) (h2 : B.grownBy C r) : A.grownBy C r := ⟨h2.os.trans h1.os, h2.tape.trans h1.tape, h2.output.trans h1.output, Nat.le_trans h1.size h2.size, fun k hk hr => (h2.block k (Nat.lt_of_lt_of_le hk h1.size) hr).trans (h1.block k hk hr)⟩
theorem gb_ev {A B : World} {r : Option Nat} (h : Ev A B) : A.grownBy B r := ⟨Below.os h, Below.tape h, Below.output h, Below.size h, fun k hk _ => Below.block h k hk⟩
theorem gb_none {A B : World} {r : Option Nat} (h : A.grownBy B none) : A.grownBy B r := ⟨h.os, h.tape, h.output, h.size, fun k hk _ => h.block k hk (by simp)⟩
theorem gb_set (W : World) (b o : Nat) (v : Value) : W.grownBy (W.setCell ⟨b, o, none⟩ v) (some b) := by
  have hB : Below b W (W.setCell ⟨b, o, none⟩ v) := Below.setCell (p := ⟨b, o, none⟩) (Below.refl b W) (Nat.le_refl b) v
  exact ⟨hB.os, hB.tape, hB.output, hB.size, fun i _ hne => Below.heap_setCell W ⟨b, o, none⟩ v i (fun e => hne (by rw [e]))⟩
theorem gb_nd {A B : World} {r : Option Nat} (h : A.grownBy B r) (n : Nat) : A.grownBy (B.drewN n) r := gb_trans h (gb_ev ((Ev.refl B).drewN n))
theorem BoxR.gb {W W' : World} {b c : Nat} {s f w : Int} (h : BoxR W c s f w) (hg : W.grownBy W' (some b)) (hne : c ≠ b) : BoxR W' c s f w := World.rowIs.of_block h (hg.block c (World.rowIs.lt h) (by simp; omega))
theorem takeF_any (b : Nat) (s f w : Int) (W : World) (h : BoxR W b s f w) : Calls Tryd.prog 47 #[.pointer (some ⟨b, 0, none⟩)] W fun e w' => e = .returned (.int .i64 f) ∧ W.setCell ⟨b, 1, none⟩ (.int .i64 (-1)) = w' := by
  obtain ⟨c0, c1, c2⟩ := h.c
  obtain ⟨z0, z1, z2⟩ := h.z
  go_enter Tryd.func47, Tryd.ntmps47
  go_wp2_with fail
  go_ret
  exact ⟨rfl, rfl⟩
theorem takeW_any (b : Nat) (s f w : Int) (W : World) (h : BoxR W b s f w) : Calls Tryd.prog 48 #[.pointer (some ⟨b, 0, none⟩)] W fun e w' => e = .returned (.int .i64 w) ∧ W.setCell ⟨b, 2, none⟩ (.int .i64 (-1)) = w' := by
  obtain ⟨c0, c1, c2⟩ := h.c
  obtain ⟨z0, z1, z2⟩ := h.z
  go_enter Tryd.func48, Tryd.ntmps48
  go_wp2_with fail
  go_ret
  exact ⟨rfl, rfl⟩
theorem one_no {f : Int} (h : (f != -1) = false) : one f = [] := by unfold one; rw [if_pos (by simpa using h)]
theorem one_yes {f : Int} (h : (f != -1) = true) : one f = [f] := by unfold one; rw [if_neg (by simpa using h)]
theorem one_le (f : Int) : (one f).length ≤ 1 := by unfold one; split <;> simp

set_option maxRecDepth 100000 in
set_option maxHeartbeats 4000000 in
theorem give_47 (b c : Nat) (s f w : Int) (W : World) (h : BoxR W b s f w) (hc : W.cell? ⟨c, 0, none⟩ = some (.func (.func 47) #[] #[])) :
    Calls Tryd.prog 46 #[.pointer (some ⟨b, 0, none⟩), .slice (some ⟨c, 0, none⟩) 1 1] W fun e w' => ∃ v, e = .returned v ∧ OwnI w' W.heap.size v (one f) ∧ BoxR w' b s (-1) w ∧ W.grownBy w' (some b) := by
  obtain ⟨i0, hi0, hz0, hz1, hz2⟩ := info_parts info3
  have HB0 := Lib.hid h
  have CT := Lib.hid (takeF_any b s f w W h)
  have HB := Lib.hid (h.set1 (-1))
  have hlt := World.rowIs.lt h
  have HBL : Hid (W.grownBy (W.setCell ⟨b, 1, none⟩ (.int .i64 (-1))) (some b)) := Lib.hid (gb_set _ _ _ _)
  have HSZ : Hid ((W.setCell ⟨b, 1, none⟩ (.int .i64 (-1))).heap.size = W.heap.size) := Lib.hid (by simp)
  have HLT := Lib.hid hlt
  clear h
  rcases hq : (f != -1) with _ | _
  · have HO := Lib.hid (one_no hq)
    go_enter Tryd.func46, Tryd.ntmps46
    go_upto_region 3 with fail
    refine wp_loop_rounds 2 ?_
    rw [rounds_succ]
    go_wp2_with fail
    refine CT.out.mono ?_
    rintro e w5 ⟨rfl, rfl⟩
    clear hc
    go_wp2_with fail
    rw [rounds_succ]
    go_wp2_with fail
    go_ret
    exact ⟨_, rfl, by rw [HO.out]; exact nil_own _ _, HB.out, HBL.out⟩
  · have HO := Lib.hid (one_yes hq)
    go_enter Tryd.func46, Tryd.ntmps46
    go_upto_region 3 with fail
    refine wp_loop_rounds 2 ?_
    rw [rounds_succ]
    go_wp2_with fail
    refine CT.out.mono ?_
    rintro e w5 ⟨rfl, hw5⟩
    rw [hw5] at HB HBL HSZ
    clear hc hw5
    have HX := Lib.hid (one_cell w5 (.int .i64 f) 3)
    have H5 : Hid (W.heap.size ≤ (w5.alloc (.cells #[.int .i64 f] 3)).heap.size) := Lib.hid (by have := HSZ.out; simp; omega)
    have HNO := Lib.hid (nil_own (w5.alloc (.cells #[.int .i64 f] 3)) W.heap.size)
    go_wp2_with (at_builtin; go_loud (refine wpList_append_own _ rfl (.tmp 20) (.tmp 22) 28 rfl W.heap.size 3 i0 (.int .i64 0) 1 8 Tryd.underlying28 hi0 hz0 hz1 hz2 rfl (by decide) (.slice none 0 0) 0 [] rfl HNO.out ⟨w5.heap.size, 0, none⟩ 1 1 [.int .i64 f] rfl rfl HX.out (by simp [Value.oneCell']) (by unfold maxLen; omega) (by omega) H5.out ?_); intro v1 w6 hown6 hg6 _; have HO6 : Hid (OwnI w6 W.heap.size v1 [f]) := Lib.hid hown6; have HB6 : Hid (BoxR w6 b s (-1) w) := Lib.hid ((HB.out.al _).gr hg6); have HL6 : Hid (W.grownBy w6 (some b)) := Lib.hid (gb_trans (gb_trans HBL.out (gb_ev ((Ev.refl _).alloc _))) (gb_none hg6)); clear hown6 hg6)
    rw [rounds_succ]
    go_wp2_with fail
    go_ret
    exact ⟨_, rfl, by rw [HO.out]; exact HO6.out, HB6.out, HL6.out⟩

set_option maxRecDepth 100000 in
set_option maxHeartbeats 4000000 in
theorem give_48 (b c : Nat) (s f w : Int) (W : World) (h : BoxR W b s f w) (hc : W.cell? ⟨c, 0, none⟩ = some (.func (.func 48) #[] #[])) :
    Calls Tryd.prog 46 #[.pointer (some ⟨b, 0, none⟩), .slice (some ⟨c, 0, none⟩) 1 1] W fun e w' => ∃ v, e = .returned v ∧ OwnI w' W.heap.size v (one w) ∧ BoxR w' b s f (-1) ∧ W.grownBy w' (some b) := by
  obtain ⟨i0, hi0, hz0, hz1, hz2⟩ := info_parts info3
  have HB0 := Lib.hid h
  have CT := Lib.hid (takeW_any b s f w W h)
  have HB := Lib.hid (h.set2 (-1))
  have hlt := World.rowIs.lt h
  have HBL : Hid (W.grownBy (W.setCell ⟨b, 2, none⟩ (.int .i64 (-1))) (some b)) := Lib.hid (gb_set _ _ _ _)
  have HSZ : Hid ((W.setCell ⟨b, 2, none⟩ (.int .i64 (-1))).heap.size = W.heap.size) := Lib.hid (by simp)
  have HLT := Lib.hid hlt
  clear h
  rcases hq : (w != -1) with _ | _
  · have HO := Lib.hid (one_no hq)
    go_enter Tryd.func46, Tryd.ntmps46
    go_upto_region 3 with fail
    refine wp_loop_rounds 2 ?_
    rw [rounds_succ]
    go_wp2_with fail
    refine CT.out.mono ?_
    rintro e w5 ⟨rfl, rfl⟩
    clear hc
    go_wp2_with fail
    rw [rounds_succ]
    go_wp2_with fail
    go_ret
    exact ⟨_, rfl, by rw [HO.out]; exact nil_own _ _, HB.out, HBL.out⟩
  · have HO := Lib.hid (one_yes hq)
    go_enter Tryd.func46, Tryd.ntmps46
    go_upto_region 3 with fail
    refine wp_loop_rounds 2 ?_
    rw [rounds_succ]
    go_wp2_with fail
    refine CT.out.mono ?_
    rintro e w5 ⟨rfl, hw5⟩
    rw [hw5] at HB HBL HSZ
    clear hc hw5
    have HX := Lib.hid (one_cell w5 (.int .i64 w) 3)
    have H5 : Hid (W.heap.size ≤ (w5.alloc (.cells #[.int .i64 w] 3)).heap.size) := Lib.hid (by have := HSZ.out; simp; omega)
    have HNO := Lib.hid (nil_own (w5.alloc (.cells #[.int .i64 w] 3)) W.heap.size)
    go_wp2_with (at_builtin; go_loud (refine wpList_append_own _ rfl (.tmp 20) (.tmp 22) 28 rfl W.heap.size 3 i0 (.int .i64 0) 1 8 Tryd.underlying28 hi0 hz0 hz1 hz2 rfl (by decide) (.slice none 0 0) 0 [] rfl HNO.out ⟨w5.heap.size, 0, none⟩ 1 1 [.int .i64 w] rfl rfl HX.out (by simp [Value.oneCell']) (by unfold maxLen; omega) (by omega) H5.out ?_); intro v1 w6 hown6 hg6 _; have HO6 : Hid (OwnI w6 W.heap.size v1 [w]) := Lib.hid hown6; have HB6 : Hid (BoxR w6 b s f (-1)) := Lib.hid ((HB.out.al _).gr hg6); have HL6 : Hid (W.grownBy w6 (some b)) := Lib.hid (gb_trans (gb_trans HBL.out (gb_ev ((Ev.refl _).alloc _))) (gb_none hg6)); clear hown6 hg6)
    rw [rounds_succ]
    go_wp2_with fail
    go_ret
    exact ⟨_, rfl, by rw [HO.out]; exact HO6.out, HB6.out, HL6.out⟩
end Go.Proofs.YtfiglmbnjfgdlaaDoor
