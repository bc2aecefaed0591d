import Derived.Test.YtfiglmbnjfgdlaaDoorDI
import Derived.Test.YtfiglmbnjfgdlaaDoorSH
import Derived.Sort.OwnSortedInts
namespace Go.Proofs.YtfiglmbnjfgdlaaDoor
open Go.RowKit
theorem gb_cell {A B : World} {b c o : Nat} {v : Value} (h : A.grownBy B (some b)) (hne : c ≠ b) (hc : A.cell? ⟨c, o, none⟩ = some v) : B.cell? ⟨c, o, none⟩ = some v := by
  have hlt : c < A.heap.size := by
    rcases Nat.lt_or_ge c A.heap.size with h1 | h1
    · exact h1
    · exfalso
      have : A.heap[c]? = none := Array.getElem?_eq_none h1
      simp [World.cell?, this] at hc
  rw [World.cell?_of_block (a := ⟨c, o, none⟩) (h.block c hlt (by simp; omega))]
  exact hc
set_option maxRecDepth 100000 in
set_option maxHeartbeats 4000000 in
theorem give2_00 (b c : Nat) (s f w : Int) (W : World) (h : BoxR W b s f w) (hc0 : W.cell? ⟨c, 0, none⟩ = some (.func (.func 47) #[] #[])) (hc1 : W.cell? ⟨c, 1, none⟩ = some (.func (.func 48) #[] #[])) (hbc : c ≠ b) (hf : (f != -1) = false) (hw : (w != -1) = false) :
    Calls Tryd.prog 46 #[.pointer (some ⟨b, 0, none⟩), .slice (some ⟨c, 0, none⟩) 2 2] W fun e w' => ∃ v, e = .returned v ∧ OwnI w' W.heap.size v ([] ++ [] : List Int) ∧ BoxR w' b s (-1) (-1) ∧ W.grownBy w' (some b) := by
  obtain ⟨i0, hi0, hz0, hz1, hz2⟩ := info_parts info3
  have CT := Lib.hid (takeF_any b s f w W h)
  have HB := Lib.hid (h.set1 (-1))
  have HLT := Lib.hid (World.rowIs.lt h)
  have HBL : Hid (W.grownBy (W.setCell ⟨b, 1, none⟩ (.int .i64 (-1))) (some b)) := Lib.hid (gb_set _ _ _ _)
  have HSZ : Hid ((W.setCell ⟨b, 1, none⟩ (.int .i64 (-1))).heap.size = W.heap.size) := Lib.hid (by simp)
  have HC1 := Lib.hid hc1
  have HBC := Lib.hid hbc
  clear h hc1 hbc
  go_enter Tryd.func46, Tryd.ntmps46
  go_upto_region 3 with fail
  refine wp_loop_rounds 3 ?_
  rw [rounds_succ]
  go_wp2_with fail
  refine CT.out.mono ?_
  rintro e w5 ⟨rfl, hw5⟩
  rw [hw5] at HB HBL HSZ
  clear hc0 hw5
  have HB6 := HB
  have HL6 := HBL
  have HO6 : Hid (OwnI w5 W.heap.size (.slice none 0 0) []) := Lib.hid (nil_own _ _)
  go_wp2_with fail
  have hc1 := gb_cell HL6.out HBC.out HC1.out
  rw [rounds_succ]
  go_wp2_with fail
  refine (takeW_any b s (-1) w w5 HB6.out).mono ?_
  rintro e w7 ⟨rfl, hw7⟩
  have HB7 : Hid (BoxR w7 b s (-1) (-1)) := Lib.hid (by rw [← hw7]; exact HB6.out.set2 (-1))
  have HL7 : Hid (W.grownBy w7 (some b)) := Lib.hid (by rw [← hw7]; exact gb_trans HL6.out (gb_set _ _ _ _))
  have HO7 : Hid (OwnI w7 W.heap.size (.slice none 0 0) []) := Lib.hid (by rw [← hw7]; exact own_set HO6.out _ _ HLT.out)
  clear hw7 hc1
  go_wp2_with fail
  rw [rounds_succ]
  go_wp2_with fail
  go_ret
  exact ⟨_, rfl, HO7.out, HB7.out, HL7.out⟩
set_option maxRecDepth 100000 in
set_option maxHeartbeats 4000000 in
theorem give2_10 (b c : Nat) (s f w : Int) (W : World) (h : BoxR W b s f w) (hc0 : W.cell? ⟨c, 0, none⟩ = some (.func (.func 47) #[] #[])) (hc1 : W.cell? ⟨c, 1, none⟩ = some (.func (.func 48) #[] #[])) (hbc : c ≠ b) (hf : (f != -1) = true) (hw : (w != -1) = false) :
    Calls Tryd.prog 46 #[.pointer (some ⟨b, 0, none⟩), .slice (some ⟨c, 0, none⟩) 2 2] W fun e w' => ∃ v, e = .returned v ∧ OwnI w' W.heap.size v ([f] ++ [] : List Int) ∧ BoxR w' b s (-1) (-1) ∧ W.grownBy w' (some b) := by
  obtain ⟨i0, hi0, hz0, hz1, hz2⟩ := info_parts info3
  have CT := Lib.hid (takeF_any b s f w W h)
  have HB := Lib.hid (h.set1 (-1))
  have HLT := Lib.hid (World.rowIs.lt h)
  have HBL : Hid (W.grownBy (W.setCell ⟨b, 1, none⟩ (.int .i64 (-1))) (some b)) := Lib.hid (gb_set _ _ _ _)
  have HSZ : Hid ((W.setCell ⟨b, 1, none⟩ (.int .i64 (-1))).heap.size = W.heap.size) := Lib.hid (by simp)
  have HC1 := Lib.hid hc1
  have HBC := Lib.hid hbc
  clear h hc1 hbc
  go_enter Tryd.func46, Tryd.ntmps46
  go_upto_region 3 with fail
  refine wp_loop_rounds 3 ?_
  rw [rounds_succ]
  go_wp2_with fail
  refine CT.out.mono ?_
  rintro e w5 ⟨rfl, hw5⟩
  rw [hw5] at HB HBL HSZ
  clear hc0 hw5
  have HX := Lib.hid (one_cell w5 (.int .i64 f) 3)
  have H5 : Hid (W.heap.size ≤ (w5.alloc (.cells #[.int .i64 f] 3)).heap.size) := Lib.hid (by have := HSZ.out; simp; omega)
  have HNO := Lib.hid (nil_own (w5.alloc (.cells #[.int .i64 f] 3)) W.heap.size)
  go_wp2_with (at_builtin; go_loud (refine wpList_append_own _ rfl (.tmp 20) (.tmp 22) 28 rfl W.heap.size 3 i0 (.int .i64 0) 1 8 Tryd.underlying28 hi0 hz0 hz1 hz2 rfl (by decide) (.slice none 0 0) 0 [] rfl HNO.out ⟨w5.heap.size, 0, none⟩ 1 1 [.int .i64 f] rfl rfl HX.out (by simp [Value.oneCell']) (by unfold maxLen; omega) (by omega) H5.out ?_); intro v1 w6 hown6 hg6 _; have HO6 : Hid (OwnI w6 W.heap.size v1 [f]) := Lib.hid hown6; have HB6 : Hid (BoxR w6 b s (-1) w) := Lib.hid ((HB.out.al _).gr hg6); have HL6 : Hid (W.grownBy w6 (some b)) := Lib.hid (gb_trans (gb_trans HBL.out (gb_ev ((Ev.refl _).alloc _))) (gb_none hg6)); clear hown6 hg6)
  have hc1 := gb_cell HL6.out HBC.out HC1.out
  rw [rounds_succ]
  go_wp2_with fail
  refine (takeW_any b s (-1) w w6 HB6.out).mono ?_
  rintro e w7 ⟨rfl, hw7⟩
  have HB7 : Hid (BoxR w7 b s (-1) (-1)) := Lib.hid (by rw [← hw7]; exact HB6.out.set2 (-1))
  have HL7 : Hid (W.grownBy w7 (some b)) := Lib.hid (by rw [← hw7]; exact gb_trans HL6.out (gb_set _ _ _ _))
  have HO7 : Hid (OwnI w7 W.heap.size v1 [f]) := Lib.hid (by rw [← hw7]; exact own_set HO6.out _ _ HLT.out)
  clear hw7 hc1
  go_wp2_with fail
  rw [rounds_succ]
  go_wp2_with fail
  go_ret
  exact ⟨_, rfl, HO7.out, HB7.out, HL7.out⟩
set_option maxRecDepth 100000 in
set_option maxHeartbeats 4000000 in
theorem give2_01 (b c : Nat) (s f w : Int) (W : World) (h : BoxR W b s f w) (hc0 : W.cell? ⟨c, 0, none⟩ = some (.func (.func 47) #[] #[])) (hc1 : W.cell? ⟨c, 1, none⟩ = some (.func (.func 48) #[] #[])) (hbc : c ≠ b) (hf : (f != -1) = false) (hw : (w != -1) = true) :
    Calls Tryd.prog 46 #[.pointer (some ⟨b, 0, none⟩), .slice (some ⟨c, 0, none⟩) 2 2] W fun e w' => ∃ v, e = .returned v ∧ OwnI w' W.heap.size v ([] ++ [w] : List Int) ∧ BoxR w' b s (-1) (-1) ∧ W.grownBy w' (some b) := by
  obtain ⟨i0, hi0, hz0, hz1, hz2⟩ := info_parts info3
  have CT := Lib.hid (takeF_any b s f w W h)
  have HB := Lib.hid (h.set1 (-1))
  have HLT := Lib.hid (World.rowIs.lt h)
  have HBL : Hid (W.grownBy (W.setCell ⟨b, 1, none⟩ (.int .i64 (-1))) (some b)) := Lib.hid (gb_set _ _ _ _)
  have HSZ : Hid ((W.setCell ⟨b, 1, none⟩ (.int .i64 (-1))).heap.size = W.heap.size) := Lib.hid (by simp)
  have HC1 := Lib.hid hc1
  have HBC := Lib.hid hbc
  clear h hc1 hbc
  go_enter Tryd.func46, Tryd.ntmps46
  go_upto_region 3 with fail
  refine wp_loop_rounds 3 ?_
  rw [rounds_succ]
  go_wp2_with fail
  refine CT.out.mono ?_
  rintro e w5 ⟨rfl, hw5⟩
  rw [hw5] at HB HBL HSZ
  clear hc0 hw5
  have HB6 := HB
  have HL6 := HBL
  have HO6 : Hid (OwnI w5 W.heap.size (.slice none 0 0) []) := Lib.hid (nil_own _ _)
  go_wp2_with fail
  have hc1 := gb_cell HL6.out HBC.out HC1.out
  rw [rounds_succ]
  go_wp2_with fail
  refine (takeW_any b s (-1) w w5 HB6.out).mono ?_
  rintro e w7 ⟨rfl, hw7⟩
  have HB7 : Hid (BoxR w7 b s (-1) (-1)) := Lib.hid (by rw [← hw7]; exact HB6.out.set2 (-1))
  have HL7 : Hid (W.grownBy w7 (some b)) := Lib.hid (by rw [← hw7]; exact gb_trans HL6.out (gb_set _ _ _ _))
  have HO7 : Hid (OwnI w7 W.heap.size (.slice none 0 0) []) := Lib.hid (by rw [← hw7]; exact own_set HO6.out _ _ HLT.out)
  clear hw7 hc1
  have HX7 := Lib.hid (one_cell w7 (.int .i64 w) 3)
  have H7 : Hid (W.heap.size ≤ (w7.alloc (.cells #[.int .i64 w] 3)).heap.size) := Lib.hid (by have := HL7.out.size; simp; omega)
  have HN7 : Hid ((w7.alloc (.cells #[.int .i64 w] 3)).ownsRow W.heap.size 3 1 (.slice none 0 0) 0 (IV [])) := Lib.hid (World.ownsRow.alloc HO7.out _)
  go_wp2_with (at_builtin; go_loud (refine wpList_append_own _ rfl (.tmp 20) (.tmp 22) 28 rfl W.heap.size 3 i0 (.int .i64 0) 1 8 Tryd.underlying28 hi0 hz0 hz1 hz2 rfl (by decide) (.slice none 0 0) 0 (IV []) rfl HN7.out ⟨w7.heap.size, 0, none⟩ 1 1 [.int .i64 w] rfl rfl HX7.out (by simp [Value.oneCell']) (by unfold maxLen; omega) (by omega) H7.out ?_); intro v8 w8 hown8 hg8 _; have HO8 : Hid (OwnI w8 W.heap.size v8 ([] ++ [w] : List Int)) := Lib.hid hown8; have HL8 : Hid (W.grownBy w8 (some b)) := Lib.hid (gb_trans (gb_trans HL7.out (gb_ev ((Ev.refl _).alloc _))) ⟨hg8.os, hg8.tape, hg8.output, hg8.size, fun k hk hne => hg8.block k hk (by simp [Value.ownBlock])⟩); have HB8 : Hid (BoxR w8 b s (-1) (-1)) := Lib.hid (World.rowIs.of_block (HB7.out.al (.cells #[.int .i64 w] 3)) (hg8.block b (World.rowIs.lt (HB7.out.al (.cells #[.int .i64 w] 3))) (by simp [Value.ownBlock]))); clear hown8 hg8)
  rw [rounds_succ]
  go_wp2_with fail
  go_ret
  exact ⟨_, rfl, HO8.out, HB8.out, HL8.out⟩
theorem gb_row {A B C : World} {b : Nat} {row : Option Nat} (h1 : A.grownBy B (some b)) (h2 : B.grownBy C row) (hr : ∀ g, row = some g → A.heap.size ≤ g) : A.grownBy C (some b) :=
  ⟨h2.os.trans h1.os, h2.tape.trans h1.tape, h2.output.trans h1.output, Nat.le_trans h1.size h2.size, fun k hk hne => (h2.block k (Nat.lt_of_lt_of_le hk h1.size) (fun e => by have := hr k e.symm; omega)).trans (h1.block k hk hne)⟩
set_option maxRecDepth 100000 in
set_option maxHeartbeats 4000000 in
theorem give2_11 (b c : Nat) (s f w : Int) (W : World) (h : BoxR W b s f w) (hc0 : W.cell? ⟨c, 0, none⟩ = some (.func (.func 47) #[] #[])) (hc1 : W.cell? ⟨c, 1, none⟩ = some (.func (.func 48) #[] #[])) (hbc : c ≠ b) (hf : (f != -1) = true) (hw : (w != -1) = true) :
    Calls Tryd.prog 46 #[.pointer (some ⟨b, 0, none⟩), .slice (some ⟨c, 0, none⟩) 2 2] W fun e w' => ∃ v, e = .returned v ∧ OwnI w' W.heap.size v ([f] ++ [w] : List Int) ∧ BoxR w' b s (-1) (-1) ∧ W.grownBy w' (some b) := by
  obtain ⟨i0, hi0, hz0, hz1, hz2⟩ := info_parts info3
  have CT := Lib.hid (takeF_any b s f w W h)
  have HB := Lib.hid (h.set1 (-1))
  have HLT := Lib.hid (World.rowIs.lt h)
  have HBL : Hid (W.grownBy (W.setCell ⟨b, 1, none⟩ (.int .i64 (-1))) (some b)) := Lib.hid (gb_set _ _ _ _)
  have HSZ : Hid ((W.setCell ⟨b, 1, none⟩ (.int .i64 (-1))).heap.size = W.heap.size) := Lib.hid (by simp)
  have HC1 := Lib.hid hc1
  have HBC := Lib.hid hbc
  clear h hc1 hbc
  go_enter Tryd.func46, Tryd.ntmps46
  go_upto_region 3 with fail
  refine wp_loop_rounds 3 ?_
  rw [rounds_succ]
  go_wp2_with fail
  refine CT.out.mono ?_
  rintro e w5 ⟨rfl, hw5⟩
  rw [hw5] at HB HBL HSZ
  clear hc0 hw5
  have HX := Lib.hid (one_cell w5 (.int .i64 f) 3)
  have H5 : Hid (W.heap.size ≤ (w5.alloc (.cells #[.int .i64 f] 3)).heap.size) := Lib.hid (by have := HSZ.out; simp; omega)
  have HNO := Lib.hid (nil_own (w5.alloc (.cells #[.int .i64 f] 3)) W.heap.size)
  go_wp2_with (at_builtin; go_loud (refine wpList_append_own _ rfl (.tmp 20) (.tmp 22) 28 rfl W.heap.size 3 i0 (.int .i64 0) 1 8 Tryd.underlying28 hi0 hz0 hz1 hz2 rfl (by decide) (.slice none 0 0) 0 [] rfl HNO.out ⟨w5.heap.size, 0, none⟩ 1 1 [.int .i64 f] rfl rfl HX.out (by simp [Value.oneCell']) (by unfold maxLen; omega) (by omega) H5.out ?_); intro v1 w6 hown6 hg6 _; have HO6 : Hid (OwnI w6 W.heap.size v1 [f]) := Lib.hid hown6; have HB6 : Hid (BoxR w6 b s (-1) w) := Lib.hid ((HB.out.al _).gr hg6); have HL6 : Hid (W.grownBy w6 (some b)) := Lib.hid (gb_trans (gb_trans HBL.out (gb_ev ((Ev.refl _).alloc _))) (gb_none hg6)); clear hown6 hg6)
  have hc1 := gb_cell HL6.out HBC.out HC1.out
  rw [rounds_succ]
  go_wp2_with fail
  refine (takeW_any b s (-1) w w6 HB6.out).mono ?_
  rintro e w7 ⟨rfl, hw7⟩
  have HB7 : Hid (BoxR w7 b s (-1) (-1)) := Lib.hid (by rw [← hw7]; exact HB6.out.set2 (-1))
  have HL7 : Hid (W.grownBy w7 (some b)) := Lib.hid (by rw [← hw7]; exact gb_trans HL6.out (gb_set _ _ _ _))
  have HO7 : Hid (OwnI w7 W.heap.size v1 [f]) := Lib.hid (by rw [← hw7]; exact own_set HO6.out _ _ HLT.out)
  clear hw7 hc1
  have HX7 := Lib.hid (one_cell w7 (.int .i64 w) 3)
  have H7 : Hid (W.heap.size ≤ (w7.alloc (.cells #[.int .i64 w] 3)).heap.size) := Lib.hid (by have := HL7.out.size; simp; omega)
  have HN7 : Hid ((w7.alloc (.cells #[.int .i64 w] 3)).ownsRow W.heap.size 3 1 v1 1 (IV [f])) := Lib.hid (World.ownsRow.alloc HO7.out _)
  go_wp2_with (at_builtin; go_loud (refine wpList_append_own _ rfl (.tmp 20) (.tmp 22) 28 rfl W.heap.size 3 i0 (.int .i64 0) 1 8 Tryd.underlying28 hi0 hz0 hz1 hz2 rfl (by decide) v1 1 (IV [f]) rfl HN7.out ⟨w7.heap.size, 0, none⟩ 1 1 [.int .i64 w] rfl rfl HX7.out (by simp [Value.oneCell']) (by unfold maxLen; omega) (by omega) H7.out ?_); intro v8 w8 hown8 hg8 _; have HO8 : Hid (OwnI w8 W.heap.size v8 ([f] ++ [w] : List Int)) := Lib.hid hown8; have HL8 : Hid (W.grownBy w8 (some b)) := Lib.hid (gb_row (gb_trans HL7.out (gb_ev ((Ev.refl _).alloc _))) hg8 (fun g hg => row_ge HO7.out g hg)); have HB8 : Hid (BoxR w8 b s (-1) (-1)) := Lib.hid (World.rowIs.of_block (HB7.out.al (.cells #[.int .i64 w] 3)) (hg8.block b (World.rowIs.lt (HB7.out.al (.cells #[.int .i64 w] 3))) (fun e => by have := row_ge HO7.out b e.symm; have := HLT.out; omega))); clear hown8 hg8)
  rw [rounds_succ]
  go_wp2_with fail
  go_ret
  exact ⟨_, rfl, HO8.out, HB8.out, HL8.out⟩
theorem give2_any (b c : Nat) (s f w : Int) (W : World) (h : BoxR W b s f w) (hc0 : W.cell? ⟨c, 0, none⟩ = some (.func (.func 47) #[] #[])) (hc1 : W.cell? ⟨c, 1, none⟩ = some (.func (.func 48) #[] #[])) (hbc : c ≠ b) :
    Calls Tryd.prog 46 #[.pointer (some ⟨b, 0, none⟩), .slice (some ⟨c, 0, none⟩) 2 2] W fun e w' => ∃ v, e = .returned v ∧ OwnI w' W.heap.size v (one f ++ one w) ∧ BoxR w' b s (-1) (-1) ∧ W.grownBy w' (some b) := by
  rcases hf : (f != -1) with _ | _ <;> rcases hw : (w != -1) with _ | _
  · rw [one_no hf, one_no hw]; exact give2_00 b c s f w W h hc0 hc1 hbc hf hw
  · rw [one_no hf, one_yes hw]; exact give2_01 b c s f w W h hc0 hc1 hbc hf hw
  · rw [one_yes hf, one_no hw]; exact give2_10 b c s f w W h hc0 hc1 hbc hf hw
  · rw [one_yes hf, one_yes hw]; exact give2_11 b c s f w W h hc0 hc1 hbc hf hw
theorem sort_any (base : Nat) (v : Value) (L : List Int) (w : World) (h : OwnI w base v L) (hl : L.length ≤ 100) :
    Calls Tryd.prog 49 #[v] w fun e w' => e = .returned (.tuple #[]) ∧ OwnI w' base v (L.mergeSort fun x y => decide (x ≤ y)) ∧ ∃ row, w.grownBy w' row ∧ ∀ g, row = some g → base ≤ g := by
  have hlen : (L.mergeSort fun x y => decide (x ≤ y)).length = L.length := List.length_mergeSort L
  rcases h.2 with ⟨rfl, h0⟩ | ⟨g, cap, cur, rfl, hbg, hh, hn, hc, hs, ht⟩
  · have e : L = [] := List.eq_nil_of_length_eq_zero h0
    subst e
    exact (Tryd.slices_Sort_int_none none 0 w).mono fun e w' ⟨h1, h2⟩ => by
      subst h2
      exact ⟨h1, by rw [List.mergeSort_nil]; exact nil_own _ _, none, gb_ev (Ev.refl _), fun g hg => by cases hg⟩
  · rw [Nat.mul_one] at ht
    have hH := holds_of_blockI (ss := L) hh (by unfold IV at ht; exact ht)
    have hlt : g < w.heap.size := (Array.getElem?_eq_some_iff.1 hh).1
    exact (Tryd.slices_Sort_int g 0 cap L w hH hlt (by omega)).mono fun e w' ⟨h1, n, os, h2⟩ => by
      subst h2
      refine ⟨h1, ?_, some g, grownBy_sortedI _, fun k hk => by cases hk; exact hbg⟩
      have := ownsRow_sortedI (n := n) (os := os) hlen hbg hh hn hc hs
      unfold OwnI IV
      rw [hlen]
      exact this
end Go.Proofs.YtfiglmbnjfgdlaaDoor
