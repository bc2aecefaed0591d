import Derived.Test.YtkifcjjnpahdmaaDoorA7
import Derived.RegionTactic
import Derived.BigRegion
namespace Go.Proofs.YtkifcjjnpahdmaaDoor
open Go.RowKit
open Go.Deep

/-- what a word is when a mask is put in, or out -/
def putw (x m : Nat) (inn : Bool) : Nat := if inn then x ||| m else andn x m
theorem putw_lt (x m : Nat) (inn : Bool) (hx : x < 18446744073709551616) (hm : m < 18446744073709551616) : putw x m inn < 18446744073709551616 := by
  unfold putw
  split
  · exact Nat.or_lt_two_pow (n := 64) hx hm
  · exact andn_lt _ _ hx
/-- the words of the set that Put returns -/
def putW (ws : List Nat) (f t : Int) (inn : Bool) : List Nat := (List.range ws.length).map fun k => putw (ws.getD k 0) (maskI (k : Int) f t) inn
theorem putW_at (ws : List Nat) (f t : Int) (inn : Bool) (k : Nat) (h : k < ws.length) : (putW ws f t inn).getD k 0 = putw (ws.getD k 0) (maskI (k : Int) f t) inn := by
  unfold putW
  simp [h]
/-- after so many rounds -/
def putC (ws : List Nat) (f t : Int) (inn : Bool) (k : Nat) (j : Nat) : Value := .int .u64 ((if j < k then (putW ws f t inn).getD j 0 else 0 : Nat) : Int)

theorem gb_drew {a w : World} {row : Option Nat} (h : a.grownBy w row) (n : Nat) : a.grownBy (w.drewN n) row := ⟨h.os, h.tape, h.output, h.size, h.block⟩
theorem gb_d {a w : World} {row : Option Nat} (h : a.grownBy w row) : a.grownBy w.drew row := ⟨h.os, h.tape, h.output, h.size, h.block⟩
theorem gb_set {a w : World} {g : Nat} (h : a.grownBy w (some g)) (o : Nat) (u : Value) : a.grownBy (w.setCell ⟨g, o, none⟩ u) (some g) :=
  ⟨h.os, h.tape, h.output, by simpa [World.setCell] using h.size, fun i hi hne => (Below.heap_setCell w ⟨g, o, none⟩ u i (by rintro rfl; exact hne rfl)).trans (h.block i hi hne)⟩
theorem gb_cell {a w : World} {g : Nat} (h : a.grownBy w (some g)) (b o : Nat) (hb : b < a.heap.size) (hne : b ≠ g) : w.cell? ⟨b, o, none⟩ = a.cell? ⟨b, o, none⟩ :=
  World.cell?_of_block (w := a) (a := ⟨b, o, none⟩) (h.block b hb (by intro e; injection e with e; exact hne e))
theorem gb_frozen {a w : World} {g : Nat} (h : a.grownBy w (some g)) (b o : Nat) (hb : b < a.heap.size) (hne : b ≠ g) : w.frozen? ⟨b, o, none⟩ = a.frozen? ⟨b, o, none⟩ :=
  World.frozen?_of_block (w := a) (a := ⟨b, o, none⟩) (h.block b hb (by intro e; injection e with e; exact hne e))

set_option maxHeartbeats 400000 in
theorem put_in (n : Int) (A : Option Addr) (cap : Nat) (ws : List Nat) (f t : Int) (w : World) (hr : Rd w A ws) (h0 : chpI n ws f t = 0) (hf0 : 0 ≤ f) (hf1 : f ≤ 1024) (ht0 : 0 ≤ t) (ht1 : t ≤ 1024) (hn0 : 0 ≤ n) (hn1 : n ≤ 1024) (hl : ws.length = nw n) :
    Calls Tryd.prog 25 #[.agg #[.int .i64 n, .slice A ws.length cap], .int .i64 f, .int .i64 t, .bool true] w (RetS w n (putW ws f t true) 0) := by
  have hnw : nw n ≤ 100 := by unfold nw; omega
  have hC := checkPart_any n A cap ws f t _ ((hr.alloc (.cells #[.int .i64 n, .slice A ws.length cap] 24)).alloc (.cells #[.int .i64 0, .slice none 0 0] 24))
  rw [h0] at hC
  have HC := Lib.hid hC
  have HL := Lib.hid hl
  clear hC h0 hl
  go_enter Tryd.func25, Tryd.ntmps25
  go_wp2_with fail
  refine HC.out.mono ?_
  rintro e w1 ⟨rfl, hb⟩
  clear HC
  obtain ⟨hc1, hf1'⟩ := bc hb
  have hs1 : w.heap.size + 2 ≤ w1.heap.size := by have := bsz hb; simpa using this
  have hr1 : Rd w1 A ws := ((hr.alloc (.cells #[.int .i64 n, .slice A ws.length cap] 24)).alloc (.cells #[.int .i64 0, .slice none 0 0] 24)).below hb
  have hx0 : w1.cell? ⟨w.heap.size, 0, none⟩ = some (.int .i64 n) := by rw [hc1 _ _ (by simp <;> omega)]; simp
  have hx1 : w1.cell? ⟨w.heap.size, 1, none⟩ = some (.slice A ws.length cap) := by rw [hc1 _ _ (by simp <;> omega)]; simp
  have hy0 : w1.cell? ⟨w.heap.size + 1, 0, none⟩ = some (.int .i64 0) := by rw [hc1 _ _ (by simp <;> omega)]; simp
  have hy1 : w1.cell? ⟨w.heap.size + 1, 1, none⟩ = some (.slice none 0 0) := by rw [hc1 _ _ (by simp <;> omega)]; simp
  have hz0 : w1.frozen? ⟨w.heap.size + 1, 0, none⟩ = false := by rw [hf1' _ _ (by simp <;> omega)]; simp
  have hz1 : w1.frozen? ⟨w.heap.size + 1, 1, none⟩ = false := by rw [hf1' _ _ (by simp <;> omega)]; simp
  have hbW := (((Below.refl _ _).alloc (Nat.le_refl _) _).alloc (by simp) _).trans (hb.mono (B' := w.heap.size) (by simp <;> omega))
  clear hc1 hf1' hb
  go_wp2_with fail
  refine (empty_any _ _ (by omega) (by omega)).mono ?_
  rintro e w2 ⟨g, hg, rfl, hrow, hb2⟩
  obtain ⟨hc2, hf2⟩ := bc hb2
  have hs2 := bsz hb2
  rw [← hc2 _ _ (by omega)] at hx0 hx1 hy0 hy1
  rw [← hf2 _ _ (by omega)] at hz0 hz1
  clear hc2 hf2 hr1
  have hgl := hrow.lt
  have hbX := hbW.trans (hb2.mono (B' := w.heap.size) (by omega))
  go_wp2
  have hb3 : Below w.heap.size w (w2.alloc (.cells #[.int .i64 n, .slice (some ⟨g, 0, none⟩) (nw n) (nw n)] 24)) := hbX.alloc (by omega) _
  have hrow3 := hrow.alloc (.cells #[.int .i64 n, .slice (some ⟨g, 0, none⟩) (nw n) (nw n)] 24)
  have hs3 : (w2.alloc (.cells #[.int .i64 n, .slice (some ⟨g, 0, none⟩) (nw n) (nw n)] 24)).heap.size = w2.heap.size + 1 := by simp
  have hn0' : (w2.alloc (.cells #[.int .i64 n, .slice (some ⟨g, 0, none⟩) (nw n) (nw n)] 24)).cell? ⟨w2.heap.size, 0, none⟩ = some (.int .i64 n) := by simp
  have hn1' : (w2.alloc (.cells #[.int .i64 n, .slice (some ⟨g, 0, none⟩) (nw n) (nw n)] 24)).cell? ⟨w2.heap.size, 1, none⟩ = some (.slice (some ⟨g, 0, none⟩) (nw n) (nw n)) := by simp
  obtain ⟨hc3, hf3⟩ := bc ((Below.refl _ w2).alloc (Nat.le_refl _) (.cells #[.int .i64 n, .slice (some ⟨g, 0, none⟩) (nw n) (nw n)] 24))
  rw [← hc3 _ _ (by omega)] at hx0 hx1 hy0 hy1
  rw [← hf3 _ _ (by omega)] at hz0 hz1
  clear hc3 hf3 hb2 hbX hrow hbW
  generalize hw3 : w2.alloc (.cells #[.int .i64 n, .slice (some ⟨g, 0, none⟩) (nw n) (nw n)] 24) = w3 at *
  clear hw3
  go_loopw [28] (fun i wr => ∃ k : Nat, k ≤ nw n ∧ i = .int .i64 k ∧ w3.grownBy wr (some g) ∧ wr.rowIs g 61 (nw n) (putC ws f t true k)) (fun i _ => nw n - (intOf i).toNat)
  case atStart => exact ⟨0, Nat.zero_le _, rfl, World.grownBy.refl _ _, hrow3.congr fun j _ => by simp [putC]⟩
  case round =>
    obtain ⟨k, hk, rfl, hgb, hrow⟩ := hrel
    have cx1 := (gb_cell hgb w.heap.size 1 (by omega) (by omega)).trans hx1
    have cn1 := (gb_cell hgb w2.heap.size 1 (by omega) (by omega)).trans hn1'
    have cn0 := (gb_cell hgb w2.heap.size 0 (by omega) (by omega)).trans hn0'
    have hsr := hgb.size
    by_cases hlt : k < nw n
    · have hkl : k < ws.length := by rw [HL.out]; exact hlt
      obtain ⟨b, o, rfl, hbl, hcell⟩ := hr.2.2 k hkl
      rw [← hb3.cell (p := ⟨b, o + k, none⟩) hbl] at hcell
      have cc := (gb_cell hgb b (o + k) (by omega) (by omega)).trans hcell
      have cg := hrow.cell hlt
      have cf := hrow.frozen k
      have hput := putW_at ws f t true k hkl
      have hz : bits .or .u64 ((ws.getD k 0 : Nat) : Int) (maskI (k : Int) f t : Int) = (((putW ws f t true).getD k 0 : Nat) : Int) := by
        rw [bits_or_u64_nat _ _ (hr.lt k) (maskI_lt _ _ _), hput]
        rfl
      generalize hv : (putW ws f t true).getD k 0 = v at *
      generalize ws.getD k 0 = x at *
      have HV := Lib.hid hv
      clear hput hv hx0 hx1 hy0 hy1 hn0' hn1' hcell hrow3 hs3
      have hlt' : (k : Int) < (nw n : Int) := by omega
      have hkl' : (k : Int) < (ws.length : Int) := by omega
      have hk0 : 0 ≤ (k : Int) := by omega
      go_wp2_with (go_at_call 47; refine (mask_any _ _ _ _ (by omega) (by omega) (by omega) (by omega) (by omega) (by omega)).mono ?_; rintro e w' ⟨rfl, rfl⟩)
      go_region
      go_wp2
      go_roundw
      case rel => exact ⟨k + 1, by omega, by go_num, gb_d (gb_set hgb _ _), (hrow.set k _).congr fun j hj => by
        unfold putC
        by_cases e : j = k
        · subst e
          rw [if_pos rfl, if_pos (by omega), HV.out]
        · rw [if_neg e]
          by_cases e2 : j < k
          · rw [if_pos e2, if_pos (by omega)]
          · rw [if_neg e2, if_neg (by omega)]⟩
      case measure => simp [intOf]; omega
    · obtain rfl : k = nw n := by omega
      have cx0 := (gb_cell hgb (w.heap.size + 1) 0 (by omega) (by omega)).trans hy0
      have cx1' := (gb_cell hgb (w.heap.size + 1) 1 (by omega) (by omega)).trans hy1
      have fx0 := (gb_frozen hgb (w.heap.size + 1) 0 (by omega) (by omega)).trans hz0
      have fx1 := (gb_frozen hgb (w.heap.size + 1) 1 (by omega) (by omega)).trans hz1
      clear hx0 hx1 hy0 hy1 hz0 hz1 hn0' hn1' hrow3
      go_wp2
      have hlen : (putW ws f t true).length = nw n := by rw [← HL.out]; simp [putW]
      refine bodyPost_ret (v := .tuple #[.agg #[.int .i64 n, .slice (some ⟨g, 0, none⟩) (nw n) (nw n)], .int .i64 0]) (by simp [results, Tryd.results25, go_sem, cx0, cx1']) rfl ⟨some ⟨g, 0, none⟩, nw n, by rw [hlen], nil0_some _, from_some (by omega), ?_, ?_⟩
      · refine Rd.of_row (len := 0) _ ((hrow.setOther (a := ⟨w.heap.size + 1, 0, none⟩) (by simp only []; omega) _).setOther (a := ⟨w.heap.size + 1, 1, none⟩) (by simp only []; omega) _) (by omega) ?_ (by omega) fun j hj => by
          unfold putC
          rw [if_pos (by omega)]
        intro x hx
        obtain ⟨k, _, rfl⟩ := List.mem_map.1 hx
        exact putw_lt _ _ _ (hr.lt k) (maskI_lt _ _ _)
      · exact (((hb3.grown hgb (by omega) (fun k hk => by injection hk with hk; omega)).setCell (by simp only []; omega) _).setCell (by simp only []; omega) _)
set_option maxHeartbeats 400000 in
theorem put_out (n : Int) (A : Option Addr) (cap : Nat) (ws : List Nat) (f t : Int) (w : World) (hr : Rd w A ws) (h0 : chpI n ws f t = 0) (hf0 : 0 ≤ f) (hf1 : f ≤ 1024) (ht0 : 0 ≤ t) (ht1 : t ≤ 1024) (hn0 : 0 ≤ n) (hn1 : n ≤ 1024) (hl : ws.length = nw n) :
    Calls Tryd.prog 25 #[.agg #[.int .i64 n, .slice A ws.length cap], .int .i64 f, .int .i64 t, .bool false] w (RetS w n (putW ws f t false) 0) := by
  have hnw : nw n ≤ 100 := by unfold nw; omega
  have hC := checkPart_any n A cap ws f t _ ((hr.alloc (.cells #[.int .i64 n, .slice A ws.length cap] 24)).alloc (.cells #[.int .i64 0, .slice none 0 0] 24))
  rw [h0] at hC
  have HC := Lib.hid hC
  have HL := Lib.hid hl
  clear hC h0 hl
  go_enter Tryd.func25, Tryd.ntmps25
  go_wp2_with fail
  refine HC.out.mono ?_
  rintro e w1 ⟨rfl, hb⟩
  clear HC
  obtain ⟨hc1, hf1'⟩ := bc hb
  have hs1 : w.heap.size + 2 ≤ w1.heap.size := by have := bsz hb; simpa using this
  have hr1 : Rd w1 A ws := ((hr.alloc (.cells #[.int .i64 n, .slice A ws.length cap] 24)).alloc (.cells #[.int .i64 0, .slice none 0 0] 24)).below hb
  have hx0 : w1.cell? ⟨w.heap.size, 0, none⟩ = some (.int .i64 n) := by rw [hc1 _ _ (by simp <;> omega)]; simp
  have hx1 : w1.cell? ⟨w.heap.size, 1, none⟩ = some (.slice A ws.length cap) := by rw [hc1 _ _ (by simp <;> omega)]; simp
  have hy0 : w1.cell? ⟨w.heap.size + 1, 0, none⟩ = some (.int .i64 0) := by rw [hc1 _ _ (by simp <;> omega)]; simp
  have hy1 : w1.cell? ⟨w.heap.size + 1, 1, none⟩ = some (.slice none 0 0) := by rw [hc1 _ _ (by simp <;> omega)]; simp
  have hz0 : w1.frozen? ⟨w.heap.size + 1, 0, none⟩ = false := by rw [hf1' _ _ (by simp <;> omega)]; simp
  have hz1 : w1.frozen? ⟨w.heap.size + 1, 1, none⟩ = false := by rw [hf1' _ _ (by simp <;> omega)]; simp
  have hbW := (((Below.refl _ _).alloc (Nat.le_refl _) _).alloc (by simp) _).trans (hb.mono (B' := w.heap.size) (by simp <;> omega))
  clear hc1 hf1' hb
  go_wp2_with fail
  refine (empty_any _ _ (by omega) (by omega)).mono ?_
  rintro e w2 ⟨g, hg, rfl, hrow, hb2⟩
  obtain ⟨hc2, hf2⟩ := bc hb2
  have hs2 := bsz hb2
  rw [← hc2 _ _ (by omega)] at hx0 hx1 hy0 hy1
  rw [← hf2 _ _ (by omega)] at hz0 hz1
  clear hc2 hf2 hr1
  have hgl := hrow.lt
  have hbX := hbW.trans (hb2.mono (B' := w.heap.size) (by omega))
  go_wp2
  have hb3 : Below w.heap.size w (w2.alloc (.cells #[.int .i64 n, .slice (some ⟨g, 0, none⟩) (nw n) (nw n)] 24)) := hbX.alloc (by omega) _
  have hrow3 := hrow.alloc (.cells #[.int .i64 n, .slice (some ⟨g, 0, none⟩) (nw n) (nw n)] 24)
  have hs3 : (w2.alloc (.cells #[.int .i64 n, .slice (some ⟨g, 0, none⟩) (nw n) (nw n)] 24)).heap.size = w2.heap.size + 1 := by simp
  have hn0' : (w2.alloc (.cells #[.int .i64 n, .slice (some ⟨g, 0, none⟩) (nw n) (nw n)] 24)).cell? ⟨w2.heap.size, 0, none⟩ = some (.int .i64 n) := by simp
  have hn1' : (w2.alloc (.cells #[.int .i64 n, .slice (some ⟨g, 0, none⟩) (nw n) (nw n)] 24)).cell? ⟨w2.heap.size, 1, none⟩ = some (.slice (some ⟨g, 0, none⟩) (nw n) (nw n)) := by simp
  obtain ⟨hc3, hf3⟩ := bc ((Below.refl _ w2).alloc (Nat.le_refl _) (.cells #[.int .i64 n, .slice (some ⟨g, 0, none⟩) (nw n) (nw n)] 24))
  rw [← hc3 _ _ (by omega)] at hx0 hx1 hy0 hy1
  rw [← hf3 _ _ (by omega)] at hz0 hz1
  clear hc3 hf3 hb2 hbX hrow hbW
  generalize hw3 : w2.alloc (.cells #[.int .i64 n, .slice (some ⟨g, 0, none⟩) (nw n) (nw n)] 24) = w3 at *
  clear hw3
  go_loopw [28] (fun i wr => ∃ k : Nat, k ≤ nw n ∧ i = .int .i64 k ∧ w3.grownBy wr (some g) ∧ wr.rowIs g 61 (nw n) (putC ws f t false k)) (fun i _ => nw n - (intOf i).toNat)
  case atStart => exact ⟨0, Nat.zero_le _, rfl, World.grownBy.refl _ _, hrow3.congr fun j _ => by simp [putC]⟩
  case round =>
    obtain ⟨k, hk, rfl, hgb, hrow⟩ := hrel
    have cx1 := (gb_cell hgb w.heap.size 1 (by omega) (by omega)).trans hx1
    have cn1 := (gb_cell hgb w2.heap.size 1 (by omega) (by omega)).trans hn1'
    have cn0 := (gb_cell hgb w2.heap.size 0 (by omega) (by omega)).trans hn0'
    have hsr := hgb.size
    by_cases hlt : k < nw n
    · have hkl : k < ws.length := by rw [HL.out]; exact hlt
      obtain ⟨b, o, rfl, hbl, hcell⟩ := hr.2.2 k hkl
      rw [← hb3.cell (p := ⟨b, o + k, none⟩) hbl] at hcell
      have cc := (gb_cell hgb b (o + k) (by omega) (by omega)).trans hcell
      have cg := hrow.cell hlt
      have cf := hrow.frozen k
      have hput := putW_at ws f t false k hkl
      have hz : bits .andNot .u64 ((ws.getD k 0 : Nat) : Int) (maskI (k : Int) f t : Int) = (((putW ws f t false).getD k 0 : Nat) : Int) := by
        rw [andNot_nat _ _ (hr.lt k) (maskI_lt _ _ _), hput]
        rfl
      generalize hv : (putW ws f t false).getD k 0 = v at *
      generalize ws.getD k 0 = x at *
      have HV := Lib.hid hv
      clear hput hv hx0 hx1 hy0 hy1 hn0' hn1' hcell hrow3 hs3
      have hlt' : (k : Int) < (nw n : Int) := by omega
      have hkl' : (k : Int) < (ws.length : Int) := by omega
      have hk0 : 0 ≤ (k : Int) := by omega
      go_wp2_with (go_at_call 47; refine (mask_any _ _ _ _ (by omega) (by omega) (by omega) (by omega) (by omega) (by omega)).mono ?_; rintro e w' ⟨rfl, rfl⟩)
      go_region
      go_wp2
      go_roundw
      case rel => exact ⟨k + 1, by omega, by go_num, gb_d (gb_set hgb _ _), (hrow.set k _).congr fun j hj => by
        unfold putC
        by_cases e : j = k
        · subst e
          rw [if_pos rfl, if_pos (by omega), HV.out]
        · rw [if_neg e]
          by_cases e2 : j < k
          · rw [if_pos e2, if_pos (by omega)]
          · rw [if_neg e2, if_neg (by omega)]⟩
      case measure => simp [intOf]; omega
    · obtain rfl : k = nw n := by omega
      have cx0 := (gb_cell hgb (w.heap.size + 1) 0 (by omega) (by omega)).trans hy0
      have cx1' := (gb_cell hgb (w.heap.size + 1) 1 (by omega) (by omega)).trans hy1
      have fx0 := (gb_frozen hgb (w.heap.size + 1) 0 (by omega) (by omega)).trans hz0
      have fx1 := (gb_frozen hgb (w.heap.size + 1) 1 (by omega) (by omega)).trans hz1
      clear hx0 hx1 hy0 hy1 hz0 hz1 hn0' hn1' hrow3
      go_wp2
      have hlen : (putW ws f t false).length = nw n := by rw [← HL.out]; simp [putW]
      refine bodyPost_ret (v := .tuple #[.agg #[.int .i64 n, .slice (some ⟨g, 0, none⟩) (nw n) (nw n)], .int .i64 0]) (by simp [results, Tryd.results25, go_sem, cx0, cx1']) rfl ⟨some ⟨g, 0, none⟩, nw n, by rw [hlen], nil0_some _, from_some (by omega), ?_, ?_⟩
      · refine Rd.of_row (len := 0) _ ((hrow.setOther (a := ⟨w.heap.size + 1, 0, none⟩) (by simp only []; omega) _).setOther (a := ⟨w.heap.size + 1, 1, none⟩) (by simp only []; omega) _) (by omega) ?_ (by omega) fun j hj => by
          unfold putC
          rw [if_pos (by omega)]
        intro x hx
        obtain ⟨k, _, rfl⟩ := List.mem_map.1 hx
        exact putw_lt _ _ _ (hr.lt k) (maskI_lt _ _ _)
      · exact (((hb3.grown hgb (by omega) (fun k hk => by injection hk with hk; omega)).setCell (by simp only []; omega) _).setCell (by simp only []; omega) _)
set_option maxHeartbeats 400000 in
theorem put_bad (n : Int) (A : Option Addr) (cap : Nat) (ws : List Nat) (f t : Int) (inn : Bool) (w : World) (hr : Rd w A ws) (hne : chpI n ws f t ≠ 0) :
    Calls Tryd.prog 25 #[.agg #[.int .i64 n, .slice A ws.length cap], .int .i64 f, .int .i64 t, .bool inn] w (RetS w 0 [] (chpI n ws f t)) := by
  have hC := checkPart_any n A cap ws f t _ ((hr.alloc (.cells #[.int .i64 n, .slice A ws.length cap] 24)).alloc (.cells #[.int .i64 0, .slice none 0 0] 24))
  have hb0 : (chpI n ws f t != 0) = true := by simpa using hne
  have HC := Lib.hid hC
  clear hC
  generalize chpI n ws f t = er at *
  go_enter Tryd.func25, Tryd.ntmps25
  go_wp2_with fail
  refine HC.out.mono ?_
  rintro e w1 ⟨rfl, hb⟩
  clear HC
  obtain ⟨hc1, hf1'⟩ := bc hb
  have hs1 : w.heap.size + 2 ≤ w1.heap.size := by have := bsz hb; simpa using this
  have hy0 : w1.cell? ⟨w.heap.size + 1, 0, none⟩ = some (.int .i64 0) := by rw [hc1 _ _ (by simp <;> omega)]; simp
  have hy1 : w1.cell? ⟨w.heap.size + 1, 1, none⟩ = some (.slice none 0 0) := by rw [hc1 _ _ (by simp <;> omega)]; simp
  have hz0 : w1.frozen? ⟨w.heap.size + 1, 0, none⟩ = false := by rw [hf1' _ _ (by simp <;> omega)]; simp
  have hz1 : w1.frozen? ⟨w.heap.size + 1, 1, none⟩ = false := by rw [hf1' _ _ (by simp <;> omega)]; simp
  have hbW := (((Below.refl _ _).alloc (Nat.le_refl _) _).alloc (by simp) _).trans (hb.mono (B' := w.heap.size) (by simp <;> omega))
  clear hc1 hf1' hb
  go_wp2
  refine bodyPost_ret (v := .tuple #[.agg #[.int .i64 0, .slice none 0 0], .int .i64 er]) (by simp [results, Tryd.results25, go_sem, hy0, hy1]) rfl ⟨none, 0, rfl, fun _ => rfl, from_none _, Rd.zero, ?_⟩
  exact ((hbW.setCell (by simp only []; omega) _).setCell (by simp only []; omega) _)
/-- What follows from a good set and a good part. -/
theorem chk_good {n : Int} {ws : List Nat} (h : chkI n ws = 0) : 0 ≤ n ∧ n ≤ 1024 ∧ fitB n ws = true ∧ ws.length = nw n := by
  unfold chkI at h
  split at h
  · omega
  · split at h
    · rename_i h1 h2
      refine ⟨by omega, by omega, h2, ?_⟩
      unfold fitB at h2
      split at h2
      · assumption
      · cases h2
    · omega
theorem chp_good {n : Int} {ws : List Nat} {f t : Int} (h : chpI n ws f t = 0) : chkI n ws = 0 ∧ 0 ≤ f ∧ f ≤ t ∧ t ≤ n := by
  unfold chpI at h
  split at h
  · contradiction
  · rename_i h1
    have h1 : chkI n ws = 0 := by simpa using h1
    split at h
    · omega
    · exact ⟨h1, by omega, by omega, by omega⟩
def putN (n : Int) (ws : List Nat) (f t : Int) : Int := if chpI n ws f t = 0 then n else 0
def putWs (n : Int) (ws : List Nat) (f t : Int) (inn : Bool) : List Nat := if chpI n ws f t = 0 then putW ws f t inn else []
theorem put_any (n : Int) (A : Option Addr) (cap : Nat) (ws : List Nat) (f t : Int) (inn : Bool) (w : World) (hr : Rd w A ws) :
    Calls Tryd.prog 25 #[.agg #[.int .i64 n, .slice A ws.length cap], .int .i64 f, .int .i64 t, .bool inn] w (RetS w (putN n ws f t) (putWs n ws f t inn) (chpI n ws f t)) := by
  unfold putN putWs
  by_cases h : chpI n ws f t = 0
  · obtain ⟨h1, h2, h3, h4⟩ := chp_good h
    obtain ⟨g1, g2, _, g4⟩ := chk_good h1
    rw [if_pos h, if_pos h, h]
    cases inn with
    | true => exact put_in n A cap ws f t w hr h h2 (by omega) (by omega) (by omega) g1 g2 g4
    | false => exact put_out n A cap ws f t w hr h h2 (by omega) (by omega) (by omega) g1 g2 g4
  · rw [if_neg h, if_neg h]
    exact put_bad n A cap ws f t inn w hr h
end Go.Proofs.YtkifcjjnpahdmaaDoor
