import Derived.Test.YtkifcjjnpahdmaaDoorF2
namespace Go.Proofs.YtkifcjjnpahdmaaDoor
open Go.RowKit
open Go.Deep

def combE (n m : Int) (xs ys : List Nat) (op : Int) : Int :=
  if chkI n xs ≠ 0 then chkI n xs else if chkI m ys ≠ 0 then chkI m ys else if n ≠ m ∨ op < 1 ∨ 4 < op then 2 else 0
def combN (n m : Int) (xs ys : List Nat) (op : Int) : Int := if combE n m xs ys op = 0 then n else 0
def combW (n m : Int) (xs ys : List Nat) (op : Int) : List Nat := if combE n m xs ys op = 0 then cmW op.toNat xs ys else []
set_option maxHeartbeats 400000 in
theorem comb_b1 (n m op : Int) (A B : Option Addr) (c d : Nat) (xs ys : List Nat) (w : World) (hx : Rd w A xs) (hy : Rd w B ys) (h0 : chkI n xs ≠ 0) :
    Calls Tryd.prog 29 #[.agg #[.int .i64 n, .slice A xs.length c], .agg #[.int .i64 m, .slice B ys.length d], .int .i64 op] w (RetS w 0 [] (chkI n xs)) := by
  have K1 := fun W hR => check_any n A c xs W hR
  have hb0 : (chkI n xs != 0) = true := by simpa using h0
  have hb9 : (chkI n xs == 0) = false := by simpa using h0
  have HK1 := Lib.hid K1
  clear K1
  generalize chkI n xs = er at *
  go_enter Tryd.func29, Tryd.ntmps29
  go_wp2_with fail
  refine (HK1.out _ (((hx.alloc _).alloc _).alloc _)).mono ?_
  rintro e w1 ⟨rfl, hb⟩
  have hs1 : w.heap.size + 1 + 1 + 1 ≤ w1.heap.size := by have := bsz hb; simpa using this
  have hb1 : Below (w.heap.size + 1 + 1 + 1) (((w.alloc (.cells #[.int .i64 n, .slice A xs.length c] 24)).alloc (.cells #[.int .i64 m, .slice B ys.length d] 24)).alloc (.cells #[.int .i64 0, .slice none 0 0] 24)) w1 := by simpa using hb
  have hbW := ((((Below.refl _ _).alloc (Nat.le_refl _) _).alloc (by simp) _).alloc (by simp; omega) _).trans (hb1.mono (B' := w.heap.size) (by omega))
  clear hb
  obtain ⟨ax0, ax1, ay0, ay1, az0, az1, fz0, fz1⟩ := box33 hb1
  have hbX := hbW
  go_wp2
  refine bodyPost_ret (v := .tuple #[.agg #[.int .i64 0, .slice none 0 0], .int .i64 er]) (by simp [results, Tryd.results29, go_sem, az0, az1]) rfl ⟨none, 0, rfl, fun _ => rfl, from_none _, Rd.zero, ?_⟩
  exact ((hbX.setCell (by simp only []; omega) _).setCell (by simp only []; omega) _)
set_option maxHeartbeats 400000 in
theorem comb_b2 (n m op : Int) (A B : Option Addr) (c d : Nat) (xs ys : List Nat) (w : World) (hx : Rd w A xs) (hy : Rd w B ys) (h0 : chkI n xs = 0) (h1 : chkI m ys ≠ 0) :
    Calls Tryd.prog 29 #[.agg #[.int .i64 n, .slice A xs.length c], .agg #[.int .i64 m, .slice B ys.length d], .int .i64 op] w (RetS w 0 [] (chkI m ys)) := by
  have K1 := fun W hR => check_any n A c xs W hR
  have K2 := fun W hR => check_any m B d ys W hR
  rw [h0] at K1
  have hb0 : (chkI m ys != 0) = true := by simpa using h1
  have hb9 : (chkI m ys == 0) = false := by simpa using h1
  have HK1 := Lib.hid K1
  have HK2 := Lib.hid K2
  clear K1 K2 h0
  generalize chkI m ys = er at *
  go_enter Tryd.func29, Tryd.ntmps29
  go_wp2_with fail
  refine (HK1.out _ (((hx.alloc _).alloc _).alloc _)).mono ?_
  rintro e w1 ⟨rfl, hb⟩
  have hs1 : w.heap.size + 1 + 1 + 1 ≤ w1.heap.size := by have := bsz hb; simpa using this
  have hb1 : Below (w.heap.size + 1 + 1 + 1) (((w.alloc (.cells #[.int .i64 n, .slice A xs.length c] 24)).alloc (.cells #[.int .i64 m, .slice B ys.length d] 24)).alloc (.cells #[.int .i64 0, .slice none 0 0] 24)) w1 := by simpa using hb
  have hbW := ((((Below.refl _ _).alloc (Nat.le_refl _) _).alloc (by simp) _).alloc (by simp; omega) _).trans (hb1.mono (B' := w.heap.size) (by omega))
  clear hb
  obtain ⟨ax0, ax1, ay0, ay1, az0, az1, fz0, fz1⟩ := box33 hb1
  go_wp2_with fail
  refine (HK2.out _ (hy.below hbW)).mono ?_
  rintro e w2 ⟨rfl, hb2⟩
  have hs2 := bsz hb2
  have hb3 := hb1.trans (hb2.mono (by omega))
  have hbX := hbW.trans (hb2.mono (by omega))
  clear hb1 hb2 hbW ax0 ax1 ay0 ay1 az0 az1 fz0 fz1
  obtain ⟨ax0, ax1, ay0, ay1, az0, az1, fz0, fz1⟩ := box33 hb3
  go_wp2
  refine bodyPost_ret (v := .tuple #[.agg #[.int .i64 0, .slice none 0 0], .int .i64 er]) (by simp [results, Tryd.results29, go_sem, az0, az1]) rfl ⟨none, 0, rfl, fun _ => rfl, from_none _, Rd.zero, ?_⟩
  exact ((hbX.setCell (by simp only []; omega) _).setCell (by simp only []; omega) _)
set_option maxHeartbeats 400000 in
theorem comb_b3 (n m op : Int) (A B : Option Addr) (c d : Nat) (xs ys : List Nat) (w : World) (hx : Rd w A xs) (hy : Rd w B ys) (h0 : chkI n xs = 0) (h1 : chkI m ys = 0) (hnm : n ≠ m) :
    Calls Tryd.prog 29 #[.agg #[.int .i64 n, .slice A xs.length c], .agg #[.int .i64 m, .slice B ys.length d], .int .i64 op] w (RetS w 0 [] 2) := by
  have K1 := fun W hR => check_any n A c xs W hR
  have K2 := fun W hR => check_any m B d ys W hR
  rw [h0] at K1
  rw [h1] at K2
  have HK1 := Lib.hid K1
  have HK2 := Lib.hid K2
  clear K1 K2 h0 h1
  have hb0 : (n != m) = true := by simpa using hnm
  go_enter Tryd.func29, Tryd.ntmps29
  go_wp2_with fail
  refine (HK1.out _ (((hx.alloc _).alloc _).alloc _)).mono ?_
  rintro e w1 ⟨rfl, hb⟩
  have hs1 : w.heap.size + 1 + 1 + 1 ≤ w1.heap.size := by have := bsz hb; simpa using this
  have hb1 : Below (w.heap.size + 1 + 1 + 1) (((w.alloc (.cells #[.int .i64 n, .slice A xs.length c] 24)).alloc (.cells #[.int .i64 m, .slice B ys.length d] 24)).alloc (.cells #[.int .i64 0, .slice none 0 0] 24)) w1 := by simpa using hb
  have hbW := ((((Below.refl _ _).alloc (Nat.le_refl _) _).alloc (by simp) _).alloc (by simp; omega) _).trans (hb1.mono (B' := w.heap.size) (by omega))
  clear hb
  obtain ⟨ax0, ax1, ay0, ay1, az0, az1, fz0, fz1⟩ := box33 hb1
  go_wp2_with fail
  refine (HK2.out _ (hy.below hbW)).mono ?_
  rintro e w2 ⟨rfl, hb2⟩
  have hs2 := bsz hb2
  have hb3 := hb1.trans (hb2.mono (by omega))
  have hbX := hbW.trans (hb2.mono (by omega))
  clear hb1 hb2 hbW ax0 ax1 ay0 ay1 az0 az1 fz0 fz1
  obtain ⟨ax0, ax1, ay0, ay1, az0, az1, fz0, fz1⟩ := box33 hb3
  go_wp2
  refine bodyPost_ret (v := .tuple #[.agg #[.int .i64 0, .slice none 0 0], .int .i64 2]) (by simp [results, Tryd.results29, go_sem, az0, az1]) rfl ⟨none, 0, rfl, fun _ => rfl, from_none _, Rd.zero, ?_⟩
  exact ((hbX.setCell (by simp only []; omega) _).setCell (by simp only []; omega) _)
set_option maxHeartbeats 400000 in
theorem comb_b4 (n op : Int) (A B : Option Addr) (c d : Nat) (xs ys : List Nat) (w : World) (hx : Rd w A xs) (hy : Rd w B ys) (h0 : chkI n xs = 0) (h1 : chkI n ys = 0) (c1 : op < 1) :
    Calls Tryd.prog 29 #[.agg #[.int .i64 n, .slice A xs.length c], .agg #[.int .i64 n, .slice B ys.length d], .int .i64 op] w (RetS w 0 [] 2) := by
  have K1 := fun W hR => check_any n A c xs W hR
  have K2 := fun W hR => check_any n B d ys W hR
  rw [h0] at K1
  rw [h1] at K2
  have HK1 := Lib.hid K1
  have HK2 := Lib.hid K2
  clear K1 K2 h0 h1
  go_enter Tryd.func29, Tryd.ntmps29
  go_wp2_with fail
  refine (HK1.out _ (((hx.alloc _).alloc _).alloc _)).mono ?_
  rintro e w1 ⟨rfl, hb⟩
  have hs1 : w.heap.size + 1 + 1 + 1 ≤ w1.heap.size := by have := bsz hb; simpa using this
  have hb1 : Below (w.heap.size + 1 + 1 + 1) (((w.alloc (.cells #[.int .i64 n, .slice A xs.length c] 24)).alloc (.cells #[.int .i64 n, .slice B ys.length d] 24)).alloc (.cells #[.int .i64 0, .slice none 0 0] 24)) w1 := by simpa using hb
  have hbW := ((((Below.refl _ _).alloc (Nat.le_refl _) _).alloc (by simp) _).alloc (by simp; omega) _).trans (hb1.mono (B' := w.heap.size) (by omega))
  clear hb
  obtain ⟨ax0, ax1, ay0, ay1, az0, az1, fz0, fz1⟩ := box33 hb1
  go_wp2_with fail
  refine (HK2.out _ (hy.below hbW)).mono ?_
  rintro e w2 ⟨rfl, hb2⟩
  have hs2 := bsz hb2
  have hb3 := hb1.trans (hb2.mono (by omega))
  have hbX := hbW.trans (hb2.mono (by omega))
  clear hb1 hb2 hbW ax0 ax1 ay0 ay1 az0 az1 fz0 fz1
  obtain ⟨ax0, ax1, ay0, ay1, az0, az1, fz0, fz1⟩ := box33 hb3
  go_wp2
  refine bodyPost_ret (v := .tuple #[.agg #[.int .i64 0, .slice none 0 0], .int .i64 2]) (by simp [results, Tryd.results29, go_sem, az0, az1]) rfl ⟨none, 0, rfl, fun _ => rfl, from_none _, Rd.zero, ?_⟩
  exact ((hbX.setCell (by simp only []; omega) _).setCell (by simp only []; omega) _)
set_option maxHeartbeats 400000 in
theorem comb_b5 (n op : Int) (A B : Option Addr) (c d : Nat) (xs ys : List Nat) (w : World) (hx : Rd w A xs) (hy : Rd w B ys) (h0 : chkI n xs = 0) (h1 : chkI n ys = 0) (c1 : ¬ op < 1) (c2 : 4 < op) :
    Calls Tryd.prog 29 #[.agg #[.int .i64 n, .slice A xs.length c], .agg #[.int .i64 n, .slice B ys.length d], .int .i64 op] w (RetS w 0 [] 2) := by
  have K1 := fun W hR => check_any n A c xs W hR
  have K2 := fun W hR => check_any n B d ys W hR
  rw [h0] at K1
  rw [h1] at K2
  have HK1 := Lib.hid K1
  have HK2 := Lib.hid K2
  clear K1 K2 h0 h1
  go_enter Tryd.func29, Tryd.ntmps29
  go_wp2_with fail
  refine (HK1.out _ (((hx.alloc _).alloc _).alloc _)).mono ?_
  rintro e w1 ⟨rfl, hb⟩
  have hs1 : w.heap.size + 1 + 1 + 1 ≤ w1.heap.size := by have := bsz hb; simpa using this
  have hb1 : Below (w.heap.size + 1 + 1 + 1) (((w.alloc (.cells #[.int .i64 n, .slice A xs.length c] 24)).alloc (.cells #[.int .i64 n, .slice B ys.length d] 24)).alloc (.cells #[.int .i64 0, .slice none 0 0] 24)) w1 := by simpa using hb
  have hbW := ((((Below.refl _ _).alloc (Nat.le_refl _) _).alloc (by simp) _).alloc (by simp; omega) _).trans (hb1.mono (B' := w.heap.size) (by omega))
  clear hb
  obtain ⟨ax0, ax1, ay0, ay1, az0, az1, fz0, fz1⟩ := box33 hb1
  go_wp2_with fail
  refine (HK2.out _ (hy.below hbW)).mono ?_
  rintro e w2 ⟨rfl, hb2⟩
  have hs2 := bsz hb2
  have hb3 := hb1.trans (hb2.mono (by omega))
  have hbX := hbW.trans (hb2.mono (by omega))
  clear hb1 hb2 hbW ax0 ax1 ay0 ay1 az0 az1 fz0 fz1
  obtain ⟨ax0, ax1, ay0, ay1, az0, az1, fz0, fz1⟩ := box33 hb3
  go_wp2
  refine bodyPost_ret (v := .tuple #[.agg #[.int .i64 0, .slice none 0 0], .int .i64 2]) (by simp [results, Tryd.results29, go_sem, az0, az1]) rfl ⟨none, 0, rfl, fun _ => rfl, from_none _, Rd.zero, ?_⟩
  exact ((hbX.setCell (by simp only []; omega) _).setCell (by simp only []; omega) _)
theorem comb_any (n m : Int) (A B : Option Addr) (c d : Nat) (xs ys : List Nat) (op : Int) (w : World) (hx : Rd w A xs) (hy : Rd w B ys) :
    Calls Tryd.prog 29 #[.agg #[.int .i64 n, .slice A xs.length c], .agg #[.int .i64 m, .slice B ys.length d], .int .i64 op] w (RetS w (combN n m xs ys op) (combW n m xs ys op) (combE n m xs ys op)) := by
  unfold combN combW
  by_cases h0 : chkI n xs = 0
  · by_cases h1 : chkI m ys = 0
    · by_cases hc : n ≠ m ∨ op < 1 ∨ 4 < op
      · have e : combE n m xs ys op = 2 := by unfold combE; rw [if_neg (by simp [h0]), if_neg (by simp [h1]), if_pos hc]
        rw [e, if_neg (by omega), if_neg (by omega)]
        by_cases hnm : n = m
        · subst hnm
          by_cases c1 : op < 1
          · exact comb_b4 n op A B c d xs ys w hx hy h0 h1 c1
          · exact comb_b5 n op A B c d xs ys w hx hy h0 h1 c1 (by omega)
        · exact comb_b3 n m op A B c d xs ys w hx hy h0 h1 hnm
      · have e : combE n m xs ys op = 0 := by unfold combE; rw [if_neg (by simp [h0]), if_neg (by simp [h1]), if_neg hc]
        rw [e, if_pos rfl, if_pos rfl]
        obtain rfl : n = m := by omega
        obtain rfl | rfl | rfl | rfl : op = 1 ∨ op = 2 ∨ op = 3 ∨ op = 4 := by omega
        · exact comb1 n A B c d xs ys w hx hy h0 h1
        · exact comb2 n A B c d xs ys w hx hy h0 h1
        · exact comb3 n A B c d xs ys w hx hy h0 h1
        · exact comb4 n A B c d xs ys w hx hy h0 h1
    · have e : combE n m xs ys op = chkI m ys := by unfold combE; rw [if_neg (by simp [h0]), if_pos h1]
      rw [e, if_neg h1, if_neg h1]
      exact comb_b2 n m op A B c d xs ys w hx hy h0 h1
  · have e : combE n m xs ys op = chkI n xs := by unfold combE; rw [if_pos h0]
    rw [e, if_neg h0, if_neg h0]
    exact comb_b1 n m op A B c d xs ys w hx hy h0
end Go.Proofs.YtkifcjjnpahdmaaDoor
