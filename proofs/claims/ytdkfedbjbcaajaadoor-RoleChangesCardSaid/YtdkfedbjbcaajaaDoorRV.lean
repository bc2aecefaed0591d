import Derived.Test.YtdkfedbjbcaajaaDoorRS
namespace Go.Proofs.YtdkfedbjbcaajaaDoor
open Go.RowKit
theorem mod8_some (n : Int) (W : World) : Calls Tryd.prog 36 #[.int .i64 n, .int .i64 8] W fun e w' => ∃ r : Nat, r < 8 ∧ e = .returned (.int .i64 (r : Int)) ∧ W = w' :=
  (mod_any n 8 W (by omega) (by omega)).mono fun e w' hh => ⟨(n % 8).toNat, by omega, by rw [hh.1]; congr 1; congr 1; omega, hh.2⟩
theorem rdc_new2 (W : World) (a b c d : Int) : RdC (W.alloc (.cells #[.int .i64 a, .int .i64 b, .int .i64 c, .int .i64 d] 39)) (some ⟨W.heap.size, 0, none⟩) [(a, b), (c, d)] := fun j hj => by
  rcases (show j = 0 ∨ j = 1 by simp at hj; omega) with rfl | rfl
  · exact ⟨_, _, rfl, by simp, by simp, by simp⟩
  · exact ⟨_, _, rfl, by simp, by simp, by simp⟩
theorem runS_len (m : List Int) (cs : List (Int × Int)) (n : Int) : (runS m cs n).1.length ≤ m.length := by
  induction cs generalizing m n with
  | nil => exact Nat.le_refl _
  | cons c t ih =>
    obtain ⟨f, r⟩ := c
    rw [runS]
    split
    · simp
    · split
      · exact Nat.le_trans (ih _ _) (by rw [List.length_set]; exact Nat.le_refl _)
      · simp
theorem swap_idx (n i j : Nat) (hi : i < n) (hj : j < n - 1) : ∃ k : Nat, k < n ∧ i ≠ k ∧ ((i : Int) + 1 + (j : Int)) % (n : Int) = (k : Int) := by
  by_cases h : i + 1 + j < n
  · exact ⟨i + 1 + j, h, by omega, by rw [Int.emod_eq_of_lt (by omega) (by omega)]; omega⟩
  · refine ⟨i + 1 + j - n, by omega, by omega, ?_⟩
    rw [show ((i : Int) + 1 + (j : Int)) = ((i + 1 + j - n : Nat) : Int) + (n : Int) by omega, Int.add_emod_right, Int.emod_eq_of_lt (by omega) (by omega)]
set_option maxRecDepth 100000 in
set_option maxHeartbeats 8000000 in
theorem swaps_law (A : Option Addr) (c : Nat) (l : List Int) (x y : Int) (w : World) (hr : RdI w A l) (hT : Tab w) : Calls Tryd.prog 11 #[.slice A l.length c, .int .i64 x, .int .i64 y] w fun e w' => e = .returned (.bool true) ∧ Ev w w' := by
  have C1 := Lib.hid (made_any A c l w hr)
  have hm30 := mdL_len l
  have HG := Lib.hid (mdL_good l)
  have HTT := Lib.hid hT
  clear hr hT
  generalize mdL l = m at *
  by_cases h2 : m.length < 2
  · have h2' : (m.length : Int) < 2 := by omega
    clear h2
    go_enter Tryd.func11, Tryd.ntmps11
    go_wp2_with fail
    refine C1.out.mono ?_
    rintro e w1 ⟨v, rfl, hown, hev⟩
    obtain ⟨A1, c1, rfl, hr1⟩ := RdI.of_own hown (by omega)
    have HE1 := Lib.hid hev
    clear hown hr1 hev
    go_wp2_with fail
    refine (awake_any w1 (HTT.out.ev HE1.out)).mono ?_
    rintro e w5 ⟨rfl, hev⟩
    have HE5 := Lib.hid (HE1.out.step hev)
    clear hev
    go_wp2_with fail
    go_ret
    exact ⟨rfl, HE5.out⟩
  · have h2' : (2 : Int) ≤ (m.length : Int) := by omega
    have h3' : (m.length : Int) ≤ 30 := by omega
    obtain ⟨i, hi, hie⟩ : ∃ i : Nat, i < m.length ∧ x % (m.length : Int) = (i : Int) := by
      have a1 := Int.emod_nonneg x (show (m.length : Int) ≠ 0 by omega)
      have a2 := Int.emod_lt_of_pos x (show 0 < (m.length : Int) by omega)
      exact ⟨(x % (m.length : Int)).toNat, by omega, by omega⟩
    obtain ⟨j, hj, hje⟩ : ∃ j : Nat, j < m.length - 1 ∧ y % ((m.length : Int) - 1) = (j : Int) := by
      have a1 := Int.emod_nonneg y (show (m.length : Int) - 1 ≠ 0 by omega)
      have a2 := Int.emod_lt_of_pos y (show 0 < (m.length : Int) - 1 by omega)
      exact ⟨(y % ((m.length : Int) - 1)).toNat, by omega, by omega⟩
    obtain ⟨k, hk, hik, hke⟩ := swap_idx m.length i j hi hj
    have M1 := Lib.hid fun W => mod_any x m.length W (by omega) (by omega)
    have M2 := Lib.hid fun W => mod_any y ((m.length : Int) - 1) W (by omega) (by omega)
    rw [hie] at M1
    rw [hje] at M2
    have HI := Lib.hid hi
    have HK := Lib.hid hk
    have HIK := Lib.hid hik
    have i0 : (0 : Int) ≤ (i : Int) := by omega
    have i1 : (i : Int) < 30 := by omega
    have j0 : (0 : Int) ≤ (j : Int) := by omega
    have j1 : (j : Int) < 30 := by omega
    clear hie hje hik
    go_enter Tryd.func11, Tryd.ntmps11
    go_wp2_with fail
    refine C1.out.mono ?_
    rintro e w1 ⟨v, rfl, hown, hev⟩
    obtain ⟨A1, c1, rfl, hr1, hn1⟩ := RdI.of_own' hown (by omega)
    have HR1 := Lib.hid hr1
    have HN1 := Lib.hid hn1
    have HE1 := Lib.hid hev
    clear hown hr1 hev hn1
    go_wp2_with fail
    refine (M1.out _).mono ?_
    rintro e w2 ⟨rfl, rfl⟩
    go_wp2_with fail
    refine (M2.out _).mono ?_
    rintro e w2 ⟨rfl, rfl⟩
    go_wp2_with fail
    refine (mod8_some _ _).mono ?_
    rintro e w2 ⟨ra, hra, rfl, rfl⟩
    go_wp2_with fail
    refine (mod8_some _ _).mono ?_
    rintro e w2 ⟨rb, hrb, rfl, rfl⟩
    go_wp2_with fail
    have HE2 : Hid (Ev w1 ((w1.alloc (.cells #[.int .i64 (i : Int), .int .i64 (ra : Int)] 39)).alloc (.cells #[.int .i64 (k : Int), .int .i64 (rb : Int)] 39))) := Lib.hid (((Ev.refl w1).alloc _).alloc _)
    have HS2 : Hid (w1.heap.size + 1 < ((w1.alloc (.cells #[.int .i64 (i : Int), .int .i64 (ra : Int)] 39)).alloc (.cells #[.int .i64 (k : Int), .int .i64 (rb : Int)] 39)).heap.size) := Lib.hid (by simp)
    obtain ⟨d0, d1⟩ := Box2.ev (box2_new w1 i ra 39) (by simp) ((Ev.refl _).alloc (.cells #[.int .i64 (k : Int), .int .i64 (rb : Int)] 39))
    obtain ⟨d2, d3⟩ := box2_new (w1.alloc (.cells #[.int .i64 (i : Int), .int .i64 (ra : Int)] 39)) k rb 39
    simp only [World.size_alloc] at d2 d3
    generalize ((w1.alloc (.cells #[.int .i64 (i : Int), .int .i64 (ra : Int)] 39)).alloc (.cells #[.int .i64 (k : Int), .int .i64 (rb : Int)] 39)) = W2 at *
    have HRM := Lib.hid (HR1.out.ev HE2.out)
    have HM2 := Lib.hid HS2
    have HB0 : Hid (∀ W', Ev W2 W' → (W'.cell? ⟨w1.heap.size, 0, none⟩ = some (.int .i64 (i : Int)) ∧ W'.cell? ⟨w1.heap.size, 1, none⟩ = some (.int .i64 (ra : Int)) ∧ W'.cell? ⟨w1.heap.size + 1, 0, none⟩ = some (.int .i64 (k : Int)) ∧ W'.cell? ⟨w1.heap.size + 1, 1, none⟩ = some (.int .i64 (rb : Int))) ∧ Ev W2 W') := Lib.hid fun W' h => ⟨⟨(h.cell (p := ⟨w1.heap.size, 0, none⟩) (by show w1.heap.size < W2.heap.size; have := HS2.out; omega)).trans d0, (h.cell (p := ⟨w1.heap.size, 1, none⟩) (by show w1.heap.size < W2.heap.size; have := HS2.out; omega)).trans d1, (h.cell (p := ⟨w1.heap.size + 1, 0, none⟩) HS2.out).trans d2, (h.cell (p := ⟨w1.heap.size + 1, 1, none⟩) HS2.out).trans d3⟩, h⟩
    have CO : Hid (∀ W', Ev W2 W' → Calls Tryd.prog 18 #[.slice A1 m.length c1] W' fun e w' => ∃ A cap, e = .returned (.slice A m.length cap) ∧ RdI w' A m ∧ (A = none → m = []) ∧ Ev W' w') := Lib.hid fun W' h => OwnInts_any A1 c1 m W' (HRM.out.ev h) HN1.out (by omega)
    have ia : isR (ra : Int) = true := isR_of ra hra
    have ib : isR (rb : Int) = true := isR_of rb hrb
    have HT2 := Lib.hid (run_two m i k ra rb HI.out HK.out HIK.out ia ib)
    have CR : Hid (∀ W' A9 c9 B d cs, cs.length = 2 → Ev W2 W' → RdI W' A9 m → (A9 = none → m = []) → RdC W' B cs → Calls Tryd.prog 21 #[.slice A9 m.length c9, .slice B 2 d] W' fun e w' => ∃ v, e = .returned (.tuple #[v, .int .i64 (runS m cs 0).2.1, .int .i64 (runS m cs 0).2.2]) ∧ OwnI w' W'.heap.size v (runS m cs 0).1 ∧ Ev W' w') := Lib.hid fun W' A9 c9 B d cs hl2 h h1 h2 h3 => by
      have := run_ok A9 B c9 d m cs W' h1 (by omega) h2 HG.out h3 (by omega) (HTT.out.ev ((HE1.out.step HE2.out).step h))
      rwa [hl2] at this
    have hev := Ev.refl W2
    have dd := HB0.out _ hev
    go_region_held3 (fun w' => (w'.cell? ⟨w1.heap.size, 0, none⟩ = some (.int .i64 (i : Int)) ∧ w'.cell? ⟨w1.heap.size, 1, none⟩ = some (.int .i64 (ra : Int)) ∧ w'.cell? ⟨w1.heap.size + 1, 0, none⟩ = some (.int .i64 (k : Int)) ∧ w'.cell? ⟨w1.heap.size + 1, 1, none⟩ = some (.int .i64 (rb : Int))) ∧ Ev W2 w')
      ((refine HB0.out _ ?_; repeat (first | (with_reducible assumption) | (with_reducible exact Ev.refl _) | (with_reducible refine Ev.drew ?_) | (with_reducible refine Ev.alloc ?_ _))))
      (first | (go_at_call 18; refine (CO.out _ (by repeat (first | (with_reducible assumption) | (with_reducible exact Ev.refl _) | (with_reducible refine Ev.drew ?_) | (with_reducible refine Ev.alloc ?_ _)))).mono ?_; rintro e w5a ⟨A5a, c5a, rfl, hr5a, hn5a, hev5a⟩; have hE5a : Ev W2 w5a := Ev.step (by repeat (first | (with_reducible assumption) | (with_reducible exact Ev.refl _) | (with_reducible refine Ev.drew ?_) | (with_reducible refine Ev.alloc ?_ _))) hev5a) | (go_at_call 21; refine (CR.out _ _ _ _ _ [((i : Int), (ra : Int)), ((k : Int), (rb : Int))] rfl (by repeat (first | (with_reducible assumption) | (with_reducible exact Ev.refl _) | (with_reducible refine Ev.drew ?_) | (with_reducible refine Ev.alloc ?_ _))) (by first | exact hr5a | exact hr5a.ev ((Ev.refl _).alloc _)) hn5a (by first | (with_reducible exact rdc_new2 _ _ _ _ _) | (refine RdC.ev (rdc_new2 W2 _ _ _ _) ?_; exact Ev.step (Ev.drew (Ev.refl _)) hev5a))).mono ?_; rintro e w6a ⟨v6a, rfl, hown6a, hev6a⟩; have hE6a : Ev W2 w6a := Ev.step (by repeat (first | (with_reducible assumption) | (with_reducible exact Ev.refl _) | (with_reducible refine Ev.drew ?_) | (with_reducible refine Ev.alloc ?_ _))) hev6a))
    all_goals
      rw [HT2.out.1] at hown6a
      obtain ⟨A6, c6, rfl, hr6⟩ := RdI.of_own hown6a (by have := runS_len m [((k : Int), (rb : Int)), ((i : Int), (ra : Int))] 0; omega)
      have HR6 := Lib.hid hr6
      have hq : ((runS m [((i : Int), (ra : Int)), ((k : Int), (rb : Int))] 0).2.1 == (runS m [((k : Int), (rb : Int)), ((i : Int), (ra : Int))] 0).2.1) = true := by rw [HT2.out.2]; simp
      have HQ := Lib.hid hq
      clear dd hE5a hev5a hr5a hn5a hev6a hown6a hr6 hq d0 d1 d2 d3
      have dd := HB0.out _ hE6a
      go_wp2_with fail
      go_region_held3 (fun w' => (w'.cell? ⟨w1.heap.size, 0, none⟩ = some (.int .i64 (i : Int)) ∧ w'.cell? ⟨w1.heap.size, 1, none⟩ = some (.int .i64 (ra : Int)) ∧ w'.cell? ⟨w1.heap.size + 1, 0, none⟩ = some (.int .i64 (k : Int)) ∧ w'.cell? ⟨w1.heap.size + 1, 1, none⟩ = some (.int .i64 (rb : Int))) ∧ Ev W2 w')
        ((refine HB0.out _ ?_; repeat (first | (with_reducible assumption) | (with_reducible exact Ev.refl _) | (with_reducible refine Ev.drew ?_) | (with_reducible refine Ev.alloc ?_ _))))
        (first | (go_at_call 18; refine (CO.out _ (by repeat (first | (with_reducible assumption) | (with_reducible exact Ev.refl _) | (with_reducible refine Ev.drew ?_) | (with_reducible refine Ev.alloc ?_ _)))).mono ?_; rintro e w5b ⟨A5b, c5b, rfl, hr5b, hn5b, hev5b⟩; have hE5b : Ev W2 w5b := Ev.step (by repeat (first | (with_reducible assumption) | (with_reducible exact Ev.refl _) | (with_reducible refine Ev.drew ?_) | (with_reducible refine Ev.alloc ?_ _))) hev5b) | (go_at_call 21; refine (CR.out _ _ _ _ _ [((k : Int), (rb : Int)), ((i : Int), (ra : Int))] rfl (by repeat (first | (with_reducible assumption) | (with_reducible exact Ev.refl _) | (with_reducible refine Ev.drew ?_) | (with_reducible refine Ev.alloc ?_ _))) (by first | exact hr5b | exact hr5b.ev ((Ev.refl _).alloc _)) hn5b (by first | (with_reducible exact rdc_new2 _ _ _ _ _) | (refine RdC.ev (rdc_new2 w6a _ _ _ _) ?_; exact Ev.step (Ev.drew (Ev.refl _)) hev5b))).mono ?_; rintro e w6b ⟨v6b, rfl, hown6b, hev6b⟩; have hE6b : Ev W2 w6b := Ev.step (by repeat (first | (with_reducible assumption) | (with_reducible exact Ev.refl _) | (with_reducible refine Ev.drew ?_) | (with_reducible refine Ev.alloc ?_ _))) hev6b))
      all_goals
        obtain ⟨A7, c7, rfl, hr7⟩ := RdI.of_own hown6b (by have := runS_len m [((k : Int), (rb : Int)), ((i : Int), (ra : Int))] 0; omega)
        have HR7 := Lib.hid hr7
        have HE7 := Lib.hid hE6b
        have HR8 : Hid (RdI w6b A6 (runS m [((k : Int), (rb : Int)), ((i : Int), (ra : Int))] 0).1) := Lib.hid (HR6.out.ev (by first | exact Ev.step ((Ev.refl _).alloc _) hev6b | exact Ev.step (Ev.step ((Ev.refl _).drew) hev5b) (Ev.step ((Ev.refl _).alloc _) hev6b) | exact Ev.step (Ev.step (((Ev.refl _).alloc _).drew) hev5b) hev6b))
        clear dd hE5b hev5b hr5b hn5b hev6b hown6b hr7 hE6b hE6a
        have hq := HQ.out
        go_wp2_with fail
        clear hq
        refine (sameI A6 A7 c6 c7 _ _ HR8.out HR7.out).mono ?_
        rintro e w8 ⟨rfl, hev⟩
        have HE8 := Lib.hid ((HE1.out.step HE2.out).step (HE7.out.step hev))
        clear hev
        go_wp2_with fail
        refine (awake_any w8 (HTT.out.ev HE8.out)).mono ?_
        rintro e w9 ⟨rfl, hev⟩
        have HE9 := Lib.hid (HE8.out.step hev)
        clear hev
        go_wp2_with fail
        go_ret
        exact ⟨rfl, HE9.out⟩
end Go.Proofs.YtdkfedbjbcaajaaDoor
