import Derived.Test.YtkkmnpjkladhfaaDoorX6
namespace Go.Proofs.YtkkmnpjkladhfaaDoor
open Go.RowKit
theorem tmod_lt (n m : Int) (h : 1 ≤ m) : -m < n.tmod m ∧ n.tmod m < m := by
  have h1 := Int.emod_nonneg n (show m ≠ 0 by omega)
  have h2 := Int.emod_lt_of_pos n (show 0 < m by omega)
  rw [Int.tmod_eq_emod]
  split <;> omega
theorem tmod_neg (n m : Int) (h : 1 ≤ m) : n.tmod m < 0 → n.tmod m + m = n % m := by
  have h1 := Int.emod_nonneg n (show m ≠ 0 by omega)
  have h2 := Int.emod_lt_of_pos n (show 0 < m by omega)
  rw [Int.tmod_eq_emod]
  split <;> omega
theorem tmod_pos (n m : Int) (h : 1 ≤ m) : 0 ≤ n.tmod m → n.tmod m = n % m := by
  have h2 := Int.emod_lt_of_pos n (show 0 < m by omega)
  rw [Int.tmod_eq_emod]
  split <;> omega
theorem mod_any (n m : Int) (w : World) (h1 : 1 ≤ m) (h2 : m ≤ 1099511627776) : Calls Tryd.prog 45 #[.int .i64 n, .int .i64 m] w fun e w' => e = .returned (.int .i64 (n % m)) ∧ w = w' := by
  obtain ⟨t1, t2⟩ := tmod_lt n m h1
  have t3 := Lib.hid (tmod_neg n m h1)
  have t4 := Lib.hid (tmod_pos n m h1)
  have t5 : IntKind.i64.wrap (n.tmod m) = n.tmod m := IntWalk.i64_in _ (by omega)
  have hm : (m == 0) = false := by simp; omega
  go_enter Tryd.func45, Tryd.ntmps45
  go_wp2
  · go_ret
    exact ⟨ret_i64 (t3.out (by omega)), rfl⟩
  · go_ret
    exact ⟨ret_i64 (t4.out (by omega)), rfl⟩
theorem next_ok (s r c k p : Int) (w : World) : Calls Tryd.prog 10 #[wt s r c, ev k p] w fun e w' => ∃ s' r' c' ee, e = .returned (.tuple #[wt s' r' c', .int .i64 ee]) ∧ (ee = 0 → oChk s' r' c' = 0) ∧ Ev w w' := by
  refine (next_any s r c k p w).mono fun e w' hh => ⟨_, _, _, _, hh.1, fun h => ?_, hh.2⟩
  unfold nxS nxR nxC
  rw [if_pos h, if_pos h, if_pos h]
  exact nx_valid h
theorem st6 {w w5 : World} {b6 b4 : Nat} {s r c x y z : Int} (hx : Bx3 w5 b6 s r c) (hy : Bx3 w5 b4 x y z) (e : Ev w w5) (h5 : b6 < w5.heap.size) (h : b4 < b6) (s' r' c' : Int) (hle : w.heap.size ≤ b6 := by omega) :
    Bx3 ((((w5.setCell ⟨b6, 0, none⟩ (.int .i64 s')).setCell ⟨b6, 1, none⟩ (.int .i64 r')).setCell ⟨b6, 2, none⟩ (.int .i64 c')).alloc (.cells #[.int .i64 s', .int .i64 r', .int .i64 c'] 23)) b6 s' r' c' ∧
    Bx3 ((((w5.setCell ⟨b6, 0, none⟩ (.int .i64 s')).setCell ⟨b6, 1, none⟩ (.int .i64 r')).setCell ⟨b6, 2, none⟩ (.int .i64 c')).alloc (.cells #[.int .i64 s', .int .i64 r', .int .i64 c'] 23)) b4 x y z ∧
    Ev w ((((w5.setCell ⟨b6, 0, none⟩ (.int .i64 s')).setCell ⟨b6, 1, none⟩ (.int .i64 r')).setCell ⟨b6, 2, none⟩ (.int .i64 c')).alloc (.cells #[.int .i64 s', .int .i64 r', .int .i64 c'] 23)) ∧
    b6 < ((((w5.setCell ⟨b6, 0, none⟩ (.int .i64 s')).setCell ⟨b6, 1, none⟩ (.int .i64 r')).setCell ⟨b6, 2, none⟩ (.int .i64 c')).alloc (.cells #[.int .i64 s', .int .i64 r', .int .i64 c'] 23)).heap.size :=
  ⟨(hx.setC s' r' c').ev (by simpa using h5) ((Ev.refl _).alloc _), (hy.setO (by omega)).ev (by simp; omega) ((Ev.refl _).alloc _), (((e.setC hle _).setC hle _).setC hle _).alloc _, by simp; omega⟩
set_option maxHeartbeats 4000000 in
theorem made_any (n : Int) (A : Option Addr) (cap : Nat) (l : List Int) (w : World) (hr : RdI w A l) (_hn : ∀ x ∈ l, -9223372036854775808 ≤ x ∧ x ≤ 9223372036854775807) : Calls Tryd.prog 32 #[.int .i64 n, .slice A l.length cap] w fun e w' => ∃ s r c, e = .returned (.tuple #[wt s r c, .bool true]) ∧ oChk s r c = 0 ∧ Ev w w' := by
  have hm5 : 0 ≤ n % 5 ∧ n % 5 < 5 := ⟨Int.emod_nonneg _ (by omega), Int.emod_lt_of_pos _ (by omega)⟩
  have M1 := Lib.hid fun W => mod_any n 5 W (by omega) (by omega)
  have M2 := Lib.hid fun x W => mod_any x 6 W (by omega) (by omega)
  have M3 := Lib.hid fun x W => mod_any x 8 W (by omega) (by omega)
  have hl := hr.1
  have HR : Hid (∀ W, Ev w W → RdI W A l) := Lib.hid fun W e => hr.ev e
  generalize n % 5 = n5 at *
  have HB := Lib.hid fun W => begin_ok (1 + n5) W (by omega) (by omega)
  have HN := Lib.hid next_ok
  have HC : Hid (∀ s r c W, oChk s r c = 0 → Calls Tryd.prog 14 #[wt s r c] W fun e w' => e = .returned (.int .i64 0) ∧ Ev W w') := Lib.hid fun s r c W h => (check_any s r c W).mono fun e w' hh => ⟨by rw [hh.1, h], hh.2⟩
  have _hn0 := Lib.hid _hn
  clear hr _hn
  go_enter Tryd.func32, Tryd.ntmps32
  go_wp2_with fail
  refine (M1.out _).mono ?_
  rintro e w' ⟨rfl, rfl⟩
  go_wp2_with fail
  refine (HB.out _).mono ?_
  rintro e w2 ⟨rfl, hev⟩
  have hs0 : w.heap.size < w2.heap.size := by have := hev.sz; simp at this; omega
  have HX0 : Hid (Bx3 (w2.alloc (.cells #[.int .i64 1, .int .i64 (1 + n5), .int .i64 0] 23)) w2.heap.size 1 (1 + n5) 0) := Lib.hid (Bx3.new _ _ _ _ _)
  have HY0 : Hid (Bx3 (w2.alloc (.cells #[.int .i64 1, .int .i64 (1 + n5), .int .i64 0] 23)) w.heap.size 0 0 0) := Lib.hid ((Bx3.new w 0 0 0 23).ev (by simp) (hev.alloc _))
  have HE0 : Hid (Ev w (w2.alloc (.cells #[.int .i64 1, .int .i64 (1 + n5), .int .i64 0] 23))) := Lib.hid ((((Ev.refl w).alloc _).step hev).alloc _)
  have hok0 : oChk 1 (1 + n5) 0 = 0 := oChk_of (by omega)
  clear hev
  go_wp2_with fail
  go_loopw [8] (fun i wr => ∃ (j : Nat) (s r c : Int), j ≤ l.length ∧ j ≤ 40 ∧ i = .int .i64 j ∧ oChk s r c = 0 ∧ Bx3 wr w2.heap.size s r c ∧ Bx3 wr w.heap.size 0 0 0 ∧ Ev w wr ∧ w2.heap.size < wr.heap.size) (fun i _ => l.length - (intOf i).toNat)
  case atStart => exact ⟨0, _, _, _, Nat.zero_le _, by omega, rfl, hok0, HX0.out, HY0.out, HE0.out, by simp⟩
  case round =>
    clear HX0 HY0 HE0 hok0
    obtain ⟨j, s, r, c, hj, hj40, rfl, hok, hx, hy, hev, hz⟩ := hrel
    have HX := Lib.hid hx
    have HY := Lib.hid hy
    have HEV := Lib.hid hev
    by_cases hlt : j < l.length ∧ j < 40
    · obtain ⟨hlt, hl40⟩ := hlt
      obtain ⟨b, o, rfl, hb, k1⟩ := (HR.out _ hev).2 j hlt
      have HMEM := Lib.hid (show l.getD j 0 ∈ l by simp [List.getD, hlt])
      generalize l.getD j 0 = x at *
      have hm6 : 0 ≤ x % 6 ∧ x % 6 < 6 := ⟨Int.emod_nonneg _ (by omega), Int.emod_lt_of_pos _ (by omega)⟩
      have hlt' : (j : Int) < (l.length : Int) := by omega
      have hj0 : 0 ≤ (j : Int) := by omega
      have hl40' : (j : Int) < 40 := by omega
      have M2 := Lib.hid fun W => M2.out x W
      generalize x % 6 = x6 at *
      have M3 := Lib.hid fun W => M3.out (x.tdiv 6) W
      have hm8 : 0 ≤ x.tdiv 6 % 8 ∧ x.tdiv 6 % 8 < 8 := ⟨Int.emod_nonneg _ (by omega), Int.emod_lt_of_pos _ (by omega)⟩
      have hxb := _hn0.out x (HMEM.out)
      have q2 : IntKind.i64.wrap (x.tdiv 6) = x.tdiv 6 := IntWalk.i64_in _ (by have s6 : Int.sign 6 = 1 := rfl; have := Int.tdiv_eq_ediv (a := x) (b := 6); split at this <;> omega)
      generalize x.tdiv 6 % 8 = x8 at *
      have hw2 : w2.heap.size ≠ w.heap.size := by omega
      clear hx hy hev hxb
      by_cases h4 : x6 = 3
      · subst h4
        go_wp2_with fail
        refine (M2.out _).mono ?_
        rintro e w' ⟨rfl, rfl⟩
        go_wp2_with fail
        refine (ev_any _ _).mono ?_
        rintro e w4 ⟨rfl, hev4⟩
        have k2 : w4.cell? ⟨b, o + j, none⟩ = some (.int .i64 x) := by rw [Ev.cell hev4 (p := ⟨b, o + j, none⟩) hb]; exact k1
        have hb4 : b < w4.heap.size := Nat.lt_of_lt_of_le hb hev4.sz
        obtain ⟨⟨a0, a1, a2⟩, f0, f1, f2⟩ := HX.out.ev hz hev4
        have hz4 : w2.heap.size < w4.heap.size := Nat.lt_of_lt_of_le hz hev4.sz
        go_wp2_with fail
        refine (M3.out _).mono ?_
        rintro e w' ⟨rfl, rfl⟩
        go_wp2_with fail
        refine (HN.out _ _ _ _ _ _).mono ?_
        rintro e w5 ⟨s', r', c', ee, rfl, hok', hev5⟩
        have HE5 := Lib.hid ((hev4.alloc _).step hev5)
        have HX5 := Lib.hid (HX.out.ev hz HE5.out)
        have HY5 := Lib.hid (HY.out.ev (by omega) HE5.out)
        have hz5 : w2.heap.size < w5.heap.size := Nat.lt_of_lt_of_le hz HE5.out.sz
        have HEW := Lib.hid (HEV.out.step HE5.out)
        clear hev5 hev4 k1 k2 hb4 a0 a1 a2 f0 f1 f2 hz4
        by_cases hee : ee = 0
        · subst hee
          obtain ⟨⟨a0, a1, a2⟩, f0, f1, f2⟩ := HX5.out
          have hok2 := hok' rfl
          go_wp2_with fail
          refine (HC.out _ _ _ _ hok2).mono ?_
          rintro e w6 ⟨rfl, hev6⟩
          obtain ⟨q1, q2, q3, q4⟩ := st6 HX5.out HY5.out HEW.out hz5 hs0 s' r' c'
          have HX6 := Lib.hid (q1.ev q4 hev6)
          have HY6 := Lib.hid (q2.ev (by omega) hev6)
          have HE6 := Lib.hid (q3.step hev6)
          have hz6 : w2.heap.size < w6.heap.size := Nat.lt_of_lt_of_le q4 hev6.sz
          clear q1 q2 q3 q4 hev6 a0 a1 a2 f0 f1 f2
          go_wp2_with fail
          go_roundw
          case rel => exact ⟨j + 1, s', r', c', by omega, by omega, by go_num, hok2, HX6.out, HY6.out, HE6.out, hz6⟩
          case measure => simp [intOf]; omega
        · have hee' : (ee == 0) = false := by simpa using hee
          obtain ⟨⟨a0, a1, a2⟩, f0, f1, f2⟩ := HX5.out
          go_wp2_with fail
          refine (HC.out _ _ _ _ hok).mono ?_
          rintro e w6 ⟨rfl, hev6⟩
          have HX6 := Lib.hid ((HX5.out.ev hz5 ((Ev.refl _).alloc _)).ev (by simp; omega) hev6)
          have HY6 := Lib.hid ((HY5.out.ev (by omega) ((Ev.refl _).alloc _)).ev (by simp; omega) hev6)
          have HE6 := Lib.hid ((HEW.out.alloc _).step hev6)
          have hz6 : w2.heap.size < w6.heap.size := by have := hev6.sz; simp at this; omega
          clear hev6 a0 a1 a2 f0 f1 f2
          go_wp2_with fail
          go_roundw
          case rel => exact ⟨j + 1, s, r, c, by omega, by omega, by go_num, hok, HX6.out, HY6.out, HE6.out, hz6⟩
          case measure => simp [intOf]; omega
      · have h4' : ¬ 1 + x6 = 4 := by omega
        go_wp2_with fail
        refine (M2.out _).mono ?_
        rintro e w' ⟨rfl, rfl⟩
        go_wp2_with fail
        refine (ev_any _ _).mono ?_
        rintro e w4 ⟨rfl, hev4⟩
        obtain ⟨⟨a0, a1, a2⟩, f0, f1, f2⟩ := HX.out.ev hz hev4
        have hz4 : w2.heap.size < w4.heap.size := Nat.lt_of_lt_of_le hz hev4.sz
        go_wp2_with fail
        refine (HN.out _ _ _ _ _ _).mono ?_
        rintro e w5 ⟨s', r', c', ee, rfl, hok', hev5⟩
        have HE5 := Lib.hid ((hev4.alloc _).step hev5)
        have HX5 := Lib.hid (HX.out.ev hz HE5.out)
        have HY5 := Lib.hid (HY.out.ev (by omega) HE5.out)
        have hz5 : w2.heap.size < w5.heap.size := Nat.lt_of_lt_of_le hz HE5.out.sz
        have HEW := Lib.hid (HEV.out.step HE5.out)
        clear hev5 hev4 a0 a1 a2 f0 f1 f2 hz4
        by_cases hee : ee = 0
        · subst hee
          obtain ⟨⟨a0, a1, a2⟩, f0, f1, f2⟩ := HX5.out
          have hok2 := hok' rfl
          go_wp2_with fail
          refine (HC.out _ _ _ _ hok2).mono ?_
          rintro e w6 ⟨rfl, hev6⟩
          obtain ⟨q1, q2, q3, q4⟩ := st6 HX5.out HY5.out HEW.out hz5 hs0 s' r' c'
          have HX6 := Lib.hid (q1.ev q4 hev6)
          have HY6 := Lib.hid (q2.ev (by omega) hev6)
          have HE6 := Lib.hid (q3.step hev6)
          have hz6 : w2.heap.size < w6.heap.size := Nat.lt_of_lt_of_le q4 hev6.sz
          clear q1 q2 q3 q4 hev6 a0 a1 a2 f0 f1 f2
          go_wp2_with fail
          go_roundw
          case rel => exact ⟨j + 1, s', r', c', by omega, by omega, by go_num, hok2, HX6.out, HY6.out, HE6.out, hz6⟩
          case measure => simp [intOf]; omega
        · have hee' : (ee == 0) = false := by simpa using hee
          obtain ⟨⟨a0, a1, a2⟩, f0, f1, f2⟩ := HX5.out
          go_wp2_with fail
          refine (HC.out _ _ _ _ hok).mono ?_
          rintro e w6 ⟨rfl, hev6⟩
          have HX6 := Lib.hid ((HX5.out.ev hz5 ((Ev.refl _).alloc _)).ev (by simp; omega) hev6)
          have HY6 := Lib.hid ((HY5.out.ev (by omega) ((Ev.refl _).alloc _)).ev (by simp; omega) hev6)
          have HE6 := Lib.hid ((HEW.out.alloc _).step hev6)
          have hz6 : w2.heap.size < w6.heap.size := by have := hev6.sz; simp at this; omega
          clear hev6 a0 a1 a2 f0 f1 f2
          go_wp2_with fail
          go_roundw
          case rel => exact ⟨j + 1, s, r, c, by omega, by omega, by go_num, hok, HX6.out, HY6.out, HE6.out, hz6⟩
          case measure => simp [intOf]; omega
    · have hg : (j : Int) < (l.length : Int) → (j : Int) < 40 → False := by omega
      obtain ⟨⟨a0, a1, a2⟩, f0, f1, f2⟩ := hx
      obtain ⟨⟨b0, b1, b2⟩, g0, g1, g2⟩ := hy
      have l3 : w.heap.size < wr.heap.size := by omega
      have hok3 := Lib.hid hok
      have hsplit : (j : Int) = l.length ∨ ((j : Int) < l.length ∧ (j : Int) = 40) := by omega
      rcases hsplit with h1 | ⟨h1, h2⟩
      all_goals
        go_wp2_with fail
        refine bodyPost_ret (v := .tuple #[wt s r c, .bool true]) (by simp [results, Tryd.results32, go_sem, b0, b1, b2]) rfl ⟨_, _, _, rfl, hok3.out, ?_⟩
        exact ((HEV.out.setC (by simp only []; omega) _).setC (by simp only []; omega) _).setC (by simp only []; omega) _
end Go.Proofs.YtkkmnpjkladhfaaDoor
