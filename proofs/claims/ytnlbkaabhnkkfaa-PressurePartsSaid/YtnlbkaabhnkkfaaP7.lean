import Derived.Test.YtnlbkaabhnkkfaaP6
namespace Go.Proofs.Ytnlbkaabhnkkfaa
open Go.RowKit
/-- The slice at A reads as the bools l. -/
def RdB (w : World) (A : Option Addr) (l : List Bool) : Prop :=
  l.length ≤ 9223372036854775807 ∧ ∀ j, j < l.length → ∃ b o, A = some ⟨b, o, none⟩ ∧ b < w.heap.size ∧ w.cell? ⟨b, o + j, none⟩ = some (.bool (l.getD j false))
theorem RdB.ev {w w' : World} {A : Option Addr} {l : List Bool} (h : RdB w A l) (e : Ev w w') : RdB w' A l := ⟨h.1, fun j hj => by
  obtain ⟨b, o, h1, h2, h3⟩ := h.2 j hj
  have := e.sz
  exact ⟨b, o, h1, by omega, by rw [e.cell (p := ⟨b, o + j, none⟩) h2]; exact h3⟩⟩
/-- The slice at A reads as the spans l. -/
def RdP (w : World) (A : Option Addr) (l : List (Int × Int)) : Prop :=
  l.length ≤ 9223372036854775807 ∧ ∀ j, j < l.length → ∃ b o, A = some ⟨b, o, none⟩ ∧ b < w.heap.size ∧ w.cell? ⟨b, o + j * 2, none⟩ = some (.int .i64 (l.getD j (0, 0)).1) ∧ w.cell? ⟨b, o + j * 2 + 1, none⟩ = some (.int .i64 (l.getD j (0, 0)).2)
theorem RdP.ev {w w' : World} {A : Option Addr} {l : List (Int × Int)} (h : RdP w A l) (e : Ev w w') : RdP w' A l := ⟨h.1, fun j hj => by
  obtain ⟨b, o, h1, h2, h3, h4⟩ := h.2 j hj
  have := e.sz
  exact ⟨b, o, h1, by omega, by rw [e.cell (p := ⟨b, o + j * 2, none⟩) h2]; exact h3, by rw [e.cell (p := ⟨b, o + j * 2 + 1, none⟩) h2]; exact h4⟩⟩
set_option maxHeartbeats 400000 in
theorem sameB (A B : Option Addr) (c d : Nat) (l : List Bool) (w : World) (hx : RdB w A l) (hy : RdB w B l) :
    Calls Try.prog 23 #[.slice A l.length c, .slice B l.length d] w fun e w' => e = .returned (.bool true) ∧ Ev w w' := by
  have hn := hx.1
  have hq : ((l.length : Int) != (l.length : Int)) = false := by simp
  go_enter Try.func23, Try.ntmps23
  go_wp2
  go_loopw [5] (fun i wr => ∃ k m : Nat, k ≤ l.length ∧ i = .int .i64 k ∧ wr = w.drewN m) (fun i _ => l.length - (intOf i).toNat)
  case atStart => exact ⟨0, 0, Nat.zero_le _, rfl, rfl⟩
  case round =>
    obtain ⟨k, m, hk, rfl, rfl⟩ := hrel
    by_cases hlt : k < l.length
    · obtain ⟨b, o, rfl, hb, c1⟩ := hx.2 k hlt
      obtain ⟨b', o', rfl, hb', c1'⟩ := hy.2 k hlt
      generalize l.getD k false = x at *
      have hlt' : (k : Int) < (l.length : Int) := by omega
      have hk0 : 0 ≤ (k : Int) := by omega
      clear hx hy
      go_wp2
      go_quiet (fail)
      go_wp2
      go_roundw
      case rel => exact ⟨k + 1, m + nq, by omega, by go_num, rfl⟩
      case measure => simp [intOf]; omega
    · obtain rfl : k = l.length := by omega
      go_wp2
      go_ret
      exact ⟨rfl, below_drewN (Below.refl _ _) _⟩
set_option maxHeartbeats 400000 in
theorem sameI (A B : Option Addr) (c d : Nat) (l : List Int) (w : World) (hx : RdI w A l) (hy : RdI w B l) :
    Calls Try.prog 27 #[.slice A l.length c, .slice B l.length d] w fun e w' => e = .returned (.bool true) ∧ Ev w w' := by
  have hn := hx.1
  have hq : ((l.length : Int) != (l.length : Int)) = false := by simp
  go_enter Try.func27, Try.ntmps27
  go_wp2
  go_loopw [5] (fun i wr => ∃ k m : Nat, k ≤ l.length ∧ i = .int .i64 k ∧ wr = w.drewN m) (fun i _ => l.length - (intOf i).toNat)
  case atStart => exact ⟨0, 0, Nat.zero_le _, rfl, rfl⟩
  case round =>
    obtain ⟨k, m, hk, rfl, rfl⟩ := hrel
    by_cases hlt : k < l.length
    · obtain ⟨b, o, rfl, hb, c1⟩ := hx.2 k hlt
      obtain ⟨b', o', rfl, hb', c1'⟩ := hy.2 k hlt
      generalize l.getD k 0 = x at *
      have hlt' : (k : Int) < (l.length : Int) := by omega
      have hk0 : 0 ≤ (k : Int) := by omega
      clear hx hy
      go_wp2
      go_quiet (fail)
      go_wp2
      go_roundw
      case rel => exact ⟨k + 1, m + nq, by omega, by go_num, rfl⟩
      case measure => simp [intOf]; omega
    · obtain rfl : k = l.length := by omega
      go_wp2
      go_ret
      exact ⟨rfl, below_drewN (Below.refl _ _) _⟩
set_option maxHeartbeats 400000 in
theorem sameP (A B : Option Addr) (c d : Nat) (l : List (Int × Int)) (w : World) (hx : RdP w A l) (hy : RdP w B l) :
    Calls Try.prog 24 #[.slice A l.length c, .slice B l.length d] w fun e w' => e = .returned (.bool true) ∧ Ev w w' := by
  have hn := hx.1
  have hq : ((l.length : Int) != (l.length : Int)) = false := by simp
  go_enter Try.func24, Try.ntmps24
  go_wp2
  go_loopw [5] (fun i wr => ∃ k m : Nat, k ≤ l.length ∧ i = .int .i64 k ∧ wr = w.drewN m) (fun i _ => l.length - (intOf i).toNat)
  case atStart => exact ⟨0, 0, Nat.zero_le _, rfl, rfl⟩
  case round =>
    obtain ⟨k, m, hk, rfl, rfl⟩ := hrel
    by_cases hlt : k < l.length
    · obtain ⟨b, o, rfl, hb, c1, d1⟩ := hx.2 k hlt
      obtain ⟨b', o', rfl, hb', c1', d1'⟩ := hy.2 k hlt
      generalize (l.getD k (0, 0)).1 = x at *
      generalize (l.getD k (0, 0)).2 = y at *
      have hlt' : (k : Int) < (l.length : Int) := by omega
      have hk0 : 0 ≤ (k : Int) := by omega
      clear hx hy
      go_wp2
      go_quiet (fail)
      go_wp2
      go_roundw
      case rel => exact ⟨k + 1, m + nq, by omega, by go_num, rfl⟩
      case measure => simp [intOf]; omega
    · obtain rfl : k = l.length := by omega
      go_wp2
      go_ret
      exact ⟨rfl, below_drewN (Below.refl _ _) _⟩
theorem marks_any (w : World) : Calls Try.prog 28 #[] w fun e w' => e = .returned (mk 2 5 9) ∧ Ev w w' := by
  go_enter Try.func28, Try.ntmps28
  go_wp2
  exact bodyPost_ret (v := mk 2 5 9) (by simp [results, Try.results28, go_sem]) rfl ⟨rfl, al1 _ _⟩
theorem lv_any (x v : Int) (w : World) (h1 : asE 2 5 9 [x] = 0) (h2 : lvV 2 5 9 x = v) : Calls Try.prog 29 #[.int .i64 x, .int .i64 v] w fun e w' => e = .returned (.bool true) ∧ Ev w w' := by
  have H : Hid (∀ W, Calls Try.prog 9 #[mk 2 5 9, .int .i64 x] W fun e w' => e = .returned (.tuple #[.int .i64 v, .int .i64 0]) ∧ Ev W w') := Lib.hid fun W => by
    have h := Level_any 2 5 9 x W
    have e : lqV 2 5 9 x = v := by unfold lqV; rw [if_pos h1]; exact h2
    rwa [e, h1] at h
  have HM := Lib.hid marks_any
  clear h1 h2
  go_enter Try.func29, Try.ntmps29
  go_wp2_with fail
  refine (HM.out _).mono ?_
  rintro e w1 ⟨rfl, hev1⟩
  go_wp2_with fail
  refine (H.out _).mono ?_
  rintro e w2 ⟨rfl, hev2⟩
  have hf := hev1.step hev2
  clear hev1 hev2
  go_wp2_with fail
  go_ret
  exact ⟨rfl, hf⟩
theorem nx_any (aw : Bool) (x : Int) (v : Bool) (w : World) (h1 : asE 2 5 9 [x] = 0) (h2 : nxV 5 9 aw x = v) : Calls Try.prog 30 #[.bool aw, .int .i64 x, .bool v] w fun e w' => e = .returned (.bool true) ∧ Ev w w' := by
  have H : Hid (∀ W, Calls Try.prog 13 #[mk 2 5 9, .bool aw, .int .i64 x] W fun e w' => e = .returned (.tuple #[.bool v, .int .i64 0]) ∧ Ev W w') := Lib.hid fun W => by
    have h := Next_any 2 5 9 x aw W
    have e : nqV 2 5 9 aw x = v := by unfold nqV; rw [if_pos h1]; exact h2
    rwa [e, h1] at h
  have HM := Lib.hid marks_any
  clear h1 h2
  go_enter Try.func30, Try.ntmps30
  go_wp2_with fail
  refine (HM.out _).mono ?_
  rintro e w1 ⟨rfl, hev1⟩
  go_wp2_with fail
  refine (H.out _).mono ?_
  rintro e w2 ⟨rfl, hev2⟩
  have hf := hev1.step hev2
  clear hev1 hev2
  go_wp2_with fail
  go_ret
  exact ⟨ret_b (by simp), hf⟩
theorem misses_any (aw : Bool) (x v : Int) (w : World) (h1 : asE 2 5 9 [x] = 0) (h2 : msV 2 5 9 aw x = v) : Calls Try.prog 31 #[.bool aw, .int .i64 x, .int .i64 v] w fun e w' => e = .returned (.bool true) ∧ Ev w w' := by
  have H : Hid (∀ W, Calls Try.prog 15 #[mk 2 5 9, .bool aw, .int .i64 x] W fun e w' => e = .returned (.tuple #[.int .i64 v, .int .i64 0]) ∧ Ev W w') := Lib.hid fun W => by
    have h := Missing_any 2 5 9 x aw W
    rwa [h2, h1] at h
  have HM := Lib.hid marks_any
  clear h1 h2
  go_enter Try.func31, Try.ntmps31
  go_wp2_with fail
  refine (HM.out _).mono ?_
  rintro e w1 ⟨rfl, hev1⟩
  go_wp2_with fail
  refine (H.out _).mono ?_
  rintro e w2 ⟨rfl, hev2⟩
  have hf := hev1.step hev2
  clear hev1 hev2
  go_wp2_with fail
  go_ret
  exact ⟨rfl, hf⟩
theorem tmod_lt (n m : Int) (h : 1 ≤ m) : -m < n.tmod m ∧ n.tmod m < m := by
  have h1 := Int.emod_nonneg n (show m ≠ 0 by omega)
  have h2 := Int.emod_lt_of_pos n (show 0 < m by omega)
  rw [Int.tmod_eq_emod]
  split <;> omega
theorem tmod_neg (n m : Int) (h : 1 ≤ m) : n.tmod m < 0 → n.tmod m + m = n % m := by
  have h1 := Int.emod_nonneg n (show m ≠ 0 by omega)
  have h2 := Int.emod_lt_of_pos n (show 0 < m by omega)
  rw [Int.tmod_eq_emod]
  split <;> omega
theorem tmod_pos (n m : Int) (h : 1 ≤ m) : 0 ≤ n.tmod m → n.tmod m = n % m := by
  have h2 := Int.emod_lt_of_pos n (show 0 < m by omega)
  rw [Int.tmod_eq_emod]
  split <;> omega
theorem mod_any (n m : Int) (w : World) (h1 : 1 ≤ m) (h2 : m ≤ 1099511627776) : Calls Try.prog 34 #[.int .i64 n, .int .i64 m] w fun e w' => e = .returned (.int .i64 (n % m)) ∧ w = w' := by
  obtain ⟨t1, t2⟩ := tmod_lt n m h1
  have t3 := Lib.hid (tmod_neg n m h1)
  have t4 := Lib.hid (tmod_pos n m h1)
  have t5 : IntKind.i64.wrap (n.tmod m) = n.tmod m := IntWalk.i64_in _ (by omega)
  have hm : (m == 0) = false := by simp; omega
  go_enter Try.func34, Try.ntmps34
  go_wp2
  · go_ret
    exact ⟨ret_i64 (t3.out (by omega)), rfl⟩
  · go_ret
    exact ⟨ret_i64 (t4.out (by omega)), rfl⟩
end Go.Proofs.Ytnlbkaabhnkkfaa
