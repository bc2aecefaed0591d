import Derived.Test.YtkifcjjnpahdmaaDoorB5
namespace Go.Proofs.YtkifcjjnpahdmaaDoor
open Go.RowKit
open Go.Deep

theorem getD_ext {xs ys : List Nat} (hl : xs.length = ys.length) (h : ∀ j, j < xs.length → xs.getD j 0 = ys.getD j 0) : xs = ys := by
  apply List.ext_getElem hl
  intro j h1 h2
  have := h j h1
  simpa [h1, h2] using this
set_option maxHeartbeats 400000 in
theorem sameW_len (A B : Option Addr) (c d n m : Nat) (w : World) (hl : n ≠ m) (hn : n ≤ 4000000000) (hm : m ≤ 4000000000) :
    Calls Tryd.prog 42 #[.slice A n c, .slice B m d] w fun e w' => e = .returned (.bool false) ∧ Below w.heap.size w w' := by
  have hq : ((n : Int) != (m : Int)) = true := by simp; omega
  go_enter Tryd.func42, Tryd.ntmps42
  go_wp2
  go_ret
  exact ⟨rfl, Below.refl _ _⟩
set_option maxHeartbeats 400000 in
theorem sameW_eq (A B : Option Addr) (c d : Nat) (xs ys : List Nat) (w : World) (hx : Rd w A xs) (hy : Rd w B ys) (hl : xs.length = ys.length) :
    Calls Tryd.prog 42 #[.slice A xs.length c, .slice B xs.length d] w fun e w' => e = .returned (.bool (decide (xs = ys))) ∧ Below w.heap.size w w' := by
  have hq : ((xs.length : Int) != (xs.length : Int)) = false := by simp
  have hlen := hx.2.1
  obtain ⟨R, hR⟩ : ∃ R, R = decide (xs = ys) := ⟨_, rfl⟩
  rw [← hR]
  have HR := Lib.hid hR
  have HL := Lib.hid hl
  clear hR hl
  go_enter Tryd.func42, Tryd.ntmps42
  go_wp2
  go_loopw [5] (fun i wr => ∃ k m : Nat, k ≤ xs.length ∧ i = .int .i64 k ∧ (∀ j, j < k → xs.getD j 0 = ys.getD j 0) ∧ wr = w.drewN m) (fun i _ => xs.length - (intOf i).toNat)
  case atStart => exact ⟨0, 0, Nat.zero_le _, rfl, (fun j h => by omega), rfl⟩
  case round =>
    obtain ⟨k, m, hk, rfl, hno, rfl⟩ := hrel
    have HN := Lib.hid hno
    clear hno
    by_cases hlt : k < xs.length
    · obtain ⟨b, o, rfl, hb, hc⟩ := hx.2.2 k hlt
      obtain ⟨b2, o2, rfl, hb2, hc2⟩ := hy.2.2 k (by rw [← HL.out]; exact hlt)
      have hlt' : (k : Int) < (xs.length : Int) := by omega
      have hk0 : 0 ≤ (k : Int) := by omega
      by_cases he : xs.getD k 0 = ys.getD k 0
      · have hne : (((xs.getD k 0 : Nat) : Int) != ((ys.getD k 0 : Nat) : Int)) = false := by rw [he]; simp
        have HE := Lib.hid he
        clear he
        generalize xs.getD k 0 = x at hc hne
        generalize ys.getD k 0 = y at hc2 hne
        go_wp2
        go_quiet (fail)
        go_wp2
        go_roundw
        case rel => exact ⟨k + 1, m + nq, by omega, by go_num, (fun j hj => by
          by_cases e : j = k
          · subst e; exact HE.out
          · exact HN.out j (by omega)), rfl⟩
        case measure => simp [intOf]; omega
      · have hne : (((xs.getD k 0 : Nat) : Int) != ((ys.getD k 0 : Nat) : Int)) = true := by simp only [bne_iff_ne, ne_eq]; omega
        have hR : R = false := by
          rw [HR.out, decide_eq_false]
          intro e
          rw [e] at he
          exact he rfl
        have HF := Lib.hid hR
        clear he hR
        generalize xs.getD k 0 = x at *
        generalize ys.getD k 0 = y at *
        go_wp2
        go_quiet (fail)
        go_wp2
        go_ret
        exact ⟨by rw [HF.out]; rfl, below_drewN (below_drewN (Below.refl _ _) _) _⟩
    · obtain rfl : k = xs.length := by omega
      have hR : R = true := by
        rw [HR.out, decide_eq_true]
        exact getD_ext HL.out HN.out
      have HF := Lib.hid hR
      clear hR
      go_wp2
      go_ret
      exact ⟨by rw [HF.out]; rfl, below_drewN (Below.refl _ _) _⟩
theorem sameW_any (A B : Option Addr) (c d : Nat) (xs ys : List Nat) (w : World) (hx : Rd w A xs) (hy : Rd w B ys) :
    Calls Tryd.prog 42 #[.slice A xs.length c, .slice B ys.length d] w fun e w' => e = .returned (.bool (decide (xs = ys))) ∧ Below w.heap.size w w' := by
  by_cases hl : xs.length = ys.length
  · have := sameW_eq A B c d xs ys w hx hy hl
    rw [hl] at this
    rw [hl]
    exact this
  · have e : decide (xs = ys) = false := decide_eq_false (fun h => hl (by rw [h]))
    rw [e]
    exact sameW_len A B c d _ _ w hl hx.2.1 hy.2.1
set_option maxHeartbeats 400000 in
theorem sameB_ne (n m : Int) (A B : Option Addr) (c d i j : Nat) (w : World) (hl : (n == m) = false) :
    Calls Tryd.prog 16 #[.agg #[.int .i64 n, .slice A i c], .agg #[.int .i64 m, .slice B j d]] w fun e w' => e = .returned (.bool false) ∧ Below w.heap.size w w' := by
  go_enter Tryd.func16, Tryd.ntmps16
  go_wp2
  go_ret
  exact ⟨rfl, ((Below.refl _ _).alloc (Nat.le_refl _) _).alloc (by simp) _⟩
set_option maxHeartbeats 400000 in
theorem sameB_eq (n : Int) (A B : Option Addr) (c d : Nat) (xs ys : List Nat) (w : World) (hx : Rd w A xs) (hy : Rd w B ys) :
    Calls Tryd.prog 16 #[.agg #[.int .i64 n, .slice A xs.length c], .agg #[.int .i64 n, .slice B ys.length d]] w fun e w' => e = .returned (.bool (decide (xs = ys))) ∧ Below w.heap.size w w' := by
  have hc := sameW_any A B c d xs ys _ ((hx.alloc (.cells #[.int .i64 n, .slice A xs.length c] 24)).alloc (.cells #[.int .i64 n, .slice B ys.length d] 24)) ((hy.alloc (.cells #[.int .i64 n, .slice A xs.length c] 24)).alloc (.cells #[.int .i64 n, .slice B ys.length d] 24))
  have HC := Lib.hid hc
  have hn : (n == n) = true := by simp
  clear hc
  generalize decide (xs = ys) = R at *
  go_enter Tryd.func16, Tryd.ntmps16
  go_wp2_with fail
  refine HC.out.mono ?_
  rintro e w1 ⟨rfl, hb⟩
  go_wp2
  go_ret
  exact ⟨rfl, (((Below.refl _ _).alloc (Nat.le_refl _) _).alloc (by simp) _).trans (hb.mono (by simp <;> omega))⟩
theorem sameB_any (n m : Int) (A B : Option Addr) (c d : Nat) (xs ys : List Nat) (w : World) (hx : Rd w A xs) (hy : Rd w B ys) :
    Calls Tryd.prog 16 #[.agg #[.int .i64 n, .slice A xs.length c], .agg #[.int .i64 m, .slice B ys.length d]] w fun e w' => e = .returned (.bool (decide (n = m ∧ xs = ys))) ∧ Below w.heap.size w w' := by
  by_cases h : n = m
  · subst h
    have e : decide (n = n ∧ xs = ys) = decide (xs = ys) := by simp
    rw [e]
    exact sameB_eq n A B c d xs ys w hx hy
  · have e : decide (n = m ∧ xs = ys) = false := by simp [h]
    rw [e]
    exact sameB_ne n m A B c d _ _ w (by simpa using h)
end Go.Proofs.YtkifcjjnpahdmaaDoor
