import Derived.Test.YtkneonfhikcdkaaDoorO8
namespace Go.Proofs.YtkneonfhikcdkaaDoor
open Go.RowKit

/-- The slice at A reads as n blocks, with the cells L. -/
def RdK (w : World) (A : Option Addr) (n : Nat) (L : List Value) : Prop :=
  ∀ j, j < n → ∃ b x y, A = some ⟨b, 0, none⟩ ∧ b < w.heap.size ∧ L[j * 2]? = some (.int .i64 x) ∧ L[j * 2 + 1]? = some (.int .i64 y) ∧ w.cell? ⟨b, j * 2, none⟩ = some (.int .i64 x) ∧ w.cell? ⟨b, j * 2 + 1, none⟩ = some (.int .i64 y)
theorem RdK.ev {w w' : World} {A : Option Addr} {n : Nat} {L : List Value} (h : RdK w A n L) (e : Ev w w') : RdK w' A n L := fun j hj => by
  obtain ⟨b, x, y, h1, h2, h3, h4, h5, h6⟩ := h j hj
  have := e.size
  exact ⟨b, x, y, h1, by omega, h3, h4, by rw [e.cell (p := ⟨b, j * 2, none⟩) h2]; exact h5, by rw [e.cell (p := ⟨b, j * 2 + 1, none⟩) h2]; exact h6⟩
set_option maxHeartbeats 400000 in
theorem b_any (x o : Int) (w : World) : Calls Tryd.prog 35 #[.int .i64 x, .int .i64 o] w fun e w' => e = .returned (bk x o) ∧ Ev w w' := by
  go_enter Tryd.func35, Tryd.ntmps35
  go_wp2_with fail
  exact bodyPost_ret (v := bk x o) (by simp [results, Tryd.results35, go_sem]) rfl ⟨rfl, (Ev.refl _).alloc _⟩
set_option maxHeartbeats 400000 in
theorem same_eq (A B : Option Addr) (c d n : Nat) (L : List Value) (w : World) (hx : RdK w A n L) (hy : RdK w B n L) (hn : n ≤ 1000) :
    Calls Tryd.prog 26 #[.slice A n c, .slice B n d] w fun e w' => e = .returned (.bool true) ∧ Ev w w' := by
  have hq : ((n : Int) != (n : Int)) = false := by simp
  go_enter Tryd.func26, Tryd.ntmps26
  go_wp2
  go_loopw [5] (fun i wr => ∃ k m : Nat, k ≤ n ∧ i = .int .i64 k ∧ wr = w.drewN m) (fun i _ => n - (intOf i).toNat)
  case atStart => exact ⟨0, 0, Nat.zero_le _, rfl, rfl⟩
  case round =>
    obtain ⟨k, m, hk, rfl, rfl⟩ := hrel
    by_cases hlt : k < n
    · obtain ⟨b, x, y, rfl, hb, l1, l2, c1, c2⟩ := hx k hlt
      obtain ⟨b', x', y', rfl, hb', l1', l2', c1', c2'⟩ := hy k hlt
      have e1 : x' = x := by rw [l1] at l1'; injection l1' with h; injection h with h1 h2; exact h2.symm
      have e2 : y' = y := by rw [l2] at l2'; injection l2' with h; injection h with h1 h2; exact h2.symm
      subst e1 e2
      have hlt' : (k : Int) < (n : Int) := by omega
      have hk0 : 0 ≤ (k : Int) := by omega
      clear l1 l2 l1' l2' hx hy
      go_wp2
      go_quiet (fail)
      go_wp2
      go_roundw
      case rel => exact ⟨k + 1, m + nq, by omega, by go_num, rfl⟩
      case measure => simp [intOf]; omega
    · obtain rfl : k = n := by omega
      go_wp2
      go_ret
      exact ⟨rfl, below_drewN (Below.refl _ _) _⟩
def IntL (xs : List Value) : Prop := ∀ v ∈ xs, ∃ x, v = .int .i64 x
theorem cutC_int (f : Nat) (a t : Int) : IntL (cutC f a t) := by
  induction f generalizing a with
  | zero => intro v hv; cases hv
  | succ f ih =>
    intro v hv
    unfold cutC at hv
    by_cases h : a < t
    · rw [if_pos h] at hv
      rcases List.mem_cons.1 hv with rfl | hv
      · exact ⟨_, rfl⟩
      · rcases List.mem_cons.1 hv with rfl | hv
        · exact ⟨_, rfl⟩
        · exact ih _ v hv
    · rw [if_neg h] at hv
      cases hv
theorem RdK.of_own {w : World} {base : Nat} {v : Value} {n : Nat} {xs : List Value} (h : w.ownsRow base 28 2 v n xs) (hi : IntL xs) : xs.length = n * 2 ∧ ∃ A cap, v = .slice A n cap ∧ RdK w A n xs := by
  have hl : xs.length = n * 2 := h.1
  refine ⟨hl, ?_⟩
  rcases h.2 with ⟨rfl, h0⟩ | ⟨g, cap, cur, rfl, hbg, hh, hn, hc, hs, ht⟩
  · subst h0
    exact ⟨none, 0, rfl, fun j hj => by omega⟩
  · refine ⟨some ⟨g, 0, none⟩, cap, rfl, fun j hj => ?_⟩
    obtain ⟨x, hx⟩ := hi xs[j * 2] (List.getElem_mem (by omega))
    obtain ⟨y, hy⟩ := hi xs[j * 2 + 1] (List.getElem_mem (by omega))
    have e1 : xs[j * 2]? = some (.int .i64 x) := by rw [List.getElem?_eq_getElem (by omega), hx]
    have e2 : xs[j * 2 + 1]? = some (.int .i64 y) := by rw [List.getElem?_eq_getElem (by omega), hy]
    refine ⟨g, x, y, rfl, ?_, e1, e2, ?_, ?_⟩
    · rcases Nat.lt_or_ge g w.heap.size with h1 | h1
      · exact h1
      · rw [Array.getElem?_eq_none h1] at hh; cases hh
    · have := h.cellAt (j * 2) (by omega)
      rw [e1] at this
      exact this
    · have := h.cellAt (j * 2 + 1) (by omega)
      rw [e2] at this
      exact this
theorem cut_known : cutC 256 3 13 = [.int .i64 3, .int .i64 0, .int .i64 4, .int .i64 2, .int .i64 8, .int .i64 2, .int .i64 12, .int .i64 0] := by rfl
theorem RdK.lit (X : World) : RdK (X.alloc (.cells #[.int .i64 3, .int .i64 0, .int .i64 4, .int .i64 2, .int .i64 8, .int .i64 2, .int .i64 12, .int .i64 0] 28)) (some ⟨X.heap.size, 0, none⟩) 4 (cutC 256 3 13) := by
  rw [cut_known]
  intro j hj
  rcases (show j = 0 ∨ j = 1 ∨ j = 2 ∨ j = 3 by omega) with rfl | rfl | rfl | rfl <;>
    exact ⟨X.heap.size, _, _, rfl, by simp, rfl, rfl, by simp, by simp⟩
theorem same_lit (w0 X W : World) (A : Option Addr) (c : Nat) (hr : RdK w0 A 4 (cutC 256 3 13)) (e : Ev w0 X) (hW : W = X.alloc (.cells #[.int .i64 3, .int .i64 0, .int .i64 4, .int .i64 2, .int .i64 8, .int .i64 2, .int .i64 12, .int .i64 0] 28)) :
    Calls Tryd.prog 26 #[.slice A 4 c, .slice (some ⟨X.heap.size, 0, none⟩) 4 4] W fun e w' => e = .returned (.bool true) ∧ Ev w0 w' := by
  subst hW
  exact evN (e.alloc _) (same_eq _ _ _ _ 4 _ _ (hr.ev (e.alloc _)) (RdK.lit X) (by omega))
set_option maxHeartbeats 2000000 in
theorem awake_any (w : World) (hT : Tab w) (h2 : 2 ≤ w.heap.size) : Calls Tryd.prog 17 #[] w fun e w' => e = .returned (.bool true) ∧ Ev w w' := by
  have HB : Hid (∀ x o W, Ev w W → Calls Tryd.prog 35 #[.int .i64 x, .int .i64 o] W fun e w' => e = .returned (bk x o) ∧ Ev w w') := Lib.hid fun x o W e => evN e (b_any x o W)
  have HBD : Hid (∀ W, Ev w W → Calls Tryd.prog 18 #[bk 16 2] W fun e w' => e = .returned (.tuple #[bk 20 2, .int .i64 0]) ∧ Ev w w') := Lib.hid fun W e => evN e (by have h := buddy_any 16 2 W; exact h)
  have HC : Hid (∀ W, Ev w W → Calls Tryd.prog 24 #[.int .i64 3, .int .i64 13] W fun e w' => ∃ A c, e = .returned (.tuple #[.slice A 4 c, .int .i64 0]) ∧ RdK w' A 4 (cutC 256 3 13) ∧ Ev W w') := Lib.hid fun W e =>
    (cut_any 3 13 W (hT.ev h2 e) (by have := e.sz; omega)).mono fun e w' hh => by
      obtain ⟨v, rfl, ⟨n, hn⟩, hev⟩ := hh
      obtain ⟨hl, A, c, rfl, hr⟩ := RdK.of_own hn (cutC_int _ _ _)
      have h4 : (cutC 256 3 13).length = 8 := by rw [cut_known]; rfl
      have hl' : (cutC 256 3 13).length = n * 2 := hl
      obtain rfl : n = 4 := by omega
      exact ⟨A, c, rfl, hr, hev⟩
  go_enter Tryd.func17, Tryd.ntmps17
  go_wp2_with fail
  refine (HB.out _ _ _ (Ev.refl _)).mono ?_
  rintro e w1 ⟨rfl, hev⟩
  go_wp2_with fail
  refine (HBD.out _ hev).mono ?_
  clear hev
  rintro e w2 ⟨rfl, hev⟩
  go_wp2_with fail
  have hbw := Bw2.new w2 20 2 28
  have hzz : w2.heap.size < (w2.alloc (.cells #[.int .i64 20, .int .i64 2] 28)).heap.size := by simp
  have hev2 := hev.alloc (.cells #[.int .i64 20, .int .i64 2] 28)
  clear hev
  generalize w2.alloc (.cells #[.int .i64 20, .int .i64 2] 28) = w3 at *
  refine (HC.out _ hev2).mono ?_
  rintro e w4 ⟨A, c, rfl, hr, hev⟩
  obtain ⟨⟨x0, x1⟩, -, -⟩ := hbw.ev hzz hev
  have hev4 := hev2.step hev
  have hz4 : w2.heap.size < w4.heap.size := by have := hev.sz; omega
  clear hev hev2 hbw hzz HC HBD
  go_wp2_with fail
  have HS : Hid (∀ W, Ev w4 W → (W.cell? ⟨w2.heap.size, 0, none⟩ = some (.int .i64 20) ∧ W.cell? ⟨w2.heap.size, 1, none⟩ = some (.int .i64 2)) ∧ Ev w4 W) := Lib.hid fun W e =>
    ⟨⟨by rw [e.cell (p := ⟨w2.heap.size, 0, none⟩) hz4]; exact x0, by rw [e.cell (p := ⟨w2.heap.size, 1, none⟩) hz4]; exact x1⟩, e⟩
  have H1 : Hid (∀ x o W, Ev w4 W → Calls Tryd.prog 35 #[.int .i64 x, .int .i64 o] W fun e w' => e = .returned (bk x o) ∧ Ev w4 w') := Lib.hid fun x o W e => evN e (b_any x o W)
  have H2 : Hid (∀ X W, Ev w4 X → W = X.alloc (.cells #[.int .i64 3, .int .i64 0, .int .i64 4, .int .i64 2, .int .i64 8, .int .i64 2, .int .i64 12, .int .i64 0] 28) → Calls Tryd.prog 26 #[.slice A 4 c, .slice (some ⟨X.heap.size, 0, none⟩) 4 4] W fun e w' => e = .returned (.bool true) ∧ Ev w4 w') := Lib.hid fun X W e hW => same_lit w4 X W A c hr e hW
  have HE := Lib.hid hev4
  clear hev4 hr HB x0 x1
  have hev := Ev.refl w4
  go_region_held3 (fun w' => (w'.cell? ⟨w2.heap.size, 0, none⟩ = some (.int .i64 20) ∧ w'.cell? ⟨w2.heap.size, 1, none⟩ = some (.int .i64 2)) ∧ Ev w4 w')
    (first | with_reducible exact HS.out _ (by with_reducible assumption) | with_reducible exact HS.out _ (Ev.drew (by with_reducible assumption)) | with_reducible exact HS.out _ (Ev.alloc (by with_reducible assumption) _) | with_reducible exact HS.out _ (Ev.alloc (Ev.drew (by with_reducible assumption)) _))
    (first | (go_at_call 35; refine (H1.out _ _ _ (by first | assumption | exact Ev.drew (by with_reducible assumption))).mono ?_; clear hev; rintro e w' ⟨rfl, hev⟩) | (go_at_call 26; ((with_reducible refine (H2.out _ _ (by first | assumption | exact Ev.drew (by with_reducible assumption)) rfl).mono ?_); clear hev; rintro e w' ⟨rfl, hev⟩)))
  go_wp2_with fail
  go_ret
  exact ⟨rfl, HE.out.step hev⟩
end Go.Proofs.YtkneonfhikcdkaaDoor
