import Derived.Test.YtjlgaddnibelfaaZ2
namespace Go.Proofs.Ytjlgaddnibelfaa
open Go.RowKit

theorem nxt0 {w w1 : World} {o : Obj} (hb : Below (w.alloc o).heap.size (w.alloc o) w1) : Below w.heap.size w w1 :=
  ((Below.refl _ _).alloc (Nat.le_refl _) _).trans (hb.mono (by simp))
theorem al1 (w : World) (o : Obj) : Below w.heap.size w (w.alloc o) := (Below.refl _ _).alloc (Nat.le_refl _) o
/-- What was there reads as it did. -/
theorem bc {B : Nat} {W w1 : World} (hb : Below B W w1) : (∀ b o, b < B → w1.cell? ⟨b, o, none⟩ = W.cell? ⟨b, o, none⟩) ∧ (∀ b o, b < B → w1.frozen? ⟨b, o, none⟩ = W.frozen? ⟨b, o, none⟩) :=
  ⟨fun b o h => hb.cell (p := ⟨b, o, none⟩) h, fun b o h => hb.frozen (p := ⟨b, o, none⟩) h⟩
/-- W is w0 with new blocks alone -/
def Ev (w0 W : World) : Prop := Below w0.heap.size w0 W
theorem Ev.refl (w0 : World) : Ev w0 w0 := Below.refl _ _
theorem Ev.drew {w0 W : World} (h : Ev w0 W) : Ev w0 W.drew := Below.drew h
theorem Ev.drewN {w0 W : World} (h : Ev w0 W) (n : Nat) : Ev w0 (W.drewN n) := below_drewN h n
theorem Ev.step {w0 W W' : World} (h : Ev w0 W) (hb : Below W.heap.size W W') : Ev w0 W' := Below.trans h (hb.mono (Below.size h))
theorem Ev.alloc {w0 W : World} (h : Ev w0 W) (o : Obj) : Ev w0 (W.alloc o) := h.step (al1 _ _)
theorem ev_call {P : Program} {f : FuncId} {args : Array Value} {w0 W : World} {v : Value} (h : Ev w0 W) (c : Calls P f args W fun e w' => e = .returned v ∧ Below W.heap.size W w') :
    Calls P f args W fun e w' => e = .returned v ∧ Ev w0 w' := c.mono fun _ _ hh => ⟨hh.1, h.step hh.2⟩
/-- the three cells of marks -/
def Box3 (a : World) (b : Nat) (x y z : Int) : Prop := a.cell? ⟨b, 0, none⟩ = some (.int .i64 x) ∧ a.cell? ⟨b, 1, none⟩ = some (.int .i64 y) ∧ a.cell? ⟨b, 2, none⟩ = some (.int .i64 z)
theorem Box3.ev {a W : World} {b : Nat} {x y z : Int} (h : Box3 a b x y z) (hb : b < a.heap.size) (e : Ev a W) : Box3 W b x y z := by
  obtain ⟨c, _⟩ := bc e
  exact ⟨(c _ _ hb).trans h.1, (c _ _ hb).trans h.2.1, (c _ _ hb).trans h.2.2⟩
/-- marks, as the model holds them -/
abbrev mk (mn lo hi : Int) : Value := .agg #[.int .i64 mn, .int .i64 lo, .int .i64 hi]
set_option maxHeartbeats 400000 in
theorem zcheck_any (mn lo hi fr : Int) (w : World) : Calls Try.prog 11 #[mk mn lo hi, .int .i64 fr] w fun e w' => e = .returned (.int .i64 (mkE mn lo hi fr)) ∧ Below w.heap.size w w' := by
  have H := Lib.hid (ascend_any)
  by_cases h : fr < 1 ∨ 256 < fr ∨ mn < 0 ∨ fr < hi
  · have e : mkE mn lo hi fr = 2 := by unfold mkE; rw [if_pos h]
    rw [e]
    go_enter Try.func11, Try.ntmps11
    go_wp2_with fail
    all_goals first | (exfalso; omega) | skip
    all_goals (go_ret; exact ⟨rfl, al1 _ _⟩)
  · have e : mkE mn lo hi fr = if mn < lo ∧ lo < hi then 0 else 8 := by unfold mkE; rw [if_neg h]
    rw [e]
    by_cases h2 : mn < lo ∧ lo < hi
    · rw [if_pos h2]
      have hd := decide_eq_true h2
      go_enter Try.func11, Try.ntmps11
      go_wp2_with (go_at_call 34; refine (H.out _ _ _ _).mono ?_; rintro e w' ⟨rfl, hb⟩)
      all_goals (go_ret; exact ⟨rfl, nxt0 hb⟩)
    · rw [if_neg h2]
      have hd := decide_eq_false h2
      go_enter Try.func11, Try.ntmps11
      go_wp2_with (go_at_call 34; refine (H.out _ _ _ _).mono ?_; rintro e w' ⟨rfl, hb⟩)
      all_goals (go_ret; exact ⟨rfl, nxt0 hb⟩)
theorem str_out (c : Int) (w : World) (h : c < 1 ∨ 3 < c) : Calls Try.prog 42 #[.int .i64 c] w fun e w' => e = .returned (.string ⟨#[]⟩) ∧ w = w' := by
  have h1 : (c == 1) = false := by simp; omega
  have h2 : (c == 2) = false := by simp; omega
  have h3 : (c == 3) = false := by simp; omega
  go_enter Try.func42, Try.ntmps42
  go_wp2
  go_ret
  exact ⟨rfl, rfl⟩
/-- the names of the classes -/
def clsS (c : Int) : ByteArray := if c = 1 then ⟨#[110, 111, 114, 109, 97, 108]⟩ else if c = 2 then ⟨#[114, 101, 115, 101, 114, 118, 101]⟩ else ⟨#[98, 97, 99, 107, 103, 114, 111, 117, 110, 100]⟩
theorem str_in (c : Int) (w : World) (h : 1 ≤ c ∧ c ≤ 3) : Calls Try.prog 42 #[.int .i64 c] w fun e w' => e = .returned (.string (clsS c)) ∧ w = w' := by
  rcases (show c = 1 ∨ c = 2 ∨ c = 3 by omega) with rfl | rfl | rfl
  all_goals
    go_enter Try.func42, Try.ntmps42
    go_wp2
    go_ret
    exact ⟨rfl, rfl⟩
theorem clsS_ne (c : Int) : (clsS c).toList.isEmpty = false := by
  unfold clsS
  split
  · decide +kernel
  · split <;> decide +kernel
set_option maxHeartbeats 400000 in
theorem zchk_any (mn lo hi c free n : Int) (w : World) : Calls Try.prog 35 #[mk mn lo hi, .int .i64 c, .int .i64 free, .int .i64 n] w fun e w' => e = .returned (.int .i64 (chkE mn lo hi c free n)) ∧ Below w.heap.size w w' := by
  have hC := zcheck_any mn lo hi 256
  by_cases h : mkE mn lo hi 256 = 0
  · rw [h] at hC
    have H := Lib.hid hC
    have HN := Lib.hid isCount_any
    by_cases hc : c < 1 ∨ 3 < c
    · have e : chkE mn lo hi c free n = 16 := by unfold chkE; rw [if_neg (by simp [h]), if_pos hc]
      have HS := Lib.hid fun W => str_out c W hc
      rw [e]
      clear hC h e
      go_enter Try.func35, Try.ntmps35
      go_wp2_with (first | (go_at_call 11; refine (H.out _).mono ?_; rintro e w' ⟨rfl, hb⟩; obtain ⟨hc1, hf1⟩ := bc hb) | (go_at_call 42; refine (HS.out _).mono ?_; rintro e w' ⟨rfl, rfl⟩))
      go_ret
      exact ⟨rfl, nxt0 hb⟩
    · have e : chkE mn lo hi c free n = if free < 0 ∨ 256 < free ∨ n < 0 ∨ 256 < n then 2 else 0 := by unfold chkE; rw [if_neg (by simp [h]), if_neg hc]
      have HS := Lib.hid fun W => str_in c W (by omega)
      rw [e]
      have hne := clsS_ne c
      have hne2 : (!(clsS c).toList.isEmpty) = true := by rw [hne]; rfl
      clear hC h e
      by_cases h1 : 0 ≤ free ∧ free ≤ 256
      · have d1 := decide_eq_true h1
        by_cases h2 : 0 ≤ n ∧ n ≤ 256
        · have d2 := decide_eq_true h2
          rw [if_neg (by omega)]
          clear hc
          go_enter Try.func35, Try.ntmps35
          go_wp2_with (first | (go_at_call 11; refine (H.out _).mono ?_; rintro e w' ⟨rfl, hb⟩; obtain ⟨hc1, hf1⟩ := bc hb) | (go_at_call 42; refine (HS.out _).mono ?_; rintro e w' ⟨rfl, rfl⟩) | (go_at_call 43; refine (HN.out _ _).mono ?_; rintro e w' ⟨rfl, rfl⟩))
          go_ret
          exact ⟨rfl, nxt0 hb⟩
        · have d2 := decide_eq_false h2
          rw [if_pos (by omega)]
          clear hc
          go_enter Try.func35, Try.ntmps35
          go_wp2_with (first | (go_at_call 11; refine (H.out _).mono ?_; rintro e w' ⟨rfl, hb⟩; obtain ⟨hc1, hf1⟩ := bc hb) | (go_at_call 42; refine (HS.out _).mono ?_; rintro e w' ⟨rfl, rfl⟩) | (go_at_call 43; refine (HN.out _ _).mono ?_; rintro e w' ⟨rfl, rfl⟩))
          go_ret
          exact ⟨rfl, nxt0 hb⟩
      · have d1 := decide_eq_false h1
        rw [if_pos (by omega)]
        clear hc
        go_enter Try.func35, Try.ntmps35
        go_wp2_with (first | (go_at_call 11; refine (H.out _).mono ?_; rintro e w' ⟨rfl, hb⟩; obtain ⟨hc1, hf1⟩ := bc hb) | (go_at_call 42; refine (HS.out _).mono ?_; rintro e w' ⟨rfl, rfl⟩) | (go_at_call 43; refine (HN.out _ _).mono ?_; rintro e w' ⟨rfl, rfl⟩))
        go_ret
        exact ⟨rfl, nxt0 hb⟩
  · have e : chkE mn lo hi c free n = mkE mn lo hi 256 := by unfold chkE; rw [if_pos h]
    have h0 : (mkE mn lo hi 256 != 0) = true := by simpa using h
    rw [e]
    have H := Lib.hid hC
    clear hC h e
    go_enter Try.func35, Try.ntmps35
    go_wp2_with (go_at_call 11; refine (H.out _).mono ?_; rintro e w' ⟨rfl, hb⟩; obtain ⟨hc1, hf1⟩ := bc hb)
    go_ret
    exact ⟨rfl, nxt0 hb⟩
end Go.Proofs.Ytjlgaddnibelfaa
