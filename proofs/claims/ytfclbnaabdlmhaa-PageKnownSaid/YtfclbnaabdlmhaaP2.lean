import Derived.Test.YtfclbnaabdlmhaaP1
import Derived.IntWalk
namespace Go.Proofs.Ytfclbnaabdlmhaa
open Go.RowKit
abbrev pg (c : Nat → Nat) : Value := .agg #[.int .u64 (c 0 : Int), .int .u64 (c 1 : Int), .int .u64 (c 2 : Int), .int .u64 (c 3 : Int), .int .u64 (c 4 : Int), .int .u64 (c 5 : Int), .int .u64 (c 6 : Int), .int .u64 (c 7 : Int)]
abbrev pgO (c : Nat → Nat) : Obj := .cells #[.int .u64 (c 0 : Int), .int .u64 (c 1 : Int), .int .u64 (c 2 : Int), .int .u64 (c 3 : Int), .int .u64 (c 4 : Int), .int .u64 (c 5 : Int), .int .u64 (c 6 : Int), .int .u64 (c 7 : Int)] 24
def Pg (c : Nat → Nat) : Prop := ∀ k, c k < 18446744073709551616
theorem lt8 {P : Nat → Prop} (h0 : P 0) (h1 : P 1) (h2 : P 2) (h3 : P 3) (h4 : P 4) (h5 : P 5) (h6 : P 6) (h7 : P 7) : ∀ k, k < 8 → P k := fun k hk => by
  rcases (show k = 0 ∨ k = 1 ∨ k = 2 ∨ k = 3 ∨ k = 4 ∨ k = 5 ∨ k = 6 ∨ k = 7 by omega) with rfl | rfl | rfl | rfl | rfl | rfl | rfl | rfl <;> assumption
/-- a box with a page -/
def BP (W : World) (b : Nat) (c : Nat → Nat) : Prop := b < W.heap.size ∧ (∀ k, k < 8 → W.cell? ⟨b, k, none⟩ = some (.int .u64 (c k : Int))) ∧ ∀ k, W.frozen? ⟨b, k, none⟩ = false
theorem BP.new (w : World) (c : Nat → Nat) : BP (w.alloc (pgO c)) w.heap.size c := ⟨by simp, lt8 (by simp) (by simp) (by simp) (by simp) (by simp) (by simp) (by simp) (by simp), fun k => by simp⟩
theorem BP.ev {w W : World} {b : Nat} {c : Nat → Nat} (h : BP w b c) (e : Ev w W) : BP W b c := by
  obtain ⟨h0, h1, h2⟩ := h
  obtain ⟨p, q⟩ := bc e
  exact ⟨Nat.lt_of_lt_of_le h0 e.sz, fun k hk => by rw [p _ _ h0, h1 k hk], fun k => by rw [q _ _ h0, h2]⟩
theorem Ev.setC {w W : World} (h : Ev w W) {p : Addr} (hp : w.heap.size ≤ p.block) (v : Value) : Ev w (W.setCell p v) := Below.setCell h hp v
def inE (a n : Int) : Int := if 1 ≤ n ∧ n ≤ 8 ∧ 0 ≤ a ∧ a ≤ 64 - n then 0 else 2
theorem inside_yes (a n : Int) (w : World) (h : 1 ≤ n ∧ n ≤ 8 ∧ 0 ≤ a ∧ a ≤ 64 - n) : Calls Try.prog 35 #[.int .i64 a, .int .i64 n] w fun e w' => e = .returned (.bool true) ∧ w = w' := by
  obtain ⟨h1, h2, h3, h4⟩ := h
  go_enter Try.func35, Try.ntmps35
  go_wp2
  all_goals first | (exfalso; omega) | (go_ret; exact ⟨by simp [*], rfl⟩) | (go_ret; exact ⟨by simp; omega, rfl⟩)
theorem inside_no (a n : Int) (w : World) (h : ¬ (1 ≤ n ∧ n ≤ 8 ∧ 0 ≤ a ∧ a ≤ 64 - n)) : Calls Try.prog 35 #[.int .i64 a, .int .i64 n] w fun e w' => e = .returned (.bool false) ∧ w = w' := by
  by_cases h1 : 1 ≤ n
  · by_cases h2 : n ≤ 8
    · by_cases h3 : 0 ≤ a
      · have h4 : ¬ a ≤ 64 - n := by omega
        have h5 : 64 - n < a := by omega
        clear h
        go_enter Try.func35, Try.ntmps35
        go_wp2
        all_goals first | (exfalso; omega) | (go_ret; exact ⟨by simp [*], rfl⟩) | (go_ret; exact ⟨by simp; omega, rfl⟩)
      · clear h
        go_enter Try.func35, Try.ntmps35
        go_wp2
        all_goals first | (exfalso; omega) | (go_ret; exact ⟨by simp [*], rfl⟩) | (go_ret; exact ⟨by simp; omega, rfl⟩)
    · clear h
      go_enter Try.func35, Try.ntmps35
      go_wp2
      all_goals first | (exfalso; omega) | (go_ret; exact ⟨by simp [*], rfl⟩) | (go_ret; exact ⟨by simp; omega, rfl⟩)
  · clear h
    go_enter Try.func35, Try.ntmps35
    go_wp2
    all_goals first | (exfalso; omega) | (go_ret; exact ⟨by simp [*], rfl⟩) | (go_ret; exact ⟨by simp; omega, rfl⟩)
theorem rin_yes (a n : Int) (w : World) (h : 1 ≤ n ∧ n ≤ 8 ∧ 0 ≤ a ∧ a ≤ 64 - n) : Calls Try.prog 38 #[.int .i64 a, .int .i64 n] w fun e w' => e = .returned (.bool true) ∧ w = w' := by
  obtain ⟨h1, h2, h3, h4⟩ := h
  go_enter Try.func38, Try.ntmps38
  go_wp2
  all_goals first | (exfalso; omega) | (go_ret; exact ⟨by simp [*], rfl⟩) | (go_ret; exact ⟨by simp; omega, rfl⟩)
theorem rin_no (a n : Int) (w : World) (h : ¬ (1 ≤ n ∧ n ≤ 8 ∧ 0 ≤ a ∧ a ≤ 64 - n)) : Calls Try.prog 38 #[.int .i64 a, .int .i64 n] w fun e w' => e = .returned (.bool false) ∧ w = w' := by
  by_cases h1 : 1 ≤ n
  · by_cases h2 : n ≤ 8
    · by_cases h3 : 0 ≤ a
      · have h4 : ¬ a ≤ 64 - n := by omega
        have h5 : 64 - n < a := by omega
        clear h
        go_enter Try.func38, Try.ntmps38
        go_wp2
        all_goals first | (exfalso; omega) | (go_ret; exact ⟨by simp [*], rfl⟩) | (go_ret; exact ⟨by simp; omega, rfl⟩)
      · clear h
        go_enter Try.func38, Try.ntmps38
        go_wp2
        all_goals first | (exfalso; omega) | (go_ret; exact ⟨by simp [*], rfl⟩) | (go_ret; exact ⟨by simp; omega, rfl⟩)
    · clear h
      go_enter Try.func38, Try.ntmps38
      go_wp2
      all_goals first | (exfalso; omega) | (go_ret; exact ⟨by simp [*], rfl⟩) | (go_ret; exact ⟨by simp; omega, rfl⟩)
  · clear h
    go_enter Try.func38, Try.ntmps38
    go_wp2
    all_goals first | (exfalso; omega) | (go_ret; exact ⟨by simp [*], rfl⟩) | (go_ret; exact ⟨by simp; omega, rfl⟩)
def gtV (c : Nat → Nat) (word : Int) : Value := if 0 ≤ word ∧ word < 8 then .tuple #[.int .u64 (c word.toNat : Int), .int .i64 0] else .tuple #[.int .u64 0, .int .i64 2]
theorem get_any (c : Nat → Nat) (word : Int) (w : World) : Calls Try.prog 11 #[pg c, .int .i64 word] w fun e w' => e = .returned (gtV c word) ∧ Ev w w' := by
  have hE := Lib.hid (al1 w (pgO c))
  unfold gtV
  by_cases h : 0 ≤ word ∧ word < 8
  · rw [if_pos h]
    obtain ⟨k, rfl⟩ : ∃ k : Nat, word = (k : Int) := ⟨word.toNat, by omega⟩
    have hk : k < 8 := by omega
    have hc := (BP.new w c).2.1 k hk
    rw [Int.toNat_natCast]
    obtain ⟨h1, h2⟩ := h
    go_enter Try.func11, Try.ntmps11
    go_wp2
    go_ret2
    exact ⟨rfl, hE.out⟩
  · rw [if_neg h]
    by_cases h1 : word < 0
    · clear h
      go_enter Try.func11, Try.ntmps11
      go_wp2
      go_ret2
      exact ⟨rfl, hE.out⟩
    · have h2 : 8 ≤ word := by omega
      clear h
      go_enter Try.func11, Try.ntmps11
      go_wp2
      go_ret2
      exact ⟨rfl, hE.out⟩
def upd (c : Nat → Nat) (k v : Nat) : Nat → Nat := fun i => if i = k then v else c i
def ptV (c : Nat → Nat) (word : Int) (v : Nat) : Value := if 0 ≤ word ∧ word < 8 then .tuple #[pg (upd c word.toNat v), .int .i64 0] else .tuple #[pg (fun _ => 0), .int .i64 2]
set_option maxHeartbeats 1000000 in
theorem put_any (c : Nat → Nat) (word : Int) (v : Nat) (w : World) : Calls Try.prog 13 #[pg c, .int .i64 word, .int .u64 (v : Int)] w fun e w' => e = .returned (ptV c word v) ∧ Ev w w' := by
  unfold ptV
  by_cases h : 0 ≤ word ∧ word < 8
  · rw [if_pos h]
    have hr : word = 0 ∨ word = 1 ∨ word = 2 ∨ word = 3 ∨ word = 4 ∨ word = 5 ∨ word = 6 ∨ word = 7 := by omega
    clear h
    rcases hr with rfl | rfl | rfl | rfl | rfl | rfl | rfl | rfl
    all_goals
      go_enter Try.func13, Try.ntmps13
      go_wp2
      refine bodyPost_ret (v := .tuple #[pg (upd c _ v), .int .i64 0]) (by simp [results, Try.results13, go_sem, upd]) rfl ⟨rfl, ?_⟩
      exact ((Ev.refl _).alloc _).alloc _
  · rw [if_neg h]
    by_cases h1 : word < 0
    · clear h
      go_enter Try.func13, Try.ntmps13
      go_wp2
      refine bodyPost_ret (v := .tuple #[pg (fun _ => 0), .int .i64 2]) (by simp [results, Try.results13, go_sem]) rfl ⟨rfl, ?_⟩
      exact ((Ev.refl _).alloc _).alloc _
    · have h2 : 8 ≤ word := by omega
      clear h
      go_enter Try.func13, Try.ntmps13
      go_wp2
      refine bodyPost_ret (v := .tuple #[pg (fun _ => 0), .int .i64 2]) (by simp [results, Try.results13, go_sem]) rfl ⟨rfl, ?_⟩
      exact ((Ev.refl _).alloc _).alloc _
theorem rget_any (c : Nat → Nat) (word : Int) (w : World) : Calls Try.prog 12 #[pg c, .int .i64 word] w fun e w' => e = .returned (gtV c word) ∧ Ev w w' := by
  have hE := Lib.hid (al1 w (pgO c))
  unfold gtV
  by_cases h : 0 ≤ word ∧ word < 8
  · rw [if_pos h]
    obtain ⟨k, rfl⟩ : ∃ k : Nat, word = (k : Int) := ⟨word.toNat, by omega⟩
    have hk : k < 8 := by omega
    have hc := (BP.new w c).2.1 k hk
    rw [Int.toNat_natCast]
    obtain ⟨h1, h2⟩ := h
    go_enter Try.func12, Try.ntmps12
    go_wp2
    go_ret2
    exact ⟨rfl, hE.out⟩
  · rw [if_neg h]
    by_cases h1 : word < 0
    · clear h
      go_enter Try.func12, Try.ntmps12
      go_wp2
      go_ret2
      exact ⟨rfl, hE.out⟩
    · have h2 : 8 ≤ word := by omega
      clear h
      go_enter Try.func12, Try.ntmps12
      go_wp2
      go_ret2
      exact ⟨rfl, hE.out⟩
set_option maxHeartbeats 1000000 in
theorem rput_any (c : Nat → Nat) (word : Int) (v : Nat) (w : World) : Calls Try.prog 14 #[pg c, .int .i64 word, .int .u64 (v : Int)] w fun e w' => e = .returned (ptV c word v) ∧ Ev w w' := by
  unfold ptV
  by_cases h : 0 ≤ word ∧ word < 8
  · rw [if_pos h]
    have hr : word = 0 ∨ word = 1 ∨ word = 2 ∨ word = 3 ∨ word = 4 ∨ word = 5 ∨ word = 6 ∨ word = 7 := by omega
    clear h
    rcases hr with rfl | rfl | rfl | rfl | rfl | rfl | rfl | rfl
    all_goals
      go_enter Try.func14, Try.ntmps14
      go_wp2
      refine bodyPost_ret (v := .tuple #[pg (upd c _ v), .int .i64 0]) (by simp [results, Try.results14, go_sem, upd]) rfl ⟨rfl, ?_⟩
      exact ((Ev.refl _).alloc _).alloc _
  · rw [if_neg h]
    by_cases h1 : word < 0
    · clear h
      go_enter Try.func14, Try.ntmps14
      go_wp2
      refine bodyPost_ret (v := .tuple #[pg (fun _ => 0), .int .i64 2]) (by simp [results, Try.results14, go_sem]) rfl ⟨rfl, ?_⟩
      exact ((Ev.refl _).alloc _).alloc _
    · have h2 : 8 ≤ word := by omega
      clear h
      go_enter Try.func14, Try.ntmps14
      go_wp2
      refine bodyPost_ret (v := .tuple #[pg (fun _ => 0), .int .i64 2]) (by simp [results, Try.results14, go_sem]) rfl ⟨rfl, ?_⟩
      exact ((Ev.refl _).alloc _).alloc _
end Go.Proofs.Ytfclbnaabdlmhaa
