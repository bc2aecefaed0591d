import Derived.Test.YtfclbnaabdlmhaaP4
namespace Go.Proofs.Ytfclbnaabdlmhaa
open Go.RowKit
theorem IsB.cell {X : Array Value} {b : Nat → Nat} (h : IsB X b) (w : World) {i : Nat} (hi : i < 64) : (w.alloc (.cells X 59)).cell? ⟨w.heap.size, i, none⟩ = some (.int .u8 (b i : Int)) := by
  have := cell_of_row (w.alloc (.cells X 59)) w.heap.size i X 59 (0, 0) (heap_alloc_new w _)
  rw [this]; exact h.2 i hi
set_option maxHeartbeats 2000000 in
theorem number_any (X : Array Value) (b : Nat → Nat) (a n : Nat) (w : World) (hX : IsB X b) (hb : B8 b) (hn : n ≤ 8) (ha : a + n ≤ 64) :
    Calls Try.prog 36 #[.agg X, .int .i64 (a : Int), .int .i64 (n : Int)] w fun e w' => e = .returned (.int .u64 (num b a n : Int)) ∧ Ev w w' := by
  have HX := Lib.hid hX
  have HB := Lib.hid hb
  clear hX hb
  go_enter Try.func36, Try.ntmps36
  go_wp2
  go_loopw [7, 10] (fun v i wr => ∃ k : Nat, k ≤ n ∧ i = .int .i64 k ∧ v = .int .u64 (num b a k : Int) ∧ wr = w.alloc (.cells X 59)) (fun _ i _ => n - (intOf i).toNat)
  case atStart => exact ⟨0, by omega, rfl, rfl, rfl⟩
  case round =>
    obtain ⟨k, hk, rfl, rfl, rfl⟩ := hrel
    by_cases hlt : k < n
    · have hc := HX.out.cell w (i := a + k) (by omega)
      have hlt' : (k : Int) < n := by omega
      go_wp2
      go_roundw
      case rel => exact ⟨k + 1, by omega, by go_num, by rw [num_or HB.out a k (by omega)], trivial⟩
      case measure => simp [intOf]; omega
    · obtain rfl : k = n := by omega
      go_wp2
      go_ret
      exact ⟨rfl, (Ev.refl _).alloc _⟩
def byV (c : Nat → Nat) (a n : Int) : Int := if inE a n = 0 then (num (byt c) a.toNat n.toNat : Int) else 0
theorem inE_cases (a n : Int) : (inE a n = 0 ∧ 1 ≤ n ∧ n ≤ 8 ∧ 0 ≤ a ∧ a ≤ 64 - n) ∨ (inE a n = 2 ∧ ¬ (1 ≤ n ∧ n ≤ 8 ∧ 0 ≤ a ∧ a ≤ 64 - n)) := by unfold inE; split <;> simp_all
theorem bytes_any (c : Nat → Nat) (a n : Int) (w : World) : Calls Try.prog 16 #[pg c, .int .i64 a, .int .i64 n] w fun e w' => e = .returned (.tuple #[.int .u64 (byV c a n), .int .i64 (inE a n)]) ∧ Ev w w' := by
  have hE := Lib.hid ((Ev.refl w).alloc (pgO c))
  unfold byV
  rcases inE_cases a n with ⟨h, hh⟩ | ⟨h, hh⟩
  · rw [h, if_pos rfl]
    have H1 := Lib.hid fun W => inside_yes a n W hh
    obtain ⟨p, rfl⟩ : ∃ k : Nat, a = (k : Int) := ⟨a.toNat, by omega⟩
    obtain ⟨q, rfl⟩ : ∃ k : Nat, n = (k : Int) := ⟨n.toNat, by omega⟩
    have H2 := Lib.hid fun X W h => number_any X (byt c) p q W h (byt_lt c) (by omega) (by omega)
    rw [Int.toNat_natCast, Int.toNat_natCast]
    clear h hh
    go_enter Try.func16, Try.ntmps16
    go_wp2_with fail
    refine (H1.out _).mono ?_
    rintro e w1 ⟨rfl, rfl⟩
    go_wp2_with fail
    refine (cut_any c _).mono ?_
    rintro e w2 ⟨X, rfl, hX, hev⟩
    go_wp2_with fail
    refine (H2.out X _ hX).mono ?_
    rintro e w3 ⟨rfl, hev2⟩
    go_wp2_with fail
    go_ret2
    exact ⟨rfl, (hE.out.step hev).step hev2⟩
  · rw [h, if_neg (by decide)]
    have H1 := Lib.hid fun W => inside_no a n W hh
    clear h hh
    go_enter Try.func16, Try.ntmps16
    go_wp2_with fail
    refine (H1.out _).mono ?_
    rintro e w1 ⟨rfl, rfl⟩
    go_wp2_with fail
    go_ret2
    exact ⟨rfl, hE.out⟩
/-- the reference's byte -/
theorem one_any (c : Nat → Nat) (i : Nat) (w : World) (hP : Pg c) (hi : i < 64) : Calls Try.prog 39 #[pg c, .int .i64 (i : Int)] w fun e w' => e = .returned (.int .u64 (byt c i : Int)) ∧ Ev w w' := by
  have hc := (BP.new w c).2.1 (i / 8) (by omega)
  go_enter Try.func39, Try.ntmps39
  go_wp2
  go_loopw [5, 6] (fun v j wr => ∃ k : Nat, k ≤ i % 8 ∧ j = .int .i64 k ∧ v = .int .u64 ((c (i / 8) / 256 ^ k : Nat) : Int) ∧ wr = w.alloc (pgO c)) (fun _ j _ => i % 8 - (intOf j).toNat)
  case atStart => exact ⟨0, by omega, rfl, by simp, rfl⟩
  case round =>
    obtain ⟨k, hk, rfl, rfl, rfl⟩ := hrel
    clear hc
    by_cases hlt : k < i % 8
    · have hlt' : (k : Int) < (i : Int) % 8 := by omega
      have HD : Hid (((c (i / 8) / 256 ^ k : Nat) : Int) / 256 = ((c (i / 8) / 256 ^ (k + 1) : Nat) : Int)) := by
        refine Lib.hid ?_
        rw [Nat.pow_succ, ← Nat.div_div_eq_div_mul]; rfl
      have hx : c (i / 8) / 256 ^ k < 18446744073709551616 := Nat.lt_of_le_of_lt (Nat.div_le_self _ _) (hP _)
      clear hP
      generalize c (i / 8) / 256 ^ k = x at *
      go_wp2
      go_roundw
      case rel => exact ⟨k + 1, by omega, by go_num, by rw [HD.out], trivial⟩
      case measure => simp [intOf]; omega
    · obtain rfl : k = i % 8 := by omega
      have HD : Hid (byt c i = c (i / 8) / 256 ^ (i % 8) % 256) := Lib.hid rfl
      have hx : c (i / 8) / 256 ^ (i % 8) < 18446744073709551616 := Nat.lt_of_le_of_lt (Nat.div_le_self _ _) (hP _)
      clear hP
      generalize c (i / 8) / 256 ^ (i % 8) = x at *
      go_wp2
      go_ret
      exact ⟨by rw [HD.out]; rfl, (Ev.refl _).alloc _⟩
end Go.Proofs.Ytfclbnaabdlmhaa
