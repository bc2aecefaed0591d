import Derived.Test.YtpgghbabhgfchaaG1
namespace Go.Proofs.Ytpgghbabhgfchaa
open Go.RowKit
theorem and7F : ∀ n : Fin 512, wrap64 (bits BinOp.and IntKind.u64 (n.1 : Int) 7) = (n.1 : Int) % 8 := by decide +kernel
theorem and7 {p : Int} (h0 : 0 ≤ p) (h1 : p < 512) : wrap64 (bits BinOp.and IntKind.u64 p 7) = p % 8 := by
  have h := and7F ⟨p.toNat, by omega⟩
  simp only [Int.toNat_of_nonneg h0] at h
  exact h
theorem or8F : ∀ n : Fin 64, ∀ k : Fin 8, wrap64 (bits BinOp.or IntKind.u64 ((n.1 : Int) * 8) (k.1 : Int)) = (n.1 : Int) * 8 + k.1 := by decide +kernel
theorem or8 {p k : Int} (h0 : 0 ≤ p) (h1 : p < 64) (k0 : 0 ≤ k) (k1 : k < 8) : wrap64 (bits BinOp.or IntKind.u64 (p * 8) k) = p * 8 + k := by
  have h := or8F ⟨p.toNat, by omega⟩ ⟨k.toNat, by omega⟩
  simp only [Int.toNat_of_nonneg h0, Int.toNat_of_nonneg k0] at h
  exact h
theorem ret_t3 {a b c a' b' c' : Int} (h1 : a = a') (h2 : b = b') (h3 : c = c') : Ending.returned (.tuple #[.int .i64 a, .int .i64 b, .int .i64 c]) = .returned (.tuple #[.int .i64 a', .int .i64 b', .int .i64 c']) := by rw [h1, h2, h3]
theorem ret_t2 {a b a' b' : Int} (h1 : a = a') (h2 : b = b') : Ending.returned (.tuple #[.int .i64 a, .int .i64 b]) = .returned (.tuple #[.int .i64 a', .int .i64 b']) := by rw [h1, h2]
theorem leafOf_any (p : Int) (w : World) (h0 : 0 ≤ p) (h1 : p < 512) : Calls Try.prog 31 #[.int .i64 p] w fun e w' => e = .returned (.int .i64 (p / 8)) ∧ w = w' := by
  go_enter Try.func31, Try.ntmps31
  go_wp2
  go_ret
  exact ⟨ret_i64 (by omega), rfl⟩
theorem below_any (p n : Int) (w : World) : Calls Try.prog 30 #[.int .i64 p, .int .i64 n] w fun e w' => e = .returned (.bool (decide (0 ≤ p ∧ p < n))) ∧ w = w' := by
  go_enter Try.func30, Try.ntmps30
  go_wp2
  all_goals (go_ret; refine ⟨ret_b ?_, rfl⟩)
  all_goals (first | (simp; omega) | (simp [*]; done))
def whA (p : Int) : Int := if 0 ≤ p ∧ p < 512 then p / 8 else 0
def whB (p : Int) : Int := if 0 ≤ p ∧ p < 512 then p % 8 else 0
def whE (p : Int) : Int := if 0 ≤ p ∧ p < 512 then 0 else 2
def lfA (p : Int) : Int := if 0 ≤ p ∧ p < 64 then p / 8 else 0
def lfB (p : Int) : Int := if 0 ≤ p ∧ p < 64 then p % 8 else 0
def lfE (p : Int) : Int := if 0 ≤ p ∧ p < 64 then 0 else 2
theorem where_any (p : Int) (w : World) : Calls Try.prog 10 #[.int .i64 p] w fun e w' => e = .returned (.tuple #[.int .i64 (whA p), .int .i64 (whB p), .int .i64 (whE p)]) ∧ w = w' := by
  unfold whA whB whE
  by_cases h : 0 ≤ p ∧ p < 512
  · have hd : decide (0 ≤ p ∧ p < 512) = true := decide_eq_true h
    have hb := below_any p 512 w
    rw [hd] at hb
    rw [if_pos h, if_pos h, if_pos h]
    obtain ⟨h0, h1⟩ := h
    have ha := and7 h0 (by omega)
    clear hd
    go_enter Try.func10, Try.ntmps10
    go_wp2_with fail
    refine hb.mono ?_
    rintro e w' ⟨rfl, rfl⟩
    go_wp2
    go_ret3
    exact ⟨ret_t3 rfl ha rfl, rfl⟩
  · have hd : decide (0 ≤ p ∧ p < 512) = false := decide_eq_false h
    have hb := below_any p 512 w
    rw [hd] at hb
    rw [if_neg h, if_neg h, if_neg h]
    clear hd h
    go_enter Try.func10, Try.ntmps10
    go_wp2_with fail
    refine hb.mono ?_
    rintro e w' ⟨rfl, rfl⟩
    go_wp2
    go_ret3
    exact ⟨rfl, rfl⟩
theorem leaf_any (p : Int) (w : World) : Calls Try.prog 8 #[.int .i64 p] w fun e w' => e = .returned (.tuple #[.int .i64 (lfA p), .int .i64 (lfB p), .int .i64 (lfE p)]) ∧ w = w' := by
  unfold lfA lfB lfE
  by_cases h : 0 ≤ p ∧ p < 64
  · have hd : decide (0 ≤ p ∧ p < 64) = true := decide_eq_true h
    have hb := below_any p 64 w
    rw [hd] at hb
    rw [if_pos h, if_pos h, if_pos h]
    obtain ⟨h0, h1⟩ := h
    have ha := and7 h0 (by omega)
    clear hd
    go_enter Try.func8, Try.ntmps8
    go_wp2_with fail
    refine hb.mono ?_
    rintro e w' ⟨rfl, rfl⟩
    go_wp2_with fail
    refine (leafOf_any p w h0 (by omega)).mono ?_
    rintro e w' ⟨rfl, rfl⟩
    go_wp2
    go_ret3
    exact ⟨ret_t3 rfl ha rfl, rfl⟩
  · have hd : decide (0 ≤ p ∧ p < 64) = false := decide_eq_false h
    have hb := below_any p 64 w
    rw [hd] at hb
    rw [if_neg h, if_neg h, if_neg h]
    clear hd h
    go_enter Try.func8, Try.ntmps8
    go_wp2_with fail
    refine hb.mono ?_
    rintro e w' ⟨rfl, rfl⟩
    go_wp2
    go_ret3
    exact ⟨rfl, rfl⟩
theorem rwhere_any (p : Int) (w : World) : Calls Try.prog 11 #[.int .i64 p] w fun e w' => e = .returned (.tuple #[.int .i64 (whA p), .int .i64 (whB p), .int .i64 (whE p)]) ∧ w = w' := by
  unfold whA whB whE
  by_cases h : 0 ≤ p ∧ p < 512
  · rw [if_pos h, if_pos h, if_pos h]
    obtain ⟨h0, h1⟩ := h
    have q1 : p.tdiv 8 = p / 8 := Int.tdiv_eq_ediv_of_nonneg h0
    have q2 : p.tmod 8 = p % 8 := Int.tmod_eq_emod_of_nonneg h0
    go_enter Try.func11, Try.ntmps11
    go_wp2
    all_goals first | (exfalso; omega) | (go_ret3; exact ⟨ret_t3 (by first | rfl | omega) (by first | rfl | omega) rfl, rfl⟩)
  · rw [if_neg h, if_neg h, if_neg h]
    go_enter Try.func11, Try.ntmps11
    go_wp2
    all_goals first | (exfalso; omega) | (go_ret3; exact ⟨rfl, rfl⟩)
theorem rleaf_any (p : Int) (w : World) : Calls Try.prog 9 #[.int .i64 p] w fun e w' => e = .returned (.tuple #[.int .i64 (lfA p), .int .i64 (lfB p), .int .i64 (lfE p)]) ∧ w = w' := by
  unfold lfA lfB lfE
  by_cases h : 0 ≤ p ∧ p < 64
  · rw [if_pos h, if_pos h, if_pos h]
    obtain ⟨h0, h1⟩ := h
    have q1 : p.tdiv 8 = p / 8 := Int.tdiv_eq_ediv_of_nonneg h0
    have q2 : p.tmod 8 = p % 8 := Int.tmod_eq_emod_of_nonneg h0
    go_enter Try.func9, Try.ntmps9
    go_wp2
    all_goals first | (exfalso; omega) | (go_ret3; exact ⟨ret_t3 (by first | rfl | omega) (by first | rfl | omega) rfl, rfl⟩)
  · rw [if_neg h, if_neg h, if_neg h]
    go_enter Try.func9, Try.ntmps9
    go_wp2
    all_goals first | (exfalso; omega) | (go_ret3; exact ⟨rfl, rfl⟩)
def pgA (n p k : Int) : Int := if 0 ≤ p ∧ p < n ∧ 0 ≤ k ∧ k < 8 then p * 8 + k else 0
def pgE (n p k : Int) : Int := if 0 ≤ p ∧ p < n ∧ 0 ≤ k ∧ k < 8 then 0 else 2
theorem page_any (p k : Int) (w : World) : Calls Try.prog 12 #[.int .i64 p, .int .i64 k] w fun e w' => e = .returned (.tuple #[.int .i64 (pgA 8 p k), .int .i64 (pgE 8 p k)]) ∧ w = w' := by
  unfold pgA pgE
  have hb := below_any p 8 w
  have hc := below_any k 8 w
  by_cases h1 : 0 ≤ p ∧ p < 8
  · rw [decide_eq_true h1] at hb
    by_cases h2 : 0 ≤ k ∧ k < 8
    · rw [decide_eq_true h2] at hc
      have h : 0 ≤ p ∧ p < 8 ∧ 0 ≤ k ∧ k < 8 := by omega
      rw [if_pos h, if_pos h]
      have ho := or8 h1.1 (by omega) h2.1 h2.2
      obtain ⟨p0, p1⟩ := h1
      obtain ⟨k0, k1⟩ := h2
      clear h
      go_enter Try.func12, Try.ntmps12
      go_wp2_with fail
      refine hb.mono ?_
      rintro e w' ⟨rfl, rfl⟩
      go_wp2_with fail
      refine hc.mono ?_
      rintro e w' ⟨rfl, rfl⟩
      go_wp2
      go_ret2
      exact ⟨ret_t2 ho rfl, rfl⟩
    · rw [decide_eq_false h2] at hc
      have h : ¬ (0 ≤ p ∧ p < 8 ∧ 0 ≤ k ∧ k < 8) := by omega
      rw [if_neg h, if_neg h]
      clear h h1 h2
      go_enter Try.func12, Try.ntmps12
      go_wp2_with fail
      refine hb.mono ?_
      rintro e w' ⟨rfl, rfl⟩
      go_wp2_with fail
      refine hc.mono ?_
      rintro e w' ⟨rfl, rfl⟩
      go_wp2
      go_ret2
      exact ⟨rfl, rfl⟩
  · rw [decide_eq_false h1] at hb
    have h : ¬ (0 ≤ p ∧ p < 8 ∧ 0 ≤ k ∧ k < 8) := by omega
    rw [if_neg h, if_neg h]
    clear h h1 hc
    go_enter Try.func12, Try.ntmps12
    go_wp2_with fail
    refine hb.mono ?_
    rintro e w' ⟨rfl, rfl⟩
    go_wp2
    go_ret2
    exact ⟨rfl, rfl⟩
theorem address_any (p k : Int) (w : World) : Calls Try.prog 14 #[.int .i64 p, .int .i64 k] w fun e w' => e = .returned (.tuple #[.int .i64 (pgA 64 p k), .int .i64 (pgE 64 p k)]) ∧ w = w' := by
  unfold pgA pgE
  have hb := below_any p 64 w
  have hc := below_any k 8 w
  by_cases h1 : 0 ≤ p ∧ p < 64
  · rw [decide_eq_true h1] at hb
    by_cases h2 : 0 ≤ k ∧ k < 8
    · rw [decide_eq_true h2] at hc
      have h : 0 ≤ p ∧ p < 64 ∧ 0 ≤ k ∧ k < 8 := by omega
      rw [if_pos h, if_pos h]
      have ho := or8 h1.1 (by omega) h2.1 h2.2
      obtain ⟨p0, p1⟩ := h1
      obtain ⟨k0, k1⟩ := h2
      clear h
      go_enter Try.func14, Try.ntmps14
      go_wp2_with fail
      refine hb.mono ?_
      rintro e w' ⟨rfl, rfl⟩
      go_wp2_with fail
      refine hc.mono ?_
      rintro e w' ⟨rfl, rfl⟩
      go_wp2
      go_ret2
      exact ⟨ret_t2 ho rfl, rfl⟩
    · rw [decide_eq_false h2] at hc
      have h : ¬ (0 ≤ p ∧ p < 64 ∧ 0 ≤ k ∧ k < 8) := by omega
      rw [if_neg h, if_neg h]
      clear h h1 h2
      go_enter Try.func14, Try.ntmps14
      go_wp2_with fail
      refine hb.mono ?_
      rintro e w' ⟨rfl, rfl⟩
      go_wp2_with fail
      refine hc.mono ?_
      rintro e w' ⟨rfl, rfl⟩
      go_wp2
      go_ret2
      exact ⟨rfl, rfl⟩
  · rw [decide_eq_false h1] at hb
    have h : ¬ (0 ≤ p ∧ p < 64 ∧ 0 ≤ k ∧ k < 8) := by omega
    rw [if_neg h, if_neg h]
    clear h h1 hc
    go_enter Try.func14, Try.ntmps14
    go_wp2_with fail
    refine hb.mono ?_
    rintro e w' ⟨rfl, rfl⟩
    go_wp2
    go_ret2
    exact ⟨rfl, rfl⟩
theorem rpage_any (p k : Int) (w : World) : Calls Try.prog 13 #[.int .i64 p, .int .i64 k] w fun e w' => e = .returned (.tuple #[.int .i64 (pgA 8 p k), .int .i64 (pgE 8 p k)]) ∧ w = w' := by
  unfold pgA pgE
  by_cases h : 0 ≤ p ∧ p < 8 ∧ 0 ≤ k ∧ k < 8
  · rw [if_pos h, if_pos h]
    obtain ⟨h0, h1, h2, h3⟩ := h
    go_enter Try.func13, Try.ntmps13
    go_wp2
    all_goals first | (go_ret2; exact ⟨rfl, rfl⟩) | (exfalso; omega)
  · rw [if_neg h, if_neg h]
    go_enter Try.func13, Try.ntmps13
    go_wp2
    all_goals first | (go_ret2; exact ⟨rfl, rfl⟩) | (exfalso; omega)
theorem raddress_any (p k : Int) (w : World) : Calls Try.prog 15 #[.int .i64 p, .int .i64 k] w fun e w' => e = .returned (.tuple #[.int .i64 (pgA 64 p k), .int .i64 (pgE 64 p k)]) ∧ w = w' := by
  unfold pgA pgE
  by_cases h : 0 ≤ p ∧ p < 64 ∧ 0 ≤ k ∧ k < 8
  · rw [if_pos h, if_pos h]
    obtain ⟨h0, h1, h2, h3⟩ := h
    go_enter Try.func15, Try.ntmps15
    go_wp2
    all_goals first | (go_ret2; exact ⟨rfl, rfl⟩) | (exfalso; omega)
  · rw [if_neg h, if_neg h]
    go_enter Try.func15, Try.ntmps15
    go_wp2
    all_goals first | (go_ret2; exact ⟨rfl, rfl⟩) | (exfalso; omega)
end Go.Proofs.Ytpgghbabhgfchaa
