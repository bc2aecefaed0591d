import Derived.Test.YtfclbnaabdlmhaaJ3
namespace Go.Proofs.Ytfclbnaabdlmhaa
open Go.RowKit Go.Deep
theorem hex_back : ∀ e : Fin 16, hexV (hexc e.1).toNat = (e.1 : Int) := by decide +kernel
theorem back_hex : ∀ b : Fin 256, 0 ≤ hexV b.1 → hexc (hexV b.1).toNat = UInt8.ofNat b.1 := by decide +kernel
theorem getD_app (l m : List UInt8) (i : Nat) : (l ++ m).getD i 0 = if i < l.length then l.getD i 0 else m.getD (i - l.length) 0 := by
  by_cases h : i < l.length
  · rw [if_pos h, List.getD_eq_getElem?_getD, List.getD_eq_getElem?_getD, List.getElem?_append_left h]
  · rw [if_neg h, List.getD_eq_getElem?_getD, List.getD_eq_getElem?_getD, List.getElem?_append_right (by omega)]
theorem txW_at (x n d : Nat) (h : d < n) : (txW x n).getD d 0 = hexc (dg x d) := by
  unfold txW
  rw [List.getD_eq_getElem?_getD, List.getElem?_map, List.getElem?_range h]; rfl
theorem txP_at (c : Nat → Nat) (n : Nat) : ∀ w d, w < n → d < 16 → (txP c n).getD (17 * w + d) 0 = hexc (dg (c w) d) := by
  induction n with
  | zero => intro w d h; omega
  | succ n ih =>
    intro w d hw hd
    rw [txP_eq, getD_app, txA_len]
    by_cases h : w = n
    · subst h
      rw [if_neg (by omega), show 17 * w + d - 17 * w = d from by omega, txW_at _ _ _ hd]
    · rw [if_pos (by omega)]
      unfold txA
      rw [if_neg (by omega), getD_app, txP_len, if_pos (by omega), ih w d (by omega) hd]
theorem txP_sp (c : Nat → Nat) (n : Nat) : ∀ w, w + 1 < n → (txP c n).getD (17 * w + 16) 0 = 32 := by
  induction n with
  | zero => intro w h; omega
  | succ n ih =>
    intro w hw
    rw [txP_eq, getD_app, txA_len, if_pos (by omega)]
    unfold txA
    rw [if_neg (by omega), getD_app, txP_len]
    by_cases h : w + 1 = n
    · rw [if_neg (by omega), show 17 * w + 16 - (17 * n - 1) = 0 from by omega]; rfl
    · rw [if_pos (by omega), ih w (by omega)]
theorem dg16 (x d : Nat) (h : d < 16) : dg x d = x / 16 ^ (15 - d) % 16 := by
  unfold dg
  rw [show (16 : Nat) = 2 ^ 4 from rfl, ← Nat.pow_mul, show 4 * (15 - d) = 60 - 4 * d from by omega]
theorem div16 (x d : Nat) (h : d < 16) : 16 * (x / 16 ^ (16 - d)) + x / 16 ^ (15 - d) % 16 = x / 16 ^ (15 - d) := by
  rw [show 16 - d = 15 - d + 1 from by omega, Nat.pow_succ, ← Nat.div_div_eq_div_mul]
  omega
/-- what a page's text says after k bytes -/
theorem pv_text (c : Nat → Nat) (hP : Pg c) (k : Nat) : k ≤ 135 → (∀ i, i < k → okAt (txP c 8) i = true) ∧ ∀ v, v < 8 → pv (txP c 8) k v = if v < k / 17 then c v else if v = k / 17 then c v / 16 ^ (16 - k % 17) else 0 := by
  induction k with
  | zero =>
    intro _
    refine ⟨fun i hi => by omega, fun v hv => ?_⟩
    rw [if_neg (by omega)]
    show 0 = _
    split
    · have e : (16 : Nat) ^ (16 - 0 % 17) = 18446744073709551616 := by decide
      rw [e, Nat.div_eq_of_lt (hP v)]
    · rfl
  | succ k ih =>
    intro hk
    obtain ⟨h1, h2⟩ := ih (by omega)
    have hl : k = 17 * (k / 17) + k % 17 := by omega
    by_cases hm : k % 17 = 16
    · have hb := txP_sp c 8 (k / 17) (by omega)
      rw [show 17 * (k / 17) + 16 = k from by omega] at hb
      refine ⟨fun i hi => ?_, fun v hv => ?_⟩
      · by_cases e : i < k
        · exact h1 i e
        · obtain rfl : i = k := by omega
          unfold okAt okB
          rw [if_pos hm, hb]; rfl
      · rw [pv_blank _ _ hm, h2 v hv, show (k + 1) / 17 = k / 17 + 1 from by omega, show (k + 1) % 17 = 0 from by omega]
        by_cases e1 : v < k / 17
        · rw [if_pos e1, if_pos (by omega)]
        · rw [if_neg e1]
          by_cases e2 : v = k / 17
          · rw [if_pos e2, if_pos (by omega), hm, Nat.sub_self, Nat.pow_zero, Nat.div_one]
          · rw [if_neg e2, if_neg (by omega)]
            split
            · have e : (16 : Nat) ^ (16 - 0) = 18446744073709551616 := by decide
              rw [e, Nat.div_eq_of_lt (hP v)]
            · rfl
    · have hd16 : k % 17 < 16 := by omega
      have hb := txP_at c 8 (k / 17) (k % 17) (by omega) hd16
      rw [← hl] at hb
      have hh : hexV (hexc (dg (c (k / 17)) (k % 17))).toNat = (dg (c (k / 17)) (k % 17) : Int) := hex_back ⟨dg (c (k / 17)) (k % 17), dg_lt _ _⟩
      refine ⟨fun i hi => ?_, fun v hv => ?_⟩
      · by_cases e : i < k
        · exact h1 i e
        · obtain rfl : i = k := by omega
          unfold okAt okB
          rw [if_neg hm, hb, hh]; simp
      · rw [pv_digit _ _ hm, show (k + 1) / 17 = k / 17 from by omega, show (k + 1) % 17 = k % 17 + 1 from by omega, hb, hh]
        unfold upd
        by_cases e2 : v = k / 17
        · subst e2
          rw [if_pos rfl, if_neg (by omega), if_pos rfl, h2 _ hv, if_neg (by omega), if_pos rfl, Int.toNat_natCast, dg16 _ _ hd16, div16 _ _ hd16, show 16 - (k % 17 + 1) = 15 - k % 17 from by omega]
        · rw [if_neg e2, h2 v hv, if_neg e2, if_neg e2]
theorem pg_congr {c d : Nat → Nat} (h : ∀ k, k < 8 → c k = d k) : pg c = pg d := by
  show Value.agg #[.int .u64 (c 0 : Int), .int .u64 (c 1 : Int), .int .u64 (c 2 : Int), .int .u64 (c 3 : Int), .int .u64 (c 4 : Int), .int .u64 (c 5 : Int), .int .u64 (c 6 : Int), .int .u64 (c 7 : Int)] = _
  rw [h 0 (by omega), h 1 (by omega), h 2 (by omega), h 3 (by omega), h 4 (by omega), h 5 (by omega), h 6 (by omega), h 7 (by omega)]
theorem text_back (c : Nat → Nat) (hP : Pg c) : prE (txP c 8) = 0 ∧ prA (txP c 8) = 0 ∧ pg (prC (txP c 8)) = pg c := by
  obtain ⟨h1, h2⟩ := pv_text c hP 135 (by omega)
  have hl := txP_len c 8
  have hf : fe (txP c 8) = 135 := fe_eq (by omega) h1 (.inl (by omega))
  obtain ⟨e1, e2, e3⟩ := pr_ok (l := txP c 8) (by omega) (by omega)
  refine ⟨e2, e3, ?_⟩
  rw [e1]
  exact pg_congr fun k hk => by
    rw [h2 k hk]
    by_cases e : k < 135 / 17
    · rw [if_pos e]
    · rw [if_neg e, if_pos (by omega)]
      simp
theorem feF_ok (l : List UInt8) : ∀ f j, ∀ i, j ≤ i → i < feF l f j → okAt l i = true
  | 0, j, i, h1, h2 => by have : i < j := h2; omega
  | f + 1, j, i, h1, h2 => by
    rw [feF] at h2
    by_cases h : okAt l j = true
    · rw [if_pos h] at h2
      by_cases e : i = j
      · rw [e]; exact h
      · exact feF_ok l f (j + 1) i (by omega) h2
    · rw [if_neg h] at h2; omega
theorem feF_le (l : List UInt8) : ∀ f j, feF l f j ≤ j + f
  | 0, j => Nat.le_refl _
  | f + 1, j => by
    rw [feF]
    split
    · have := feF_le l f (j + 1); omega
    · omega
theorem ok_of {l : List UInt8} (h : prE l = 0) : l.length = 135 ∧ (∀ i, i < 135 → okAt l i = true) ∧ prC l = pv l 135 := by
  by_cases h1 : 135 < l.length
  · unfold prE at h; rw [if_pos h1] at h; cases h
  · by_cases h2 : fe l < 135
    · unfold prE at h; rw [if_neg h1, if_pos h2] at h; cases h
    · have h3 := feF_le l l.length 0
      have h4 : fe l ≤ 0 + l.length := h3
      refine ⟨by omega, fun i hi => feF_ok l l.length 0 i (by omega) (by show i < fe l; omega), ?_⟩
      unfold prC; rw [if_neg h1, if_neg h2]
theorem pv_stay (l : List UInt8) (w n : Nat) : pv l (17 * w + 16 + n) w = pv l (17 * w + 16) w := by
  induction n with
  | zero => rfl
  | succ n ih =>
    rw [← ih, ← Nat.add_assoc]
    by_cases h : (17 * w + 16 + n) % 17 = 16
    · rw [pv_blank _ _ h]
    · rw [pv_digit _ _ h]
      unfold upd
      rw [if_neg (by omega)]
theorem pv_digs (l : List UInt8) (w : Nat) : ∀ d, d ≤ 16 → ∀ j, j < d → pv l (17 * w + d) w / 16 ^ (d - 1 - j) % 16 = (hexV (l.getD (17 * w + j) 0).toNat).toNat % 16 := by
  intro d
  induction d with
  | zero => intro _ j hj; omega
  | succ d ih =>
    intro hd j hj
    have hz := hexV_le (l.getD (17 * w + d) 0).toNat
    rw [← Nat.add_assoc, pv_digit _ _ (by omega), show (17 * w + d) / 17 = w from by omega]
    unfold upd
    rw [if_pos rfl]
    by_cases e : j = d
    · subst e
      rw [show j + 1 - 1 - j = 0 from by omega, Nat.pow_zero, Nat.div_one]; omega
    · rw [show d + 1 - 1 - j = d - 1 - j + 1 from by omega, Nat.pow_succ, Nat.mul_comm (16 ^ (d - 1 - j)) 16, ← Nat.div_div_eq_div_mul, show (16 * pv l (17 * w + d) w + (hexV (l.getD (17 * w + d) 0).toNat).toNat) / 16 = pv l (17 * w + d) w from by omega, ih (by omega) j (by omega)]
theorem back_text {l : List UInt8} (h : prE l = 0) : txP (prC l) 8 = l := by
  obtain ⟨h1, h2, h3⟩ := ok_of h
  rw [h3]
  apply List.ext_getElem
  · rw [txP_len, h1]
  · intro i a b
    have e1 : (txP (pv l 135) 8)[i] = (txP (pv l 135) 8).getD i 0 := by rw [List.getD_eq_getElem?_getD, List.getElem?_eq_getElem a]; rfl
    have e2 : l[i] = l.getD i 0 := by rw [List.getD_eq_getElem?_getD, List.getElem?_eq_getElem b]; rfl
    rw [e1, e2]
    have hi : i < 135 := by omega
    have hok := h2 i hi
    have hl : 17 * (i / 17) + i % 17 = i := by omega
    unfold okAt okB at hok
    by_cases hm : i % 17 = 16
    · rw [if_pos hm] at hok
      have hs := txP_sp (pv l 135) 8 (i / 17) (by omega)
      rw [show 17 * (i / 17) + 16 = i from by omega] at hs
      rw [hs]
      have : (l.getD i 0).toNat = 32 := by simpa using hok
      exact (UInt8.toNat_inj.1 this).symm
    · rw [if_neg hm] at hok
      have hok : 0 ≤ hexV (l.getD i 0).toNat := by simpa using hok
      have ht := txP_at (pv l 135) 8 (i / 17) (i % 17) (by omega) (by omega)
      rw [hl] at ht
      rw [ht, dg16 _ _ (by omega)]
      have hst := pv_stay l (i / 17) (135 - (17 * (i / 17) + 16))
      rw [show 17 * (i / 17) + 16 + (135 - (17 * (i / 17) + 16)) = 135 from by omega] at hst
      have hd := pv_digs l (i / 17) 16 (by omega) (i % 17) (by omega)
      rw [hl] at hd
      have hle := hexV_le (l.getD i 0).toNat
      rw [hst, show 15 - i % 17 = 16 - 1 - i % 17 from by omega, hd, Nat.mod_eq_of_lt (by omega)]
      have hb := back_hex ⟨(l.getD i 0).toNat, (l.getD i 0).toNat_lt⟩ hok
      rw [hb]
      simp
end Go.Proofs.Ytfclbnaabdlmhaa
