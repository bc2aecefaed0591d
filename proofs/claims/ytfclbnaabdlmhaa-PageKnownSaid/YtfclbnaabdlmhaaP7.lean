import Derived.Test.YtfclbnaabdlmhaaP6
namespace Go.Proofs.Ytfclbnaabdlmhaa
open Go.RowKit
/-- the signed number of n bytes -/
def sg (n v : Nat) : Int := if v < 2 ^ (8 * n - 1) then (v : Int) else (v : Int) - 2 ^ (8 * n)
theorem bytes_ok (c : Nat → Nat) (a n : Nat) (w : World) (h1 : 1 ≤ n) (h2 : n ≤ 8) (h3 : a + n ≤ 64) : Calls Try.prog 16 #[pg c, .int .i64 (a : Int), .int .i64 (n : Int)] w fun e w' => e = .returned (.tuple #[.int .u64 (num (byt c) a n : Int), .int .i64 0]) ∧ Ev w w' := by
  have h := bytes_any c a n w
  have e : inE (a : Int) n = 0 := if_pos (by omega)
  unfold byV at h
  rw [e, if_pos rfl] at h
  simpa using h
theorem rbytes_ok (c : Nat → Nat) (a n : Nat) (w : World) (hP : Pg c) (h1 : 1 ≤ n) (h2 : n ≤ 8) (h3 : a + n ≤ 64) : Calls Try.prog 17 #[pg c, .int .i64 (a : Int), .int .i64 (n : Int)] w fun e w' => e = .returned (.tuple #[.int .u64 (num (byt c) a n : Int), .int .i64 0]) ∧ Ev w w' := by
  have h := rbytes_any c a n w hP
  have e : inE (a : Int) n = 0 := if_pos (by omega)
  unfold byV at h
  rw [e, if_pos rfl] at h
  simpa using h
theorem sg1 (v : Nat) (h : v < 256) : wrap64 ((v : Int) * 72057594037927936) / 72057594037927936 = sg 1 v := by
  have e : sg 1 v = if v < 128 then (v : Int) else (v : Int) - 256 := rfl
  rw [e]
  unfold wrap64
  split <;> omega
theorem signed1 (c : Nat → Nat) (a v : Nat) (w : World) (hv : v < 256) (H : Hid (∀ W, Calls Try.prog 16 #[pg c, .int .i64 (a : Int), .int .i64 1] W fun e w' => e = .returned (.tuple #[.int .u64 (v : Int), .int .i64 0]) ∧ Ev W w')) :
    Calls Try.prog 18 #[pg c, .int .i64 (a : Int), .int .i64 1] w fun e w' => e = .returned (.tuple #[.int .i64 (sg 1 v), .int .i64 0]) ∧ Ev w w' := by
  have hE := Lib.hid ((Ev.refl w).alloc (pgO c))
  have HS := Lib.hid (sg1 v hv)
  go_enter Try.func18, Try.ntmps18
  go_wp2_with fail
  refine (H.out _).mono ?_
  rintro e w1 ⟨rfl, hev⟩
  have HEV := Lib.hid (hE.out.step hev)
  clear hev
  go_wp2_with fail
  go_ret2
  refine ⟨?_, HEV.out⟩
  rw [← HS.out]
  rfl
set_option maxRecDepth 100000 in
theorem rsigned1 (c : Nat → Nat) (a v t : Nat) (w : World) (ht : t < 256) (ha : a + 1 ≤ 64) (hvt : ∃ l, l < 1 ∧ v = l + t * 1) (H : Hid (∀ W, Calls Try.prog 17 #[pg c, .int .i64 (a : Int), .int .i64 1] W fun e w' => e = .returned (.tuple #[.int .u64 (v : Int), .int .i64 0]) ∧ Ev W w'))
    (H2 : Hid (∀ z W, z = ((a + 0 : Nat) : Int) → Calls Try.prog 39 #[pg c, .int .i64 z] W fun e w' => e = .returned (.int .u64 (t : Int)) ∧ Ev W w')) :
    Calls Try.prog 19 #[pg c, .int .i64 (a : Int), .int .i64 1] w fun e w' => e = .returned (.tuple #[.int .i64 (sg 1 v), .int .i64 0]) ∧ Ev w w' := by
  have hE := Lib.hid ((Ev.refl w).alloc (pgO c))
  have HBP := Lib.hid (BP.new w c)
  obtain ⟨l, hl, hv⟩ := hvt
  have hvM : v < 256 := by omega
  have e : sg 1 v = if v < 128 then (v : Int) else (v : Int) - 256 := rfl
  rcases Nat.lt_or_ge t 128 with h128 | h128
  · have hlow : v < 128 := by omega
    rw [if_pos hlow] at e
    have HE := Lib.hid e
    clear e hv
    go_enter Try.func19, Try.ntmps19
    go_wp2_with fail
    refine (H.out _).mono ?_
    rintro e w1 ⟨rfl, hev⟩
    have HEV := Lib.hid (hE.out.step hev)
    obtain ⟨-, hc, -⟩ := HBP.out.ev hev
    have c0 := hc 0 (by omega)
    have c1 := hc 1 (by omega)
    have c2 := hc 2 (by omega)
    have c3 := hc 3 (by omega)
    have c4 := hc 4 (by omega)
    have c5 := hc 5 (by omega)
    have c6 := hc 6 (by omega)
    have c7 := hc 7 (by omega)
    clear hev hc
    go_wp2_with fail
    refine (H2.out _ _ (by omega)).mono ?_
    rintro e w2 ⟨rfl, hev⟩
    have HEV2 := Lib.hid (HEV.out.step hev)
    clear hev c0 c1 c2 c3 c4 c5 c6 c7
    go_wp2_with fail
    go_ret2
    refine ⟨?_, HEV2.out⟩
    rw [HE.out]
    first | rfl | exact ret_2 (by unfold wrap64; omega) rfl
  · have hhi : ¬ v < 128 := by omega
    rw [if_neg hhi] at e
    have HE := Lib.hid e
    have hge : 128 ≤ v := by omega
    clear e hv hhi
    go_enter Try.func19, Try.ntmps19
    go_wp2_with fail
    refine (H.out _).mono ?_
    rintro e w1 ⟨rfl, hev⟩
    have HEV := Lib.hid (hE.out.step hev)
    obtain ⟨-, hc, -⟩ := HBP.out.ev hev
    have c0 := hc 0 (by omega)
    have c1 := hc 1 (by omega)
    have c2 := hc 2 (by omega)
    have c3 := hc 3 (by omega)
    have c4 := hc 4 (by omega)
    have c5 := hc 5 (by omega)
    have c6 := hc 6 (by omega)
    have c7 := hc 7 (by omega)
    clear hev hc
    go_wp2_with fail
    refine (H2.out _ _ (by omega)).mono ?_
    rintro e w2 ⟨rfl, hev⟩
    have HEV2 := Lib.hid (HEV.out.step hev)
    clear hev c0 c1 c2 c3 c4 c5 c6 c7
    go_wp2_with fail
    go_ret2
    refine ⟨?_, HEV2.out⟩
    rw [HE.out]
    first | rfl | (exact ret_2 (by unfold wrap64; omega) rfl) | (exact ret_2 (by simp) rfl) | (exact ret_2 (by omega) rfl)
theorem sg2 (v : Nat) (h : v < 65536) : wrap64 ((v : Int) * 281474976710656) / 281474976710656 = sg 2 v := by
  have e : sg 2 v = if v < 32768 then (v : Int) else (v : Int) - 65536 := rfl
  rw [e]
  unfold wrap64
  split <;> omega
theorem signed2 (c : Nat → Nat) (a v : Nat) (w : World) (hv : v < 65536) (H : Hid (∀ W, Calls Try.prog 16 #[pg c, .int .i64 (a : Int), .int .i64 2] W fun e w' => e = .returned (.tuple #[.int .u64 (v : Int), .int .i64 0]) ∧ Ev W w')) :
    Calls Try.prog 18 #[pg c, .int .i64 (a : Int), .int .i64 2] w fun e w' => e = .returned (.tuple #[.int .i64 (sg 2 v), .int .i64 0]) ∧ Ev w w' := by
  have hE := Lib.hid ((Ev.refl w).alloc (pgO c))
  have HS := Lib.hid (sg2 v hv)
  go_enter Try.func18, Try.ntmps18
  go_wp2_with fail
  refine (H.out _).mono ?_
  rintro e w1 ⟨rfl, hev⟩
  have HEV := Lib.hid (hE.out.step hev)
  clear hev
  go_wp2_with fail
  go_ret2
  refine ⟨?_, HEV.out⟩
  rw [← HS.out]
  rfl
set_option maxRecDepth 100000 in
theorem rsigned2 (c : Nat → Nat) (a v t : Nat) (w : World) (ht : t < 256) (ha : a + 2 ≤ 64) (hvt : ∃ l, l < 256 ∧ v = l + t * 256) (H : Hid (∀ W, Calls Try.prog 17 #[pg c, .int .i64 (a : Int), .int .i64 2] W fun e w' => e = .returned (.tuple #[.int .u64 (v : Int), .int .i64 0]) ∧ Ev W w'))
    (H2 : Hid (∀ z W, z = ((a + 1 : Nat) : Int) → Calls Try.prog 39 #[pg c, .int .i64 z] W fun e w' => e = .returned (.int .u64 (t : Int)) ∧ Ev W w')) :
    Calls Try.prog 19 #[pg c, .int .i64 (a : Int), .int .i64 2] w fun e w' => e = .returned (.tuple #[.int .i64 (sg 2 v), .int .i64 0]) ∧ Ev w w' := by
  have hE := Lib.hid ((Ev.refl w).alloc (pgO c))
  have HBP := Lib.hid (BP.new w c)
  obtain ⟨l, hl, hv⟩ := hvt
  have hvM : v < 65536 := by omega
  have e : sg 2 v = if v < 32768 then (v : Int) else (v : Int) - 65536 := rfl
  rcases Nat.lt_or_ge t 128 with h128 | h128
  · have hlow : v < 32768 := by omega
    rw [if_pos hlow] at e
    have HE := Lib.hid e
    clear e hv
    go_enter Try.func19, Try.ntmps19
    go_wp2_with fail
    refine (H.out _).mono ?_
    rintro e w1 ⟨rfl, hev⟩
    have HEV := Lib.hid (hE.out.step hev)
    obtain ⟨-, hc, -⟩ := HBP.out.ev hev
    have c0 := hc 0 (by omega)
    have c1 := hc 1 (by omega)
    have c2 := hc 2 (by omega)
    have c3 := hc 3 (by omega)
    have c4 := hc 4 (by omega)
    have c5 := hc 5 (by omega)
    have c6 := hc 6 (by omega)
    have c7 := hc 7 (by omega)
    clear hev hc
    go_wp2_with fail
    refine (H2.out _ _ (by omega)).mono ?_
    rintro e w2 ⟨rfl, hev⟩
    have HEV2 := Lib.hid (HEV.out.step hev)
    clear hev c0 c1 c2 c3 c4 c5 c6 c7
    go_wp2_with fail
    go_ret2
    refine ⟨?_, HEV2.out⟩
    rw [HE.out]
    first | rfl | exact ret_2 (by unfold wrap64; omega) rfl
  · have hhi : ¬ v < 32768 := by omega
    rw [if_neg hhi] at e
    have HE := Lib.hid e
    have hge : 32768 ≤ v := by omega
    clear e hv hhi
    go_enter Try.func19, Try.ntmps19
    go_wp2_with fail
    refine (H.out _).mono ?_
    rintro e w1 ⟨rfl, hev⟩
    have HEV := Lib.hid (hE.out.step hev)
    obtain ⟨-, hc, -⟩ := HBP.out.ev hev
    have c0 := hc 0 (by omega)
    have c1 := hc 1 (by omega)
    have c2 := hc 2 (by omega)
    have c3 := hc 3 (by omega)
    have c4 := hc 4 (by omega)
    have c5 := hc 5 (by omega)
    have c6 := hc 6 (by omega)
    have c7 := hc 7 (by omega)
    clear hev hc
    go_wp2_with fail
    refine (H2.out _ _ (by omega)).mono ?_
    rintro e w2 ⟨rfl, hev⟩
    have HEV2 := Lib.hid (HEV.out.step hev)
    clear hev c0 c1 c2 c3 c4 c5 c6 c7
    go_wp2_with fail
    go_ret2
    refine ⟨?_, HEV2.out⟩
    rw [HE.out]
    first | rfl | (exact ret_2 (by unfold wrap64; omega) rfl) | (exact ret_2 (by simp) rfl) | (exact ret_2 (by omega) rfl)
theorem sg3 (v : Nat) (h : v < 16777216) : wrap64 ((v : Int) * 1099511627776) / 1099511627776 = sg 3 v := by
  have e : sg 3 v = if v < 8388608 then (v : Int) else (v : Int) - 16777216 := rfl
  rw [e]
  unfold wrap64
  split <;> omega
theorem signed3 (c : Nat → Nat) (a v : Nat) (w : World) (hv : v < 16777216) (H : Hid (∀ W, Calls Try.prog 16 #[pg c, .int .i64 (a : Int), .int .i64 3] W fun e w' => e = .returned (.tuple #[.int .u64 (v : Int), .int .i64 0]) ∧ Ev W w')) :
    Calls Try.prog 18 #[pg c, .int .i64 (a : Int), .int .i64 3] w fun e w' => e = .returned (.tuple #[.int .i64 (sg 3 v), .int .i64 0]) ∧ Ev w w' := by
  have hE := Lib.hid ((Ev.refl w).alloc (pgO c))
  have HS := Lib.hid (sg3 v hv)
  go_enter Try.func18, Try.ntmps18
  go_wp2_with fail
  refine (H.out _).mono ?_
  rintro e w1 ⟨rfl, hev⟩
  have HEV := Lib.hid (hE.out.step hev)
  clear hev
  go_wp2_with fail
  go_ret2
  refine ⟨?_, HEV.out⟩
  rw [← HS.out]
  rfl
set_option maxRecDepth 100000 in
theorem rsigned3 (c : Nat → Nat) (a v t : Nat) (w : World) (ht : t < 256) (ha : a + 3 ≤ 64) (hvt : ∃ l, l < 65536 ∧ v = l + t * 65536) (H : Hid (∀ W, Calls Try.prog 17 #[pg c, .int .i64 (a : Int), .int .i64 3] W fun e w' => e = .returned (.tuple #[.int .u64 (v : Int), .int .i64 0]) ∧ Ev W w'))
    (H2 : Hid (∀ z W, z = ((a + 2 : Nat) : Int) → Calls Try.prog 39 #[pg c, .int .i64 z] W fun e w' => e = .returned (.int .u64 (t : Int)) ∧ Ev W w')) :
    Calls Try.prog 19 #[pg c, .int .i64 (a : Int), .int .i64 3] w fun e w' => e = .returned (.tuple #[.int .i64 (sg 3 v), .int .i64 0]) ∧ Ev w w' := by
  have hE := Lib.hid ((Ev.refl w).alloc (pgO c))
  have HBP := Lib.hid (BP.new w c)
  obtain ⟨l, hl, hv⟩ := hvt
  have hvM : v < 16777216 := by omega
  have e : sg 3 v = if v < 8388608 then (v : Int) else (v : Int) - 16777216 := rfl
  rcases Nat.lt_or_ge t 128 with h128 | h128
  · have hlow : v < 8388608 := by omega
    rw [if_pos hlow] at e
    have HE := Lib.hid e
    clear e hv
    go_enter Try.func19, Try.ntmps19
    go_wp2_with fail
    refine (H.out _).mono ?_
    rintro e w1 ⟨rfl, hev⟩
    have HEV := Lib.hid (hE.out.step hev)
    obtain ⟨-, hc, -⟩ := HBP.out.ev hev
    have c0 := hc 0 (by omega)
    have c1 := hc 1 (by omega)
    have c2 := hc 2 (by omega)
    have c3 := hc 3 (by omega)
    have c4 := hc 4 (by omega)
    have c5 := hc 5 (by omega)
    have c6 := hc 6 (by omega)
    have c7 := hc 7 (by omega)
    clear hev hc
    go_wp2_with fail
    refine (H2.out _ _ (by omega)).mono ?_
    rintro e w2 ⟨rfl, hev⟩
    have HEV2 := Lib.hid (HEV.out.step hev)
    clear hev c0 c1 c2 c3 c4 c5 c6 c7
    go_wp2_with fail
    go_ret2
    refine ⟨?_, HEV2.out⟩
    rw [HE.out]
    first | rfl | exact ret_2 (by unfold wrap64; omega) rfl
  · have hhi : ¬ v < 8388608 := by omega
    rw [if_neg hhi] at e
    have HE := Lib.hid e
    have hge : 8388608 ≤ v := by omega
    clear e hv hhi
    go_enter Try.func19, Try.ntmps19
    go_wp2_with fail
    refine (H.out _).mono ?_
    rintro e w1 ⟨rfl, hev⟩
    have HEV := Lib.hid (hE.out.step hev)
    obtain ⟨-, hc, -⟩ := HBP.out.ev hev
    have c0 := hc 0 (by omega)
    have c1 := hc 1 (by omega)
    have c2 := hc 2 (by omega)
    have c3 := hc 3 (by omega)
    have c4 := hc 4 (by omega)
    have c5 := hc 5 (by omega)
    have c6 := hc 6 (by omega)
    have c7 := hc 7 (by omega)
    clear hev hc
    go_wp2_with fail
    refine (H2.out _ _ (by omega)).mono ?_
    rintro e w2 ⟨rfl, hev⟩
    have HEV2 := Lib.hid (HEV.out.step hev)
    clear hev c0 c1 c2 c3 c4 c5 c6 c7
    go_wp2_with fail
    go_ret2
    refine ⟨?_, HEV2.out⟩
    rw [HE.out]
    first | rfl | (exact ret_2 (by unfold wrap64; omega) rfl) | (exact ret_2 (by simp) rfl) | (exact ret_2 (by omega) rfl)
theorem sg4 (v : Nat) (h : v < 4294967296) : wrap64 ((v : Int) * 4294967296) / 4294967296 = sg 4 v := by
  have e : sg 4 v = if v < 2147483648 then (v : Int) else (v : Int) - 4294967296 := rfl
  rw [e]
  unfold wrap64
  split <;> omega
theorem signed4 (c : Nat → Nat) (a v : Nat) (w : World) (hv : v < 4294967296) (H : Hid (∀ W, Calls Try.prog 16 #[pg c, .int .i64 (a : Int), .int .i64 4] W fun e w' => e = .returned (.tuple #[.int .u64 (v : Int), .int .i64 0]) ∧ Ev W w')) :
    Calls Try.prog 18 #[pg c, .int .i64 (a : Int), .int .i64 4] w fun e w' => e = .returned (.tuple #[.int .i64 (sg 4 v), .int .i64 0]) ∧ Ev w w' := by
  have hE := Lib.hid ((Ev.refl w).alloc (pgO c))
  have HS := Lib.hid (sg4 v hv)
  go_enter Try.func18, Try.ntmps18
  go_wp2_with fail
  refine (H.out _).mono ?_
  rintro e w1 ⟨rfl, hev⟩
  have HEV := Lib.hid (hE.out.step hev)
  clear hev
  go_wp2_with fail
  go_ret2
  refine ⟨?_, HEV.out⟩
  rw [← HS.out]
  rfl
set_option maxRecDepth 100000 in
theorem rsigned4 (c : Nat → Nat) (a v t : Nat) (w : World) (ht : t < 256) (ha : a + 4 ≤ 64) (hvt : ∃ l, l < 16777216 ∧ v = l + t * 16777216) (H : Hid (∀ W, Calls Try.prog 17 #[pg c, .int .i64 (a : Int), .int .i64 4] W fun e w' => e = .returned (.tuple #[.int .u64 (v : Int), .int .i64 0]) ∧ Ev W w'))
    (H2 : Hid (∀ z W, z = ((a + 3 : Nat) : Int) → Calls Try.prog 39 #[pg c, .int .i64 z] W fun e w' => e = .returned (.int .u64 (t : Int)) ∧ Ev W w')) :
    Calls Try.prog 19 #[pg c, .int .i64 (a : Int), .int .i64 4] w fun e w' => e = .returned (.tuple #[.int .i64 (sg 4 v), .int .i64 0]) ∧ Ev w w' := by
  have hE := Lib.hid ((Ev.refl w).alloc (pgO c))
  have HBP := Lib.hid (BP.new w c)
  obtain ⟨l, hl, hv⟩ := hvt
  have hvM : v < 4294967296 := by omega
  have e : sg 4 v = if v < 2147483648 then (v : Int) else (v : Int) - 4294967296 := rfl
  rcases Nat.lt_or_ge t 128 with h128 | h128
  · have hlow : v < 2147483648 := by omega
    rw [if_pos hlow] at e
    have HE := Lib.hid e
    clear e hv
    go_enter Try.func19, Try.ntmps19
    go_wp2_with fail
    refine (H.out _).mono ?_
    rintro e w1 ⟨rfl, hev⟩
    have HEV := Lib.hid (hE.out.step hev)
    obtain ⟨-, hc, -⟩ := HBP.out.ev hev
    have c0 := hc 0 (by omega)
    have c1 := hc 1 (by omega)
    have c2 := hc 2 (by omega)
    have c3 := hc 3 (by omega)
    have c4 := hc 4 (by omega)
    have c5 := hc 5 (by omega)
    have c6 := hc 6 (by omega)
    have c7 := hc 7 (by omega)
    clear hev hc
    go_wp2_with fail
    refine (H2.out _ _ (by omega)).mono ?_
    rintro e w2 ⟨rfl, hev⟩
    have HEV2 := Lib.hid (HEV.out.step hev)
    clear hev c0 c1 c2 c3 c4 c5 c6 c7
    go_wp2_with fail
    go_ret2
    refine ⟨?_, HEV2.out⟩
    rw [HE.out]
    first | rfl | exact ret_2 (by unfold wrap64; omega) rfl
  · have hhi : ¬ v < 2147483648 := by omega
    rw [if_neg hhi] at e
    have HE := Lib.hid e
    have hge : 2147483648 ≤ v := by omega
    clear e hv hhi
    go_enter Try.func19, Try.ntmps19
    go_wp2_with fail
    refine (H.out _).mono ?_
    rintro e w1 ⟨rfl, hev⟩
    have HEV := Lib.hid (hE.out.step hev)
    obtain ⟨-, hc, -⟩ := HBP.out.ev hev
    have c0 := hc 0 (by omega)
    have c1 := hc 1 (by omega)
    have c2 := hc 2 (by omega)
    have c3 := hc 3 (by omega)
    have c4 := hc 4 (by omega)
    have c5 := hc 5 (by omega)
    have c6 := hc 6 (by omega)
    have c7 := hc 7 (by omega)
    clear hev hc
    go_wp2_with fail
    refine (H2.out _ _ (by omega)).mono ?_
    rintro e w2 ⟨rfl, hev⟩
    have HEV2 := Lib.hid (HEV.out.step hev)
    clear hev c0 c1 c2 c3 c4 c5 c6 c7
    go_wp2_with fail
    go_ret2
    refine ⟨?_, HEV2.out⟩
    rw [HE.out]
    first | rfl | (exact ret_2 (by unfold wrap64; omega) rfl) | (exact ret_2 (by simp) rfl) | (exact ret_2 (by omega) rfl)
theorem sg5 (v : Nat) (h : v < 1099511627776) : wrap64 ((v : Int) * 16777216) / 16777216 = sg 5 v := by
  have e : sg 5 v = if v < 549755813888 then (v : Int) else (v : Int) - 1099511627776 := rfl
  rw [e]
  unfold wrap64
  split <;> omega
theorem signed5 (c : Nat → Nat) (a v : Nat) (w : World) (hv : v < 1099511627776) (H : Hid (∀ W, Calls Try.prog 16 #[pg c, .int .i64 (a : Int), .int .i64 5] W fun e w' => e = .returned (.tuple #[.int .u64 (v : Int), .int .i64 0]) ∧ Ev W w')) :
    Calls Try.prog 18 #[pg c, .int .i64 (a : Int), .int .i64 5] w fun e w' => e = .returned (.tuple #[.int .i64 (sg 5 v), .int .i64 0]) ∧ Ev w w' := by
  have hE := Lib.hid ((Ev.refl w).alloc (pgO c))
  have HS := Lib.hid (sg5 v hv)
  go_enter Try.func18, Try.ntmps18
  go_wp2_with fail
  refine (H.out _).mono ?_
  rintro e w1 ⟨rfl, hev⟩
  have HEV := Lib.hid (hE.out.step hev)
  clear hev
  go_wp2_with fail
  go_ret2
  refine ⟨?_, HEV.out⟩
  rw [← HS.out]
  rfl
set_option maxRecDepth 100000 in
theorem rsigned5 (c : Nat → Nat) (a v t : Nat) (w : World) (ht : t < 256) (ha : a + 5 ≤ 64) (hvt : ∃ l, l < 4294967296 ∧ v = l + t * 4294967296) (H : Hid (∀ W, Calls Try.prog 17 #[pg c, .int .i64 (a : Int), .int .i64 5] W fun e w' => e = .returned (.tuple #[.int .u64 (v : Int), .int .i64 0]) ∧ Ev W w'))
    (H2 : Hid (∀ z W, z = ((a + 4 : Nat) : Int) → Calls Try.prog 39 #[pg c, .int .i64 z] W fun e w' => e = .returned (.int .u64 (t : Int)) ∧ Ev W w')) :
    Calls Try.prog 19 #[pg c, .int .i64 (a : Int), .int .i64 5] w fun e w' => e = .returned (.tuple #[.int .i64 (sg 5 v), .int .i64 0]) ∧ Ev w w' := by
  have hE := Lib.hid ((Ev.refl w).alloc (pgO c))
  have HBP := Lib.hid (BP.new w c)
  obtain ⟨l, hl, hv⟩ := hvt
  have hvM : v < 1099511627776 := by omega
  have e : sg 5 v = if v < 549755813888 then (v : Int) else (v : Int) - 1099511627776 := rfl
  rcases Nat.lt_or_ge t 128 with h128 | h128
  · have hlow : v < 549755813888 := by omega
    rw [if_pos hlow] at e
    have HE := Lib.hid e
    clear e hv
    go_enter Try.func19, Try.ntmps19
    go_wp2_with fail
    refine (H.out _).mono ?_
    rintro e w1 ⟨rfl, hev⟩
    have HEV := Lib.hid (hE.out.step hev)
    obtain ⟨-, hc, -⟩ := HBP.out.ev hev
    have c0 := hc 0 (by omega)
    have c1 := hc 1 (by omega)
    have c2 := hc 2 (by omega)
    have c3 := hc 3 (by omega)
    have c4 := hc 4 (by omega)
    have c5 := hc 5 (by omega)
    have c6 := hc 6 (by omega)
    have c7 := hc 7 (by omega)
    clear hev hc
    go_wp2_with fail
    refine (H2.out _ _ (by omega)).mono ?_
    rintro e w2 ⟨rfl, hev⟩
    have HEV2 := Lib.hid (HEV.out.step hev)
    clear hev c0 c1 c2 c3 c4 c5 c6 c7
    go_wp2_with fail
    go_ret2
    refine ⟨?_, HEV2.out⟩
    rw [HE.out]
    first | rfl | exact ret_2 (by unfold wrap64; omega) rfl
  · have hhi : ¬ v < 549755813888 := by omega
    rw [if_neg hhi] at e
    have HE := Lib.hid e
    have hge : 549755813888 ≤ v := by omega
    clear e hv hhi
    go_enter Try.func19, Try.ntmps19
    go_wp2_with fail
    refine (H.out _).mono ?_
    rintro e w1 ⟨rfl, hev⟩
    have HEV := Lib.hid (hE.out.step hev)
    obtain ⟨-, hc, -⟩ := HBP.out.ev hev
    have c0 := hc 0 (by omega)
    have c1 := hc 1 (by omega)
    have c2 := hc 2 (by omega)
    have c3 := hc 3 (by omega)
    have c4 := hc 4 (by omega)
    have c5 := hc 5 (by omega)
    have c6 := hc 6 (by omega)
    have c7 := hc 7 (by omega)
    clear hev hc
    go_wp2_with fail
    refine (H2.out _ _ (by omega)).mono ?_
    rintro e w2 ⟨rfl, hev⟩
    have HEV2 := Lib.hid (HEV.out.step hev)
    clear hev c0 c1 c2 c3 c4 c5 c6 c7
    go_wp2_with fail
    go_ret2
    refine ⟨?_, HEV2.out⟩
    rw [HE.out]
    first | rfl | (exact ret_2 (by unfold wrap64; omega) rfl) | (exact ret_2 (by simp) rfl) | (exact ret_2 (by omega) rfl)
theorem sg6 (v : Nat) (h : v < 281474976710656) : wrap64 ((v : Int) * 65536) / 65536 = sg 6 v := by
  have e : sg 6 v = if v < 140737488355328 then (v : Int) else (v : Int) - 281474976710656 := rfl
  rw [e]
  unfold wrap64
  split <;> omega
theorem signed6 (c : Nat → Nat) (a v : Nat) (w : World) (hv : v < 281474976710656) (H : Hid (∀ W, Calls Try.prog 16 #[pg c, .int .i64 (a : Int), .int .i64 6] W fun e w' => e = .returned (.tuple #[.int .u64 (v : Int), .int .i64 0]) ∧ Ev W w')) :
    Calls Try.prog 18 #[pg c, .int .i64 (a : Int), .int .i64 6] w fun e w' => e = .returned (.tuple #[.int .i64 (sg 6 v), .int .i64 0]) ∧ Ev w w' := by
  have hE := Lib.hid ((Ev.refl w).alloc (pgO c))
  have HS := Lib.hid (sg6 v hv)
  go_enter Try.func18, Try.ntmps18
  go_wp2_with fail
  refine (H.out _).mono ?_
  rintro e w1 ⟨rfl, hev⟩
  have HEV := Lib.hid (hE.out.step hev)
  clear hev
  go_wp2_with fail
  go_ret2
  refine ⟨?_, HEV.out⟩
  rw [← HS.out]
  rfl
set_option maxRecDepth 100000 in
theorem rsigned6 (c : Nat → Nat) (a v t : Nat) (w : World) (ht : t < 256) (ha : a + 6 ≤ 64) (hvt : ∃ l, l < 1099511627776 ∧ v = l + t * 1099511627776) (H : Hid (∀ W, Calls Try.prog 17 #[pg c, .int .i64 (a : Int), .int .i64 6] W fun e w' => e = .returned (.tuple #[.int .u64 (v : Int), .int .i64 0]) ∧ Ev W w'))
    (H2 : Hid (∀ z W, z = ((a + 5 : Nat) : Int) → Calls Try.prog 39 #[pg c, .int .i64 z] W fun e w' => e = .returned (.int .u64 (t : Int)) ∧ Ev W w')) :
    Calls Try.prog 19 #[pg c, .int .i64 (a : Int), .int .i64 6] w fun e w' => e = .returned (.tuple #[.int .i64 (sg 6 v), .int .i64 0]) ∧ Ev w w' := by
  have hE := Lib.hid ((Ev.refl w).alloc (pgO c))
  have HBP := Lib.hid (BP.new w c)
  obtain ⟨l, hl, hv⟩ := hvt
  have hvM : v < 281474976710656 := by omega
  have e : sg 6 v = if v < 140737488355328 then (v : Int) else (v : Int) - 281474976710656 := rfl
  rcases Nat.lt_or_ge t 128 with h128 | h128
  · have hlow : v < 140737488355328 := by omega
    rw [if_pos hlow] at e
    have HE := Lib.hid e
    clear e hv
    go_enter Try.func19, Try.ntmps19
    go_wp2_with fail
    refine (H.out _).mono ?_
    rintro e w1 ⟨rfl, hev⟩
    have HEV := Lib.hid (hE.out.step hev)
    obtain ⟨-, hc, -⟩ := HBP.out.ev hev
    have c0 := hc 0 (by omega)
    have c1 := hc 1 (by omega)
    have c2 := hc 2 (by omega)
    have c3 := hc 3 (by omega)
    have c4 := hc 4 (by omega)
    have c5 := hc 5 (by omega)
    have c6 := hc 6 (by omega)
    have c7 := hc 7 (by omega)
    clear hev hc
    go_wp2_with fail
    refine (H2.out _ _ (by omega)).mono ?_
    rintro e w2 ⟨rfl, hev⟩
    have HEV2 := Lib.hid (HEV.out.step hev)
    clear hev c0 c1 c2 c3 c4 c5 c6 c7
    go_wp2_with fail
    go_ret2
    refine ⟨?_, HEV2.out⟩
    rw [HE.out]
    first | rfl | exact ret_2 (by unfold wrap64; omega) rfl
  · have hhi : ¬ v < 140737488355328 := by omega
    rw [if_neg hhi] at e
    have HE := Lib.hid e
    have hge : 140737488355328 ≤ v := by omega
    clear e hv hhi
    go_enter Try.func19, Try.ntmps19
    go_wp2_with fail
    refine (H.out _).mono ?_
    rintro e w1 ⟨rfl, hev⟩
    have HEV := Lib.hid (hE.out.step hev)
    obtain ⟨-, hc, -⟩ := HBP.out.ev hev
    have c0 := hc 0 (by omega)
    have c1 := hc 1 (by omega)
    have c2 := hc 2 (by omega)
    have c3 := hc 3 (by omega)
    have c4 := hc 4 (by omega)
    have c5 := hc 5 (by omega)
    have c6 := hc 6 (by omega)
    have c7 := hc 7 (by omega)
    clear hev hc
    go_wp2_with fail
    refine (H2.out _ _ (by omega)).mono ?_
    rintro e w2 ⟨rfl, hev⟩
    have HEV2 := Lib.hid (HEV.out.step hev)
    clear hev c0 c1 c2 c3 c4 c5 c6 c7
    go_wp2_with fail
    go_ret2
    refine ⟨?_, HEV2.out⟩
    rw [HE.out]
    first | rfl | (exact ret_2 (by unfold wrap64; omega) rfl) | (exact ret_2 (by simp) rfl) | (exact ret_2 (by omega) rfl)
theorem sg7 (v : Nat) (h : v < 72057594037927936) : wrap64 ((v : Int) * 256) / 256 = sg 7 v := by
  have e : sg 7 v = if v < 36028797018963968 then (v : Int) else (v : Int) - 72057594037927936 := rfl
  rw [e]
  unfold wrap64
  split <;> omega
theorem signed7 (c : Nat → Nat) (a v : Nat) (w : World) (hv : v < 72057594037927936) (H : Hid (∀ W, Calls Try.prog 16 #[pg c, .int .i64 (a : Int), .int .i64 7] W fun e w' => e = .returned (.tuple #[.int .u64 (v : Int), .int .i64 0]) ∧ Ev W w')) :
    Calls Try.prog 18 #[pg c, .int .i64 (a : Int), .int .i64 7] w fun e w' => e = .returned (.tuple #[.int .i64 (sg 7 v), .int .i64 0]) ∧ Ev w w' := by
  have hE := Lib.hid ((Ev.refl w).alloc (pgO c))
  have HS := Lib.hid (sg7 v hv)
  go_enter Try.func18, Try.ntmps18
  go_wp2_with fail
  refine (H.out _).mono ?_
  rintro e w1 ⟨rfl, hev⟩
  have HEV := Lib.hid (hE.out.step hev)
  clear hev
  go_wp2_with fail
  go_ret2
  refine ⟨?_, HEV.out⟩
  rw [← HS.out]
  rfl
set_option maxRecDepth 100000 in
theorem rsigned7 (c : Nat → Nat) (a v t : Nat) (w : World) (ht : t < 256) (ha : a + 7 ≤ 64) (hvt : ∃ l, l < 281474976710656 ∧ v = l + t * 281474976710656) (H : Hid (∀ W, Calls Try.prog 17 #[pg c, .int .i64 (a : Int), .int .i64 7] W fun e w' => e = .returned (.tuple #[.int .u64 (v : Int), .int .i64 0]) ∧ Ev W w'))
    (H2 : Hid (∀ z W, z = ((a + 6 : Nat) : Int) → Calls Try.prog 39 #[pg c, .int .i64 z] W fun e w' => e = .returned (.int .u64 (t : Int)) ∧ Ev W w')) :
    Calls Try.prog 19 #[pg c, .int .i64 (a : Int), .int .i64 7] w fun e w' => e = .returned (.tuple #[.int .i64 (sg 7 v), .int .i64 0]) ∧ Ev w w' := by
  have hE := Lib.hid ((Ev.refl w).alloc (pgO c))
  have HBP := Lib.hid (BP.new w c)
  obtain ⟨l, hl, hv⟩ := hvt
  have hvM : v < 72057594037927936 := by omega
  have e : sg 7 v = if v < 36028797018963968 then (v : Int) else (v : Int) - 72057594037927936 := rfl
  rcases Nat.lt_or_ge t 128 with h128 | h128
  · have hlow : v < 36028797018963968 := by omega
    rw [if_pos hlow] at e
    have HE := Lib.hid e
    clear e hv
    go_enter Try.func19, Try.ntmps19
    go_wp2_with fail
    refine (H.out _).mono ?_
    rintro e w1 ⟨rfl, hev⟩
    have HEV := Lib.hid (hE.out.step hev)
    obtain ⟨-, hc, -⟩ := HBP.out.ev hev
    have c0 := hc 0 (by omega)
    have c1 := hc 1 (by omega)
    have c2 := hc 2 (by omega)
    have c3 := hc 3 (by omega)
    have c4 := hc 4 (by omega)
    have c5 := hc 5 (by omega)
    have c6 := hc 6 (by omega)
    have c7 := hc 7 (by omega)
    clear hev hc
    go_wp2_with fail
    refine (H2.out _ _ (by omega)).mono ?_
    rintro e w2 ⟨rfl, hev⟩
    have HEV2 := Lib.hid (HEV.out.step hev)
    clear hev c0 c1 c2 c3 c4 c5 c6 c7
    go_wp2_with fail
    go_ret2
    refine ⟨?_, HEV2.out⟩
    rw [HE.out]
    first | rfl | exact ret_2 (by unfold wrap64; omega) rfl
  · have hhi : ¬ v < 36028797018963968 := by omega
    rw [if_neg hhi] at e
    have HE := Lib.hid e
    have hge : 36028797018963968 ≤ v := by omega
    clear e hv hhi
    go_enter Try.func19, Try.ntmps19
    go_wp2_with fail
    refine (H.out _).mono ?_
    rintro e w1 ⟨rfl, hev⟩
    have HEV := Lib.hid (hE.out.step hev)
    obtain ⟨-, hc, -⟩ := HBP.out.ev hev
    have c0 := hc 0 (by omega)
    have c1 := hc 1 (by omega)
    have c2 := hc 2 (by omega)
    have c3 := hc 3 (by omega)
    have c4 := hc 4 (by omega)
    have c5 := hc 5 (by omega)
    have c6 := hc 6 (by omega)
    have c7 := hc 7 (by omega)
    clear hev hc
    go_wp2_with fail
    refine (H2.out _ _ (by omega)).mono ?_
    rintro e w2 ⟨rfl, hev⟩
    have HEV2 := Lib.hid (HEV.out.step hev)
    clear hev c0 c1 c2 c3 c4 c5 c6 c7
    go_wp2_with fail
    go_ret2
    refine ⟨?_, HEV2.out⟩
    rw [HE.out]
    first | rfl | (exact ret_2 (by unfold wrap64; omega) rfl) | (exact ret_2 (by simp) rfl) | (exact ret_2 (by omega) rfl)
theorem sg8 (v : Nat) (h : v < 18446744073709551616) : wrap64 ((v : Int) * 1) / 1 = sg 8 v := by
  have e : sg 8 v = if v < 9223372036854775808 then (v : Int) else (v : Int) - 18446744073709551616 := rfl
  rw [e]
  unfold wrap64
  split <;> omega
theorem signed8 (c : Nat → Nat) (a v : Nat) (w : World) (hv : v < 18446744073709551616) (H : Hid (∀ W, Calls Try.prog 16 #[pg c, .int .i64 (a : Int), .int .i64 8] W fun e w' => e = .returned (.tuple #[.int .u64 (v : Int), .int .i64 0]) ∧ Ev W w')) :
    Calls Try.prog 18 #[pg c, .int .i64 (a : Int), .int .i64 8] w fun e w' => e = .returned (.tuple #[.int .i64 (sg 8 v), .int .i64 0]) ∧ Ev w w' := by
  have hE := Lib.hid ((Ev.refl w).alloc (pgO c))
  have HS := Lib.hid (sg8 v hv)
  go_enter Try.func18, Try.ntmps18
  go_wp2_with fail
  refine (H.out _).mono ?_
  rintro e w1 ⟨rfl, hev⟩
  have HEV := Lib.hid (hE.out.step hev)
  clear hev
  go_wp2_with fail
  go_ret2
  refine ⟨?_, HEV.out⟩
  rw [← HS.out]
  simp
set_option maxRecDepth 100000 in
theorem rsigned8 (c : Nat → Nat) (a v t : Nat) (w : World) (ht : t < 256) (ha : a + 8 ≤ 64) (hvt : ∃ l, l < 72057594037927936 ∧ v = l + t * 72057594037927936) (H : Hid (∀ W, Calls Try.prog 17 #[pg c, .int .i64 (a : Int), .int .i64 8] W fun e w' => e = .returned (.tuple #[.int .u64 (v : Int), .int .i64 0]) ∧ Ev W w'))
    (H2 : Hid (∀ z W, z = ((a + 7 : Nat) : Int) → Calls Try.prog 39 #[pg c, .int .i64 z] W fun e w' => e = .returned (.int .u64 (t : Int)) ∧ Ev W w')) :
    Calls Try.prog 19 #[pg c, .int .i64 (a : Int), .int .i64 8] w fun e w' => e = .returned (.tuple #[.int .i64 (sg 8 v), .int .i64 0]) ∧ Ev w w' := by
  have hE := Lib.hid ((Ev.refl w).alloc (pgO c))
  have HBP := Lib.hid (BP.new w c)
  obtain ⟨l, hl, hv⟩ := hvt
  have hvM : v < 18446744073709551616 := by omega
  have e : sg 8 v = if v < 9223372036854775808 then (v : Int) else (v : Int) - 18446744073709551616 := rfl
  rcases Nat.lt_or_ge t 128 with h128 | h128
  · have hlow : v < 9223372036854775808 := by omega
    rw [if_pos hlow] at e
    have HE := Lib.hid e
    clear e hv
    go_enter Try.func19, Try.ntmps19
    go_wp2_with fail
    refine (H.out _).mono ?_
    rintro e w1 ⟨rfl, hev⟩
    have HEV := Lib.hid (hE.out.step hev)
    obtain ⟨-, hc, -⟩ := HBP.out.ev hev
    have c0 := hc 0 (by omega)
    have c1 := hc 1 (by omega)
    have c2 := hc 2 (by omega)
    have c3 := hc 3 (by omega)
    have c4 := hc 4 (by omega)
    have c5 := hc 5 (by omega)
    have c6 := hc 6 (by omega)
    have c7 := hc 7 (by omega)
    clear hev hc
    go_wp2_with fail
    refine (H2.out _ _ (by omega)).mono ?_
    rintro e w2 ⟨rfl, hev⟩
    have HEV2 := Lib.hid (HEV.out.step hev)
    clear hev c0 c1 c2 c3 c4 c5 c6 c7
    go_wp2_with fail
    go_ret2
    refine ⟨?_, HEV2.out⟩
    rw [HE.out]
    first | rfl | exact ret_2 (by unfold wrap64; omega) rfl
  · have hhi : ¬ v < 9223372036854775808 := by omega
    rw [if_neg hhi] at e
    have HE := Lib.hid e
    have hge : 9223372036854775808 ≤ v := by omega
    clear e hv hhi
    go_enter Try.func19, Try.ntmps19
    go_wp2_with fail
    refine (H.out _).mono ?_
    rintro e w1 ⟨rfl, hev⟩
    have HEV := Lib.hid (hE.out.step hev)
    obtain ⟨-, hc, -⟩ := HBP.out.ev hev
    have c0 := hc 0 (by omega)
    have c1 := hc 1 (by omega)
    have c2 := hc 2 (by omega)
    have c3 := hc 3 (by omega)
    have c4 := hc 4 (by omega)
    have c5 := hc 5 (by omega)
    have c6 := hc 6 (by omega)
    have c7 := hc 7 (by omega)
    clear hev hc
    go_wp2_with fail
    refine (H2.out _ _ (by omega)).mono ?_
    rintro e w2 ⟨rfl, hev⟩
    have HEV2 := Lib.hid (HEV.out.step hev)
    clear hev c0 c1 c2 c3 c4 c5 c6 c7
    go_wp2_with fail
    go_ret2
    refine ⟨?_, HEV2.out⟩
    rw [HE.out]
    first | rfl | (exact ret_2 (by unfold wrap64; omega) rfl) | (exact ret_2 (by simp) rfl) | (exact ret_2 (by omega) rfl)
def sgV (c : Nat → Nat) (a n : Int) : Int := if inE a n = 0 then sg n.toNat (num (byt c) a.toNat n.toNat) else 0
theorem signed_ok (c : Nat → Nat) (a n : Nat) (w : World) (h1 : 1 ≤ n) (h2 : n ≤ 8) (h3 : a + n ≤ 64) : Calls Try.prog 18 #[pg c, .int .i64 (a : Int), .int .i64 (n : Int)] w fun e w' => e = .returned (.tuple #[.int .i64 (sg n (num (byt c) a n)), .int .i64 0]) ∧ Ev w w' := by
  have hv := num_lt (byt_lt c) a n
  have H := Lib.hid fun W => bytes_ok c a n W h1 h2 h3
  generalize num (byt c) a n = v at *
  rcases (show n = 1 ∨ n = 2 ∨ n = 3 ∨ n = 4 ∨ n = 5 ∨ n = 6 ∨ n = 7 ∨ n = 8 by omega) with rfl | rfl | rfl | rfl | rfl | rfl | rfl | rfl
  · exact signed1 c a v w hv H
  · exact signed2 c a v w hv H
  · exact signed3 c a v w hv H
  · exact signed4 c a v w hv H
  · exact signed5 c a v w hv H
  · exact signed6 c a v w hv H
  · exact signed7 c a v w hv H
  · exact signed8 c a v w hv H
theorem rsigned_ok (c : Nat → Nat) (a n : Nat) (w : World) (hP : Pg c) (h1 : 1 ≤ n) (h2 : n ≤ 8) (h3 : a + n ≤ 64) : Calls Try.prog 19 #[pg c, .int .i64 (a : Int), .int .i64 (n : Int)] w fun e w' => e = .returned (.tuple #[.int .i64 (sg n (num (byt c) a n)), .int .i64 0]) ∧ Ev w w' := by
  have H := Lib.hid fun W => rbytes_ok c a n W hP h1 h2 h3
  have ht := byt_lt c (a + (n - 1))
  have H2 := Lib.hid fun z W h => one_at c (a + (n - 1)) z W hP (by omega) h
  have hvt : ∃ l, l < 256 ^ (n - 1) ∧ num (byt c) a n = l + byt c (a + (n - 1)) * 256 ^ (n - 1) := ⟨num (byt c) a (n - 1), num_lt (byt_lt c) _ _, by
    obtain ⟨m, rfl⟩ : ∃ m, n = m + 1 := ⟨n - 1, by omega⟩
    rfl⟩
  generalize num (byt c) a n = v at *
  generalize byt c (a + (n - 1)) = t at *
  rcases (show n = 1 ∨ n = 2 ∨ n = 3 ∨ n = 4 ∨ n = 5 ∨ n = 6 ∨ n = 7 ∨ n = 8 by omega) with rfl | rfl | rfl | rfl | rfl | rfl | rfl | rfl
  · exact rsigned1 c a v t w ht h3 hvt H H2
  · exact rsigned2 c a v t w ht h3 hvt H H2
  · exact rsigned3 c a v t w ht h3 hvt H H2
  · exact rsigned4 c a v t w ht h3 hvt H H2
  · exact rsigned5 c a v t w ht h3 hvt H H2
  · exact rsigned6 c a v t w ht h3 hvt H H2
  · exact rsigned7 c a v t w ht h3 hvt H H2
  · exact rsigned8 c a v t w ht h3 hvt H H2
theorem signed_any (c : Nat → Nat) (a n : Int) (w : World) : Calls Try.prog 18 #[pg c, .int .i64 a, .int .i64 n] w fun e w' => e = .returned (.tuple #[.int .i64 (sgV c a n), .int .i64 (inE a n)]) ∧ Ev w w' := by
  have hE := Lib.hid ((Ev.refl w).alloc (pgO c))
  have HB := Lib.hid fun W => bytes_any c a n W
  unfold byV at HB
  unfold sgV
  rcases inE_cases a n with ⟨h, hh⟩ | ⟨h, hh⟩
  · rw [h, if_pos rfl]
    obtain ⟨p, rfl⟩ : ∃ k : Nat, a = (k : Int) := ⟨a.toNat, by omega⟩
    obtain ⟨q, rfl⟩ : ∃ k : Nat, n = (k : Int) := ⟨n.toNat, by omega⟩
    rw [Int.toNat_natCast, Int.toNat_natCast]
    exact signed_ok c p q w (by omega) (by omega) (by omega)
  · rw [h, if_neg (by decide)]
    rw [h, if_neg (by decide)] at HB
    clear h hh 
    go_enter Try.func18, Try.ntmps18
    go_wp2_with fail
    refine (HB.out _).mono ?_
    rintro e w1 ⟨rfl, hev⟩
    have HEV := Lib.hid (hE.out.step hev)
    clear hev
    go_wp2_with fail
    go_ret2
    exact ⟨rfl, HEV.out⟩
theorem rsigned_any (c : Nat → Nat) (a n : Int) (w : World) (hP : Pg c) : Calls Try.prog 19 #[pg c, .int .i64 a, .int .i64 n] w fun e w' => e = .returned (.tuple #[.int .i64 (sgV c a n), .int .i64 (inE a n)]) ∧ Ev w w' := by
  have hE := Lib.hid ((Ev.refl w).alloc (pgO c))
  have HB := Lib.hid fun W => rbytes_any c a n W hP
  unfold byV at HB
  unfold sgV
  rcases inE_cases a n with ⟨h, hh⟩ | ⟨h, hh⟩
  · rw [h, if_pos rfl]
    obtain ⟨p, rfl⟩ : ∃ k : Nat, a = (k : Int) := ⟨a.toNat, by omega⟩
    obtain ⟨q, rfl⟩ : ∃ k : Nat, n = (k : Int) := ⟨n.toNat, by omega⟩
    rw [Int.toNat_natCast, Int.toNat_natCast]
    exact rsigned_ok c p q w hP (by omega) (by omega) (by omega)
  · rw [h, if_neg (by decide)]
    rw [h, if_neg (by decide)] at HB
    clear h hh hP
    go_enter Try.func19, Try.ntmps19
    go_wp2_with fail
    refine (HB.out _).mono ?_
    rintro e w1 ⟨rfl, hev⟩
    have HEV := Lib.hid (hE.out.step hev)
    clear hev
    go_wp2_with fail
    go_ret2
    exact ⟨rfl, HEV.out⟩
end Go.Proofs.Ytfclbnaabdlmhaa
