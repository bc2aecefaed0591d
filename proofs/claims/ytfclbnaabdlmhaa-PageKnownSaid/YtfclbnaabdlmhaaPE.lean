import Derived.Test.YtfclbnaabdlmhaaPD
namespace Go.Proofs.Ytfclbnaabdlmhaa
open Go.RowKit
theorem putb_both (c : Nat → Nat) (a n : Int) (v : Nat) (hP : Pg c) (hv : v < 18446744073709551616) : ∃ d : Nat → Nat,
    (∀ W, Calls Try.prog 20 #[pg c, .int .i64 a, .int .i64 n, .int .u64 (v : Int)] W fun e w' => e = .returned (.tuple #[pg d, .int .i64 (inE a n)]) ∧ Ev W w') ∧
    (∀ W, Calls Try.prog 21 #[pg c, .int .i64 a, .int .i64 n, .int .u64 (v : Int)] W fun e w' => e = .returned (.tuple #[pg d, .int .i64 (inE a n)]) ∧ Ev W w') := by
  rcases inE_cases a n with ⟨h, hh⟩ | ⟨h, hh⟩
  · rw [h]
    obtain ⟨p, rfl⟩ : ∃ k : Nat, a = (k : Int) := ⟨a.toNat, by omega⟩
    obtain ⟨q, rfl⟩ : ∃ k : Nat, n = (k : Int) := ⟨n.toNat, by omega⟩
    exact ⟨_, fun W => putb_ok c p q v W (by omega) (by omega) (by omega), fun W => rputb_ok c p q v W hP (by omega) (by omega) (by omega) hv⟩
  · rw [h]
    exact ⟨_, fun W => putb_bad c a n v W hh, fun W => rputb_bad c a n v W hh⟩
abbrev ak (a n : Int) (v : Nat) : Value := .agg #[.int .i64 a, .int .i64 n, .int .u64 (v : Int)]
abbrev akO (a n : Int) (v : Nat) : Obj := .cells #[.int .i64 a, .int .i64 n, .int .u64 (v : Int)] 33
/-- a box with what is asked -/
def BA (W : World) (b : Nat) (a n : Int) (v : Nat) : Prop := b < W.heap.size ∧ W.cell? ⟨b, 0, none⟩ = some (.int .i64 a) ∧ W.cell? ⟨b, 1, none⟩ = some (.int .i64 n) ∧ W.cell? ⟨b, 2, none⟩ = some (.int .u64 (v : Int))
theorem BA.new1 (w : World) (a n : Int) (v : Nat) (o : Obj) : BA ((w.alloc o).alloc (akO a n v)) (w.heap.size + 1) a n v := by
  have h : BA ((w.alloc o).alloc (akO a n v)) (w.alloc o).heap.size a n v := ⟨by simp, by simp, by simp, by simp⟩
  have e : (w.alloc o).heap.size = w.heap.size + 1 := by simp
  rwa [e] at h
theorem BA.ev {w W : World} {b : Nat} {a n : Int} {v : Nat} (h : BA w b a n v) (e : Ev w W) : BA W b a n v := by
  obtain ⟨h0, h1, h2, h3⟩ := h
  obtain ⟨p, -⟩ := bc e
  exact ⟨Nat.lt_of_lt_of_le h0 e.sz, by rw [p _ _ h0, h1], by rw [p _ _ h0, h2], by rw [p _ _ h0, h3]⟩
set_option maxRecDepth 100000 in
set_option maxHeartbeats 4000000 in
theorem bytes_law (c : Nat → Nat) (a n : Int) (v : Nat) (w : World) (hP : Pg c) (hv : v < 18446744073709551616) : Calls Try.prog 4 #[pg c, ak a n v] w fun e w' => e = .returned (.bool true) ∧ Ev w w' := by
  have HE0 := Lib.hid (show Ev w ((w.alloc (pgO c)).alloc (akO a n v)) from ((Ev.refl w).alloc (pgO c)).alloc (akO a n v))
  have HC0 := Lib.hid ((BP.new w c).ev ((Ev.refl _).alloc (akO a n v)))
  have HA0 := Lib.hid (BA.new1 w a n v (pgO c))
  have H1 := Lib.hid fun W => bytes_any c a n W
  have H2 := Lib.hid fun W => rbytes_any c a n W hP
  have H3 := Lib.hid fun W => signed_any c a n W
  have H4 := Lib.hid fun W => rsigned_any c a n W hP
  obtain ⟨d, hd1, hd2⟩ := putb_both c a n v hP hv
  have H5 := Lib.hid hd1
  have H6 := Lib.hid hd2
  have HQ : Hid (∀ d W, Sem.run Try.prog (Op.equalIn 10000 24 (pg d) (pg d)) W = .ok true W) := Lib.hid fun d W => by rw [eq24, eqB_self]
  generalize byV c a n = x at *
  generalize sgV c a n = y at *
  generalize inE a n = z at *
  clear hd1 hd2 hP hv
  have q1 : (x != x) = false := by simp
  have q2 : (y != y) = false := by simp
  have q3 : (z != z) = false := by simp
  have q4 : (z == z) = true := by simp
  go_enter Try.func4, Try.ntmps4
  go_wp2_with fail
  refine (H1.out _).mono ?_
  rintro e w1 ⟨rfl, h1⟩
  have HC1 := Lib.hid (HC0.out.ev h1)
  have HA1 := Lib.hid (HA0.out.ev h1)
  have HE1 := Lib.hid (HE0.out.step h1)
  clear h1
  obtain ⟨-, h8, -⟩ := HC1.out
  have c0 := h8 0 (by omega)
  have c1 := h8 1 (by omega)
  have c2 := h8 2 (by omega)
  have c3 := h8 3 (by omega)
  have c4 := h8 4 (by omega)
  have c5 := h8 5 (by omega)
  have c6 := h8 6 (by omega)
  have c7 := h8 7 (by omega)
  clear h8
  obtain ⟨-, a0, a1, a2⟩ := HA1.out
  go_wp2_with fail
  refine (H2.out _).mono ?_
  rintro e w2 ⟨rfl, h2⟩
  have HC2 := Lib.hid (HC1.out.ev h2)
  have HA2 := Lib.hid (HA1.out.ev h2)
  have HE2 := Lib.hid (HE1.out.step h2)
  clear h2
  clear c0 c1 c2 c3 c4 c5 c6 c7
  clear a0 a1 a2
  obtain ⟨-, h8, -⟩ := HC2.out
  have c0 := h8 0 (by omega)
  have c1 := h8 1 (by omega)
  have c2 := h8 2 (by omega)
  have c3 := h8 3 (by omega)
  have c4 := h8 4 (by omega)
  have c5 := h8 5 (by omega)
  have c6 := h8 6 (by omega)
  have c7 := h8 7 (by omega)
  clear h8
  obtain ⟨-, a0, a1, a2⟩ := HA2.out
  go_wp2_with fail
  refine (H3.out _).mono ?_
  rintro e w3 ⟨rfl, h3⟩
  have HC3 := Lib.hid (HC2.out.ev h3)
  have HA3 := Lib.hid (HA2.out.ev h3)
  have HE3 := Lib.hid (HE2.out.step h3)
  clear h3
  clear c0 c1 c2 c3 c4 c5 c6 c7
  clear a0 a1 a2
  obtain ⟨-, h8, -⟩ := HC3.out
  have c0 := h8 0 (by omega)
  have c1 := h8 1 (by omega)
  have c2 := h8 2 (by omega)
  have c3 := h8 3 (by omega)
  have c4 := h8 4 (by omega)
  have c5 := h8 5 (by omega)
  have c6 := h8 6 (by omega)
  have c7 := h8 7 (by omega)
  clear h8
  obtain ⟨-, a0, a1, a2⟩ := HA3.out
  go_wp2_with fail
  refine (H4.out _).mono ?_
  rintro e w4 ⟨rfl, h4⟩
  have HC4 := Lib.hid (HC3.out.ev h4)
  have HA4 := Lib.hid (HA3.out.ev h4)
  have HE4 := Lib.hid (HE3.out.step h4)
  clear h4
  clear c0 c1 c2 c3 c4 c5 c6 c7
  clear a0 a1 a2
  obtain ⟨-, h8, -⟩ := HC4.out
  have c0 := h8 0 (by omega)
  have c1 := h8 1 (by omega)
  have c2 := h8 2 (by omega)
  have c3 := h8 3 (by omega)
  have c4 := h8 4 (by omega)
  have c5 := h8 5 (by omega)
  have c6 := h8 6 (by omega)
  have c7 := h8 7 (by omega)
  clear h8
  obtain ⟨-, a0, a1, a2⟩ := HA4.out
  go_wp2_with fail
  refine (H5.out _).mono ?_
  rintro e w5 ⟨rfl, h5⟩
  have HC5 := Lib.hid ((HC4.out.ev h5).ev ((Ev.refl _).alloc (pgO d)))
  have HA5 := Lib.hid ((HA4.out.ev h5).ev ((Ev.refl _).alloc (pgO d)))
  have HE5 := Lib.hid ((HE4.out.step h5).alloc (pgO d))
  have HD5 := Lib.hid (BP.new w5 d)
  clear h5
  clear c0 c1 c2 c3 c4 c5 c6 c7
  clear a0 a1 a2
  obtain ⟨-, h8, -⟩ := HC5.out
  have c0 := h8 0 (by omega)
  have c1 := h8 1 (by omega)
  have c2 := h8 2 (by omega)
  have c3 := h8 3 (by omega)
  have c4 := h8 4 (by omega)
  have c5 := h8 5 (by omega)
  have c6 := h8 6 (by omega)
  have c7 := h8 7 (by omega)
  clear h8
  obtain ⟨-, a0, a1, a2⟩ := HA5.out
  go_wp2_with fail
  refine (H6.out _).mono ?_
  rintro e w6 ⟨rfl, h6⟩
  have HD6 := Lib.hid ((HD5.out.ev h6).ev ((Ev.refl _).alloc (pgO d)))
  have HE6 := Lib.hid ((HE5.out.step h6).alloc (pgO d))
  clear h6
  clear c0 c1 c2 c3 c4 c5 c6 c7
  clear a0 a1 a2
  obtain ⟨-, h8, -⟩ := HD6.out
  have c0 := h8 0 (by omega)
  have c1 := h8 1 (by omega)
  have c2 := h8 2 (by omega)
  have c3 := h8 3 (by omega)
  have c4 := h8 4 (by omega)
  have c5 := h8 5 (by omega)
  have c6 := h8 6 (by omega)
  have c7 := h8 7 (by omega)
  clear h8
  have hq := HQ.out
  go_wp2_with fail
  refine (awake_any _).mono ?_
  rintro e w7 ⟨rfl, h7⟩
  have HE7 := Lib.hid (HE6.out.step h7)
  clear h7
  go_wp2_with fail
  go_ret
  exact ⟨rfl, HE7.out⟩
end Go.Proofs.Ytfclbnaabdlmhaa
