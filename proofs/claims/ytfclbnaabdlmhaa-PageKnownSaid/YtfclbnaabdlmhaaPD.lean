import Derived.Test.YtfclbnaabdlmhaaPC
import Derived.RegionTactic
namespace Go.Proofs.Ytfclbnaabdlmhaa
open Go.RowKit
theorem eq22 (a b : Int) (w : World) : Sem.run Try.prog (Op.equalIn 9999 22 (.int .u64 a) (.int .u64 b)) w = .ok (a == b) w := by
  rw [show (9999 : Nat) = 9998 + 1 from rfl]
  unfold Op.equalIn
  simp [run_underlying Try.underlying22]
def eqB (c d : Nat → Nat) : Bool := (c 0 == d 0) && ((c 1 == d 1) && ((c 2 == d 2) && ((c 3 == d 3) && ((c 4 == d 4) && ((c 5 == d 5) && ((c 6 == d 6) && (c 7 == d 7)))))))
theorem eqB_self (c : Nat → Nat) : eqB c c = true := by simp [eqB]
theorem cast_beq (a b : Nat) : ((a : Int) == (b : Int)) = (a == b) := by
  rw [Bool.eq_iff_iff]; simp; omega
set_option maxHeartbeats 1000000 in
theorem eq24 (c d : Nat → Nat) (w : World) : Sem.run Try.prog (Op.equalIn 10000 24 (pg c) (pg d)) w = .ok (eqB c d) w := by
  rw [show (10000 : Nat) = 9999 + 1 from rfl]
  unfold Op.equalIn
  simp [run_underlying Try.underlying24, go_sem, show List.range' 0 8 = [0, 1, 2, 3, 4, 5, 6, 7] from rfl, eq22, cast_beq]
  unfold eqB
  repeat' split
  all_goals simp_all

def exC (k : Nat) : Nat := if k = 0 then 1234605616436508552 else if k = 1 then 255 else 0
def exS (k : Nat) : Nat := if k = 6 then 1234605616436508552 else if k = 7 then 255 else 0
theorem exC_lt : Pg exC := fun k => by unfold exC; split; omega; split <;> omega
theorem ex_by : byV exC 7 3 = 65297 := by kernel_rfl
theorem ex_sg : sgV exC 0 1 = -120 := by kernel_rfl
theorem ex_sm : smK exS 8 = 10455566314196681991 := by kernel_rfl
theorem example_any (w : World) : Calls Try.prog 33 #[] w fun e w' => e = .returned (pg exC) ∧ Ev w w' := by
  go_enter Try.func33, Try.ntmps33
  go_wp2_with fail
  exact bodyPost_ret (v := pg exC) (by simp [results, Try.results33, go_sem, exC]) rfl ⟨rfl, (Ev.refl _).alloc _⟩
set_option maxHeartbeats 1000000 in
theorem awake_any (w : World) : Calls Try.prog 15 #[] w fun e w' => e = .returned (.bool true) ∧ Ev w w' := by
  have HB : Hid (∀ W, Calls Try.prog 16 #[pg exC, .int .i64 7, .int .i64 3] W fun e w' => e = .returned (.tuple #[.int .u64 65297, .int .i64 0]) ∧ Ev W w') := Lib.hid fun W => by
    have h := bytes_any exC 7 3 W
    rw [ex_by, show inE 7 3 = 0 from rfl] at h
    exact h
  have HS : Hid (∀ W, Calls Try.prog 18 #[pg exC, .int .i64 0, .int .i64 1] W fun e w' => e = .returned (.tuple #[.int .i64 (-120), .int .i64 0]) ∧ Ev W w') := Lib.hid fun W => by
    have h := signed_any exC 0 1 W
    rw [ex_sg, show inE 0 1 = 0 from rfl] at h
    exact h
  have HM : Hid (∀ W, Calls Try.prog 27 #[.agg #[.int .u64 0, .int .u64 0, .int .u64 0, .int .u64 0, .int .u64 0, .int .u64 0, .int .u64 1234605616436508552, .int .u64 255]] W fun e w' => e = .returned (.int .u64 10455566314196681991) ∧ Ev W w') := Lib.hid fun W => by
    have h := sum_any exS W
    rw [ex_sm] at h
    exact h
  go_enter Try.func15, Try.ntmps15
  go_wp2_with fail
  refine (example_any _).mono ?_
  rintro e w1 ⟨rfl, h1⟩
  go_wp2_with fail
  refine (HB.out _).mono ?_
  rintro e w2 ⟨rfl, h2⟩
  go_wp2_with fail
  refine (example_any _).mono ?_
  rintro e w3 ⟨rfl, h3⟩
  go_wp2_with fail
  refine (HS.out _).mono ?_
  rintro e w4 ⟨rfl, h4⟩
  go_wp2_with fail
  refine (HM.out _).mono ?_
  rintro e w5 ⟨rfl, h5⟩
  go_wp2_with fail
  go_ret
  exact ⟨rfl, (((h1.step h2).step h3).step h4).step h5⟩
set_option maxRecDepth 100000 in
set_option maxHeartbeats 2000000 in
theorem words_law (c : Nat → Nat) (word : Int) (v : Nat) (w : World) : Calls Try.prog 3 #[pg c, .int .i64 word, .int .u64 (v : Int)] w fun e w' => e = .returned (.bool true) ∧ Ev w w' := by
  have hE := Lib.hid ((Ev.refl w).alloc (pgO c))
  have HC := Lib.hid (BP.new w c)
  have H1 := Lib.hid fun W => get_any c word W
  have H2 := Lib.hid fun W => rget_any c word W
  have H3 := Lib.hid fun W => put_any c word v W
  have H4 := Lib.hid fun W => rput_any c word v W
  have HQ : Hid (∀ d W, Sem.run Try.prog (Op.equalIn 10000 24 (pg d) (pg d)) W = .ok true W) := Lib.hid fun d W => by rw [eq24, eqB_self]
  obtain ⟨g, x, hg⟩ : ∃ (x : Nat) (e : Int), gtV c word = .tuple #[.int .u64 (x : Int), .int .i64 e] := by
    unfold gtV; split
    · exact ⟨_, _, rfl⟩
    · exact ⟨0, _, rfl⟩
  obtain ⟨d, y, hp⟩ : ∃ (d : Nat → Nat) (e : Int), ptV c word v = .tuple #[pg d, .int .i64 e] := by
    unfold ptV; split
    · exact ⟨_, _, rfl⟩
    · exact ⟨_, _, rfl⟩
  rw [hg] at H1 H2
  rw [hp] at H3 H4
  clear hg hp
  have q1 : ((g : Int) == (g : Int)) = true := by simp
  have q2 : (x == x) = true := by simp
  have q3 : (y == y) = true := by simp
  go_enter Try.func3, Try.ntmps3
  go_wp2_with fail
  refine (H1.out _).mono ?_
  rintro e w1 ⟨rfl, h1⟩
  have HC1 := Lib.hid (HC.out.ev h1)
  have HE1 := Lib.hid (hE.out.step h1)
  clear h1
  obtain ⟨-, hc, -⟩ := HC1.out
  have c0 := hc 0 (by omega)
  have c1 := hc 1 (by omega)
  have c2 := hc 2 (by omega)
  have c3 := hc 3 (by omega)
  have c4 := hc 4 (by omega)
  have c5 := hc 5 (by omega)
  have c6 := hc 6 (by omega)
  have c7 := hc 7 (by omega)
  clear hc
  go_wp2_with fail
  refine (H2.out _).mono ?_
  rintro e w2 ⟨rfl, h2⟩
  have HC2 := Lib.hid (HC1.out.ev h2)
  have HE2 := Lib.hid (HE1.out.step h2)
  clear h2 c0 c1 c2 c3 c4 c5 c6 c7
  obtain ⟨-, hc, -⟩ := HC2.out
  have c0 := hc 0 (by omega)
  have c1 := hc 1 (by omega)
  have c2 := hc 2 (by omega)
  have c3 := hc 3 (by omega)
  have c4 := hc 4 (by omega)
  have c5 := hc 5 (by omega)
  have c6 := hc 6 (by omega)
  have c7 := hc 7 (by omega)
  clear hc
  go_wp2_with fail
  refine (H3.out _).mono ?_
  rintro e w3 ⟨rfl, h3⟩
  have HC3 := Lib.hid ((HC2.out.ev h3).ev ((Ev.refl _).alloc (pgO d)))
  have HE3 := Lib.hid ((HE2.out.step h3).alloc (pgO d))
  have HD3 := Lib.hid (BP.new w3 d)
  clear h3 c0 c1 c2 c3 c4 c5 c6 c7
  obtain ⟨-, hc, -⟩ := HC3.out
  have c0 := hc 0 (by omega)
  have c1 := hc 1 (by omega)
  have c2 := hc 2 (by omega)
  have c3 := hc 3 (by omega)
  have c4 := hc 4 (by omega)
  have c5 := hc 5 (by omega)
  have c6 := hc 6 (by omega)
  have c7 := hc 7 (by omega)
  clear hc
  go_wp2_with fail
  refine (H4.out _).mono ?_
  rintro e w4 ⟨rfl, h4⟩
  have HE4 := Lib.hid ((HE3.out.step h4).alloc (pgO d))
  have HD4 := Lib.hid ((HD3.out.ev h4).ev ((Ev.refl _).alloc (pgO d)))
  clear h4 c0 c1 c2 c3 c4 c5 c6 c7
  obtain ⟨-, hc, -⟩ := HD4.out
  have c0 := hc 0 (by omega)
  have c1 := hc 1 (by omega)
  have c2 := hc 2 (by omega)
  have c3 := hc 3 (by omega)
  have c4 := hc 4 (by omega)
  have c5 := hc 5 (by omega)
  have c6 := hc 6 (by omega)
  have c7 := hc 7 (by omega)
  clear hc
  have hq := HQ.out
  go_wp2_with fail
  refine (awake_any _).mono ?_
  rintro e w5 ⟨rfl, h5⟩
  have HE5 := Lib.hid (HE4.out.step h5)
  clear h5
  go_wp2_with fail
  go_ret
  exact ⟨rfl, HE5.out⟩
end Go.Proofs.Ytfclbnaabdlmhaa
