import Derived.Test.YteilclbpehmbpaaB4
namespace Go.Proofs.Yteilclbpehmbpaa
open Go.RowKit Go.Maps
/-- valid lists -/
structure VL (w : World) (A B C : Option Addr) (n m : Nat) (La Li : List Int) (R : List Bool) : Prop where
  hn : La.length = n
  hm : Li.length = m
  hA : RdI w A La
  hB : RdI w B Li
  hC : RdB w C R
  hk1 : 1 ≤ R.length
  hk2 : R.length ≤ 256
  hnd : (La ++ Li).Nodup
  hin : ∀ y ∈ La ++ Li, 0 ≤ y ∧ y < (R.length : Int)
  hrf : ∀ j : Nat, j < R.length → R.getD j false = true → (j : Int) ∈ La ++ Li
  hlen : n + m ≤ 60
theorem VL.ev {w W : World} {A B C : Option Addr} {n m : Nat} {La Li : List Int} {R : List Bool} (h : VL w A B C n m La Li R) (e : Ev w W) : VL W A B C n m La Li R :=
  ⟨h.hn, h.hm, h.hA.ev e, h.hB.ev e, h.hC.ev e, h.hk1, h.hk2, h.hnd, h.hin, h.hrf, h.hlen⟩
/-- how many frames the inactive list lacks -/
def lkV (n m : Nat) : Int := max ((((n + m : Nat) : Int) + rt ((n + m : Nat) : Int)) / (rt ((n + m : Nat) : Int) + 1) - m) 0
theorem tg_bd (s : Nat) (h : s ≤ 256) : 0 ≤ ((s : Int) + rt s) / (rt s + 1) ∧ ((s : Int) + rt s) / (rt s + 1) ≤ 300 := by
  obtain ⟨a, b⟩ := rt_bd (s : Int) (by omega)
  have q2 : 0 ≤ ((s : Int) + rt s) / (rt s + 1) := Int.ediv_nonneg (by omega) (by omega)
  have q3 : ((s : Int) + rt s) / (rt s + 1) ≤ (s : Int) + rt s := Int.ediv_le_self _ (by omega)
  omega
theorem target_ok (n : Int) (w : World) (h0 : 0 ≤ n) (h1 : n ≤ 256) : Calls Try.prog 19 #[.int .i64 n] w fun e w' => e = .returned (.tuple #[.int .i64 ((n + rt n) / (rt n + 1)), .int .i64 0]) ∧ w = w' := by
  have h := target_any n w
  unfold tgV rtE at h
  rwa [if_pos ⟨h0, h1⟩, if_pos ⟨h0, h1⟩] at h
set_option maxHeartbeats 2000000 in
theorem lacks_ok (A B C : Option Addr) (n c m d e : Nat) (La Li : List Int) (R : List Bool) (w : World) (h : VL w A B C n m La Li R) :
    Calls Try.prog 15 #[ls A n c B m d C R.length e] w fun x w' => x = .returned (.tuple #[.int .i64 (lkV n m), .int .i64 0]) ∧ Ev w w' := by
  have HCK : Hid (∀ W, Ev w W → Calls Try.prog 32 #[ls A n c B m d C R.length e] W fun x w' => x = .returned (.int .i64 0) ∧ Ev W w') := Lib.hid fun W ev => by
    have v := h.ev ev
    exact check_ok A B C n c m d e La Li R W v.hn v.hm v.hA v.hB v.hC v.hk1 v.hk2 v.hnd v.hin v.hrf (by have := v.hlen; omega)
  have hl := h.hlen
  have HT := Lib.hid fun W => target_ok ((n + m : Nat) : Int) W (by omega) (by omega)
  obtain ⟨t0, t1⟩ := tg_bd (n + m) (by omega)
  have HBX := Lib.hid (BL.new w A n c B m d C R.length e)
  have HE0 := Lib.hid ((Ev.refl w).alloc (lsO A n c B m d C R.length e))
  unfold lkV
  generalize (((n + m : Nat) : Int) + rt ((n + m : Nat) : Int)) / (rt ((n + m : Nat) : Int) + 1) = T at *
  have hcast : ((n + m : Nat) : Int) = (n : Int) + (m : Int) := by omega
  rw [hcast] at HT
  clear hcast
  have hmx : (max (T - (m : Int)) 0 = T - m ∧ 0 ≤ T - (m : Int)) ∨ (max (T - (m : Int)) 0 = 0 ∧ T - (m : Int) < 0) := by omega
  have hn0 : (0 : Int) ≤ n := by omega
  have hm0 : (0 : Int) ≤ m := by omega
  have hnm : (n : Int) + m ≤ 60 := by omega
  clear h
  go_enter Try.func15, Try.ntmps15
  go_wp2_with fail
  refine (HCK.out _ HE0.out).mono ?_
  rintro x w1 ⟨rfl, hev⟩
  have HBL := Lib.hid (HBX.out.ev hev)
  have HE1 := Lib.hid (HE0.out.step hev)
  clear hev
  obtain ⟨l1, x0, x1, x2⟩ := HBL.out
  go_wp2_with fail
  refine (HT.out _).mono ?_
  rintro x w2 ⟨rfl, rfl⟩
  go_wp2_with fail
  all_goals
    go_ret2
    exact ⟨ret_2 (by omega) rfl, HE1.out⟩
/-- what is done next -/
def whV (n m : Nat) (Li : List Int) (R : List Bool) : Int := if 0 < lkV n m ∧ 0 < n then 1 else if m = 0 then 0 else if R.getD (Li.getD (m - 1) 0).toNat false = true then 2 else 3
set_option maxHeartbeats 2000000 in
theorem decide_any (A B C : Option Addr) (n c m d e : Nat) (La Li : List Int) (R : List Bool) (w : World) (h : VL w A B C n m La Li R) :
    Calls Try.prog 37 #[ls A n c B m d C R.length e, .int .i64 (lkV n m)] w fun x w' => x = .returned (.int .i64 (whV n m Li R)) ∧ Ev w w' := by
  have hl := h.hlen
  have HBX := Lib.hid (BL.new w A n c B m d C R.length e)
  have HE0 := Lib.hid ((Ev.refl w).alloc (lsO A n c B m d C R.length e))
  have HV := Lib.hid (h.ev ((Ev.refl w).alloc (lsO A n c B m d C R.length e)))
  unfold whV
  generalize lkV n m = L at *
  clear h
  obtain ⟨l1, x0, x1, x2⟩ := HBX.out
  have hn0 : (0 : Int) ≤ n := by omega
  have hm0 : (0 : Int) ≤ m := by omega
  have hm60 : (m : Int) ≤ 60 := by omega
  by_cases h1 : 0 < L ∧ 0 < n
  · rw [if_pos h1]
    obtain ⟨h1, h2⟩ := h1
    have h2' : (0 : Int) < n := by omega
    go_enter Try.func37, Try.ntmps37
    go_wp2
    go_ret
    exact ⟨rfl, HE0.out⟩
  · rw [if_neg h1]
    have hg : (decide (0 < L) = false) ∨ (decide (0 < L) = true ∧ n = 0) := by
      by_cases hL : 0 < L
      · right; exact ⟨decide_eq_true hL, by omega⟩
      · left; exact decide_eq_false hL
    clear h1
    rcases Nat.eq_zero_or_pos m with hmz | hmp
    · subst hmz
      rw [if_pos rfl]
      rcases hg with hg | ⟨hg, rfl⟩
      all_goals
        go_enter Try.func37, Try.ntmps37
        go_wp2
        go_ret
        exact ⟨rfl, HE0.out⟩
    · obtain ⟨q, rfl⟩ : ∃ q, m = q + 1 := ⟨m - 1, by omega⟩
      rw [if_neg (by omega), show q + 1 - 1 = q from rfl]
      have hq : q < Li.length := by rw [HV.out.hm]; omega
      obtain ⟨b, o, rfl, hb, c1⟩ := HV.out.hB.2 q hq
      have hin := HV.out.hin (Li.getD q 0) (List.mem_append_right _ (by simp [List.getD, hq]))
      obtain ⟨f, hf⟩ : ∃ f : Nat, Li.getD q 0 = f := ⟨(Li.getD q 0).toNat, by omega⟩
      rw [hf] at c1 hin ⊢
      rw [Int.toNat_natCast]
      obtain ⟨b', o', rfl, hb', c2⟩ := HV.out.hC.2 f (by omega)
      generalize R.getD f false = r at *
      have f0 : 0 ≤ (f : Int) := by omega
      have f1 : (f : Int) < (R.length : Int) := hin.2
      have i1 : IntKind.i64.wrap ((q : Int) + 1 - 1) = (q : Int) := by rw [show (q : Int) + 1 - 1 = q from by omega]; exact IntWalk.i64_in _ (by omega)
      have q0 : 0 ≤ (q : Int) := by omega
      have q1 : (q : Int) < (q : Int) + 1 := by omega
      have dq : decide ((q : Int) < 0) = false := decide_eq_false (by omega)
      clear hin hq hf
      rcases hg with hg | ⟨hg, rfl⟩ <;> cases r
      all_goals
        go_enter Try.func37, Try.ntmps37
        go_wp2
        go_quiet (fail)
        go_wp2
        go_ret
        exact ⟨rfl, HE0.out.drewN _⟩
set_option maxHeartbeats 1000000 in
theorem Which_ok (A B C : Option Addr) (n c m d e : Nat) (La Li : List Int) (R : List Bool) (w : World) (h : VL w A B C n m La Li R) :
    Calls Try.prog 23 #[ls A n c B m d C R.length e] w fun x w' => x = .returned (.tuple #[.int .i64 (whV n m Li R), .int .i64 0]) ∧ Ev w w' := by
  have HL : Hid (∀ W, Ev w W → Calls Try.prog 15 #[ls A n c B m d C R.length e] W fun x w' => x = .returned (.tuple #[.int .i64 (lkV n m), .int .i64 0]) ∧ Ev W w') := Lib.hid fun W ev => lacks_ok A B C n c m d e La Li R W (h.ev ev)
  have HD : Hid (∀ W, Ev w W → Calls Try.prog 37 #[ls A n c B m d C R.length e, .int .i64 (lkV n m)] W fun x w' => x = .returned (.int .i64 (whV n m Li R)) ∧ Ev W w') := Lib.hid fun W ev => decide_any A B C n c m d e La Li R W (h.ev ev)
  have HBX := Lib.hid (BL.new w A n c B m d C R.length e)
  have HE0 := Lib.hid ((Ev.refl w).alloc (lsO A n c B m d C R.length e))
  generalize lkV n m = L at *
  generalize whV n m Li R = V at *
  clear h
  go_enter Try.func23, Try.ntmps23
  go_wp2_with fail
  refine (HL.out _ HE0.out).mono ?_
  rintro x w1 ⟨rfl, hev⟩
  have HBL := Lib.hid (HBX.out.ev hev)
  have HE1 := Lib.hid (HE0.out.step hev)
  clear hev
  obtain ⟨l1, x0, x1, x2⟩ := HBL.out
  go_wp2_with fail
  refine (HD.out _ HE1.out).mono ?_
  rintro x w2 ⟨rfl, hev⟩
  have hE := HE1.out.step hev
  clear hev l1 x0 x1 x2
  go_wp2_with fail
  go_ret2
  exact ⟨rfl, hE⟩
set_option maxHeartbeats 1000000 in
theorem which_ok (A B C : Option Addr) (n c m d e : Nat) (La Li : List Int) (R : List Bool) (w : World) (h : VL w A B C n m La Li R) (want : Int) (hw : whV n m Li R = want) :
    Calls Try.prog 13 #[ls A n c B m d C R.length e, .int .i64 want] w fun x w' => x = .returned (.bool true) ∧ Ev w w' := by
  have HL : Hid (∀ W, Ev w W → Calls Try.prog 23 #[ls A n c B m d C R.length e] W fun x w' => x = .returned (.tuple #[.int .i64 want, .int .i64 0]) ∧ Ev W w') := Lib.hid fun W ev => by
    have hh := Which_ok A B C n c m d e La Li R W (h.ev ev)
    rwa [hw] at hh
  have HE0 := Lib.hid ((Ev.refl w).alloc (lsO A n c B m d C R.length e))
  have ew : (want == want) = true := by simp
  clear h hw
  go_enter Try.func13, Try.ntmps13
  go_wp2_with fail
  refine (HL.out _ HE0.out).mono ?_
  rintro x w1 ⟨rfl, hev⟩
  have hE := HE0.out.step hev
  clear hev
  go_wp2_with fail
  go_ret
  exact ⟨rfl, hE⟩
end Go.Proofs.Yteilclbpehmbpaa
