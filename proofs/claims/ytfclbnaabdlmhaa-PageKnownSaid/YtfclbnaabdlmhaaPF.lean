import Derived.Test.YtfclbnaabdlmhaaPE
import Derived.Deep.RegionHeld3
namespace Go.Proofs.Ytfclbnaabdlmhaa
open Go.RowKit
theorem tmod_lt (n m : Int) (h : 1 ≤ m) : -m < n.tmod m ∧ n.tmod m < m := by
  have h1 := Int.emod_nonneg n (show m ≠ 0 by omega)
  have h2 := Int.emod_lt_of_pos n (show 0 < m by omega)
  rw [Int.tmod_eq_emod]
  split <;> omega
theorem tmod_neg (n m : Int) (h : 1 ≤ m) : n.tmod m < 0 → n.tmod m + m = n % m := by
  have h1 := Int.emod_nonneg n (show m ≠ 0 by omega)
  have h2 := Int.emod_lt_of_pos n (show 0 < m by omega)
  rw [Int.tmod_eq_emod]
  split <;> omega
theorem tmod_pos (n m : Int) (h : 1 ≤ m) : 0 ≤ n.tmod m → n.tmod m = n % m := by
  have h2 := Int.emod_lt_of_pos n (show 0 < m by omega)
  rw [Int.tmod_eq_emod]
  split <;> omega
theorem mod_any (n m : Int) (w : World) (h1 : 1 ≤ m) (h2 : m ≤ 1099511627776) : Calls Try.prog 34 #[.int .i64 n, .int .i64 m] w fun e w' => e = .returned (.int .i64 (n % m)) ∧ w = w' := by
  obtain ⟨t1, t2⟩ := tmod_lt n m h1
  have t3 := Lib.hid (tmod_neg n m h1)
  have t4 := Lib.hid (tmod_pos n m h1)
  have t5 : IntKind.i64.wrap (n.tmod m) = n.tmod m := IntWalk.i64_in _ (by omega)
  have hm : (m == 0) = false := by simp; omega
  go_enter Try.func34, Try.ntmps34
  go_wp2
  · go_ret
    exact ⟨ret_i64 (t3.out (by omega)), rfl⟩
  · go_ret
    exact ⟨ret_i64 (t4.out (by omega)), rfl⟩
theorem rot7_inj {x y : Nat} (h : rot 7 x = rot 7 y) (hx : x < 18446744073709551616) (hy : y < 18446744073709551616) : x = y := by
  have p1 : (2 : Nat) ^ 7 = 128 := by decide
  have p2 : (2 : Nat) ^ (64 - 7) = 144115188075855872 := by decide
  have e1 : ∀ z, z * 128 % 18446744073709551616 = z % 144115188075855872 * 128 := fun z => by
    rw [show (18446744073709551616 : Nat) = 144115188075855872 * 128 from by decide]
    exact Nat.mul_mod_mul_right 128 z 144115188075855872
  unfold rot at h
  rw [p1, p2, e1, e1] at h
  have a1 := Nat.div_add_mod x 144115188075855872
  have a2 := Nat.div_add_mod y 144115188075855872
  have b1 : x / 144115188075855872 < 128 := by omega
  have b2 : y / 144115188075855872 < 128 := by omega
  clear e1 p1 p2
  generalize x / 144115188075855872 = p at *
  generalize y / 144115188075855872 = q at *
  generalize x % 144115188075855872 = r at *
  generalize y % 144115188075855872 = t at *
  omega
theorem upd_self (c : Nat → Nat) (k v : Nat) (h : c k = v) : upd c k v = c := by
  funext i; unfold upd
  by_cases e : i = k
  · rw [if_pos e, e, h]
  · rw [if_neg e]
theorem smK_congr (c d : Nat → Nat) (j : Nat) (h : ∀ i, i < j → c i = d i) : smK c j = smK d j := by
  induction j with
  | zero => rfl
  | succ j ih => rw [smK, smK, ih (fun i hi => h i (by omega)), h j (by omega)]
theorem smK_ne (c d : Nat → Nat) (k : Nat) (hc : Pg c) (hd : Pg d) (h : ∀ i, i ≠ k → c i = d i) (hk : c k ≠ d k) : ∀ n, smK c (k + 1 + n) ≠ smK d (k + 1 + n)
  | 0 => by
    have e := smK_congr c d k (fun i hi => h i (by omega))
    show smK c (k + 1) ≠ smK d (k + 1)
    rw [smK, smK, e]
    have h1 := rot_lt 7 (smK d k) (by omega) (smK_lt d k)
    have h2 := hc k
    have h3 := hd k
    omega
  | n + 1 => by
    have ih := smK_ne c d k hc hd h hk n
    show smK c (k + 1 + n + 1) ≠ smK d (k + 1 + n + 1)
    rw [smK, smK, h (k + 1 + n) (by omega)]
    intro x
    apply ih
    refine rot7_inj ?_ (smK_lt _ _) (smK_lt _ _)
    have h1 := rot_lt 7 (smK d (k + 1 + n)) (by omega) (smK_lt d _)
    have h4 := rot_lt 7 (smK c (k + 1 + n)) (by omega) (smK_lt c _)
    have h3 := hd (k + 1 + n)
    omega
theorem smK_upd (c : Nat → Nat) (k v : Nat) (hc : Pg c) (hv : v < 18446744073709551616) (hk : k < 8) (h : c k ≠ v) : smK c 8 ≠ smK (upd c k v) 8 := by
  have := smK_ne c (upd c k v) k hc (fun i => by unfold upd; split; exact hv; exact hc i) (fun i hi => by unfold upd; rw [if_neg hi]) (by unfold upd; rw [if_pos rfl]; exact h) (7 - k)
  rwa [show k + 1 + (7 - k) = 8 from by omega] at this
theorem dfL_comm (c d : Nat → Nat) (k : Nat) : dfL d c k = dfL c d k := by
  induction k with
  | zero => rfl
  | succ k ih =>
    rw [dfL_succ, dfL_succ, ih]
    congr 1
    by_cases h : c k = d k
    · rw [if_pos h, if_pos h.symm]
    · rw [if_neg h, if_neg (fun x => h x.symm)]
theorem dfL_self (c : Nat → Nat) (k : Nat) : dfL c c k = [] := by
  induction k with
  | zero => rfl
  | succ k ih => rw [dfL_succ, ih]; simp
theorem dfL_upd (c : Nat → Nat) (k v n : Nat) (h : c k ≠ v) : dfL c (upd c k v) n = if k < n then [(k : Int)] else [] := by
  induction n with
  | zero => rfl
  | succ n ih =>
    rw [dfL_succ, ih]
    unfold upd
    by_cases e : n = k
    · subst e
      rw [if_neg (by omega), if_pos rfl, if_neg h, if_pos (by omega)]; rfl
    · rw [if_neg e, if_pos rfl, List.append_nil]
      by_cases e2 : k < n
      · rw [if_pos e2, if_pos (by omega)]
      · rw [if_neg e2, if_neg (by omega)]
theorem diff_rd (c d : Nat → Nat) (W0 W : World) (h : Ev W0 W) : Calls Try.prog 25 #[pg c, pg d] W fun e w' => ∃ A cap, e = .returned (.slice A (dfL c d 8).length cap) ∧ RdI w' A (dfL c d 8) ∧ Ev W0 w' ∧ Ev W w' :=
  (diff_any c d W).mono fun e w' ⟨v, he, ho, hev⟩ => by
    obtain ⟨A, cap, rfl, hr⟩ := RdI.of_own ho (by have := dfL_len c d 8; omega)
    exact ⟨A, cap, he, hr, h.step hev, hev⟩
theorem drewEv {w W : World} (h : Ev w.drew W) : Ev w W := (Ev.refl w).drew.step h
theorem evS {P : Program} {f : FuncId} {args : Array Value} {w0 W : World} {v : Value} (h : Ev w0 W) (c : Calls P f args W fun e w' => e = .returned v ∧ Ev W w') :
    Calls P f args W fun e w' => e = .returned v ∧ Ev w0 w' := c.mono fun _ _ hh => ⟨hh.1, h.step hh.2⟩
theorem RdI.lit1 (X : World) (x : Int) : RdI (X.alloc (.cells #[.int .i64 x] 3)) (some ⟨X.heap.size, 0, none⟩) [x] :=
  ⟨by simp, fun j hj => ⟨X.heap.size, 0, rfl, by simp, by
    have : j = 0 := by simpa using hj
    subst this; simp⟩⟩
theorem eqB_upd (c : Nat → Nat) (k v : Nat) (hk : k < 8) (h : c k ≠ v) : eqB c (upd c k v) = false := by
  rcases (show k = 0 ∨ k = 1 ∨ k = 2 ∨ k = 3 ∨ k = 4 ∨ k = 5 ∨ k = 6 ∨ k = 7 by omega) with rfl | rfl | rfl | rfl | rfl | rfl | rfl | rfl <;> simp [eqB, upd, h]
theorem put_in (c : Nat → Nat) (k v : Nat) (hk : k < 8) (w : World) : Calls Try.prog 13 #[pg c, .int .i64 (k : Int), .int .u64 (v : Int)] w fun e w' => e = .returned (.tuple #[pg (upd c k v), .int .i64 0]) ∧ Ev w w' := by
  have h := put_any c k v w
  unfold ptV at h
  rw [if_pos (by omega)] at h
  simpa using h
set_option maxRecDepth 100000 in
set_option maxHeartbeats 8000000 in
theorem tells_eq (c : Nat → Nat) (word : Int) (v : Nat) (w : World) (hv : ∀ k : Nat, word % 8 = (k : Int) → c k = v) : Calls Try.prog 10 #[pg c, .int .i64 word, .int .u64 (v : Int)] w fun e w' => e = .returned (.bool true) ∧ Ev w w' := by
  obtain ⟨k, hk, hke⟩ : ∃ k : Nat, k < 8 ∧ word % 8 = (k : Int) := ⟨(word % 8).toNat, by omega, by omega⟩
  have H0 := Lib.hid fun W => mod_any word 8 W (by omega) (by omega)
  rw [hke] at H0
  have HV := Lib.hid (hv k hke)
  have H1 := Lib.hid fun W => put_in c k v hk W
  have hE := Lib.hid ((Ev.refl w).alloc (pgO c))
  have HC := Lib.hid (BP.new w c)
  have HDC : Hid (upd c k v = c) := Lib.hid (upd_self c k v HV.out)
  have HL1 : Hid (dfL c (upd c k v) 8 = []) := Lib.hid (by rw [HDC.out, dfL_self])
  have HL2 : Hid (dfL (upd c k v) c 8 = []) := Lib.hid (by rw [HDC.out, dfL_self])
  obtain ⟨s1, hs1⟩ : ∃ s, smK c 8 = s := ⟨_, rfl⟩
  obtain ⟨s2, hs2⟩ : ∃ s, smK (upd c k v) 8 = s := ⟨_, rfl⟩
  have HSM1 := Lib.hid hs1
  have HSM2 := Lib.hid hs2
  have qs : ((s1 : Int) == (s2 : Int)) = true := by rw [← hs1, ← hs2, HDC.out]; simp
  clear hs1 hs2
  clear hke hv
  go_enter Try.func10, Try.ntmps10
  go_wp2_with fail
  refine (H0.out _).mono ?_
  rintro e w1 ⟨rfl, rfl⟩
  go_wp2_with fail
  refine (H1.out _).mono ?_
  rintro e w2 ⟨rfl, h2⟩
  have HC2 := Lib.hid ((HC.out.ev h2).ev ((Ev.refl _).alloc (pgO (upd c k v))))
  have HE2 := Lib.hid ((hE.out.step h2).alloc (pgO (upd c k v)))
  have HD2 := Lib.hid (BP.new w2 (upd c k v))
  clear h2
  generalize upd c k v = d at *
  go_wp2_with fail
  obtain ⟨W, hW⟩ : ∃ W, W = w2.alloc (pgO d) := ⟨_, rfl⟩
  have HCW : Hid (BP W w.heap.size c) := Lib.hid (by rw [hW]; exact HC2.out)
  have HDW : Hid (BP W w2.heap.size d) := Lib.hid (by rw [hW]; exact HD2.out)
  have HEW : Hid (Ev w W) := Lib.hid (by rw [hW]; exact HE2.out)
  rw [← hW]
  clear hW HC2 HE2 HD2
  have HSW : Hid (∀ w', Ev W w' → (w'.cell? ⟨w.heap.size, 0, none⟩ = some (.int .u64 (c 0 : Int)) ∧ w'.cell? ⟨w.heap.size, 1, none⟩ = some (.int .u64 (c 1 : Int)) ∧ w'.cell? ⟨w.heap.size, 2, none⟩ = some (.int .u64 (c 2 : Int)) ∧ w'.cell? ⟨w.heap.size, 3, none⟩ = some (.int .u64 (c 3 : Int)) ∧ w'.cell? ⟨w.heap.size, 4, none⟩ = some (.int .u64 (c 4 : Int)) ∧ w'.cell? ⟨w.heap.size, 5, none⟩ = some (.int .u64 (c 5 : Int)) ∧ w'.cell? ⟨w.heap.size, 6, none⟩ = some (.int .u64 (c 6 : Int)) ∧ w'.cell? ⟨w.heap.size, 7, none⟩ = some (.int .u64 (c 7 : Int)) ∧ w'.cell? ⟨w2.heap.size, 0, none⟩ = some (.int .u64 (d 0 : Int)) ∧ w'.cell? ⟨w2.heap.size, 1, none⟩ = some (.int .u64 (d 1 : Int)) ∧ w'.cell? ⟨w2.heap.size, 2, none⟩ = some (.int .u64 (d 2 : Int)) ∧ w'.cell? ⟨w2.heap.size, 3, none⟩ = some (.int .u64 (d 3 : Int)) ∧ w'.cell? ⟨w2.heap.size, 4, none⟩ = some (.int .u64 (d 4 : Int)) ∧ w'.cell? ⟨w2.heap.size, 5, none⟩ = some (.int .u64 (d 5 : Int)) ∧ w'.cell? ⟨w2.heap.size, 6, none⟩ = some (.int .u64 (d 6 : Int)) ∧ w'.cell? ⟨w2.heap.size, 7, none⟩ = some (.int .u64 (d 7 : Int))) ∧ Ev W w') := Lib.hid fun w' e => by
      have h1 := (HCW.out.ev e).2.1
      have h2 := (HDW.out.ev e).2.1
      exact ⟨⟨h1 0 (by omega), h1 1 (by omega), h1 2 (by omega), h1 3 (by omega), h1 4 (by omega), h1 5 (by omega), h1 6 (by omega), h1 7 (by omega), h2 0 (by omega), h2 1 (by omega), h2 2 (by omega), h2 3 (by omega), h2 4 (by omega), h2 5 (by omega), h2 6 (by omega), h2 7 (by omega)⟩, e⟩
  have HF1 : Hid (∀ W', Ev W W' → Calls Try.prog 25 #[pg c, pg d] W' fun e w' => ∃ A cap, e = .returned (.slice A 0 cap) ∧ RdI w' A [] ∧ Ev W w' ∧ Ev W' w') := Lib.hid fun W' e => by have h := diff_rd c d W W' e; rw [HL1.out] at h; exact h
  have HF2 : Hid (∀ W', Ev W W' → Calls Try.prog 25 #[pg d, pg c] W' fun e w' => ∃ A cap, e = .returned (.slice A 0 cap) ∧ RdI w' A [] ∧ Ev W w' ∧ Ev W' w') := Lib.hid fun W' e => by have h := diff_rd d c W W' e; rw [HL2.out] at h; exact h
  have hev := Ev.refl W
  go_region_held3 (fun w' => (w'.cell? ⟨w.heap.size, 0, none⟩ = some (.int .u64 (c 0 : Int)) ∧ w'.cell? ⟨w.heap.size, 1, none⟩ = some (.int .u64 (c 1 : Int)) ∧ w'.cell? ⟨w.heap.size, 2, none⟩ = some (.int .u64 (c 2 : Int)) ∧ w'.cell? ⟨w.heap.size, 3, none⟩ = some (.int .u64 (c 3 : Int)) ∧ w'.cell? ⟨w.heap.size, 4, none⟩ = some (.int .u64 (c 4 : Int)) ∧ w'.cell? ⟨w.heap.size, 5, none⟩ = some (.int .u64 (c 5 : Int)) ∧ w'.cell? ⟨w.heap.size, 6, none⟩ = some (.int .u64 (c 6 : Int)) ∧ w'.cell? ⟨w.heap.size, 7, none⟩ = some (.int .u64 (c 7 : Int)) ∧ w'.cell? ⟨w2.heap.size, 0, none⟩ = some (.int .u64 (d 0 : Int)) ∧ w'.cell? ⟨w2.heap.size, 1, none⟩ = some (.int .u64 (d 1 : Int)) ∧ w'.cell? ⟨w2.heap.size, 2, none⟩ = some (.int .u64 (d 2 : Int)) ∧ w'.cell? ⟨w2.heap.size, 3, none⟩ = some (.int .u64 (d 3 : Int)) ∧ w'.cell? ⟨w2.heap.size, 4, none⟩ = some (.int .u64 (d 4 : Int)) ∧ w'.cell? ⟨w2.heap.size, 5, none⟩ = some (.int .u64 (d 5 : Int)) ∧ w'.cell? ⟨w2.heap.size, 6, none⟩ = some (.int .u64 (d 6 : Int)) ∧ w'.cell? ⟨w2.heap.size, 7, none⟩ = some (.int .u64 (d 7 : Int))) ∧ Ev W w')
      (first | with_reducible exact HSW.out _ (by with_reducible assumption) | with_reducible exact HSW.out _ (Ev.drew (by with_reducible assumption)) | with_reducible exact HSW.out _ (Ev.alloc (by with_reducible assumption) _) | with_reducible exact HSW.out _ (Ev.alloc (Ev.drew (by with_reducible assumption)) _))
      (first | (go_at_call 25; ((with_reducible refine (HF1.out _ (by first | assumption | exact Ev.drew (by with_reducible assumption))).mono ?_); clear hev; rintro e w' ⟨A1, cap1, rfl, r1, hev, hs⟩; have R1 := Lib.hid r1; clear r1; first | (have R2b := Lib.hid (R2.out.ev hs); clear hs) | (have R2b := Lib.hid (R2.out.ev (drewEv hs)); clear hs) | clear hs)) | (go_at_call 25; ((with_reducible refine (HF2.out _ (by first | assumption | exact Ev.drew (by with_reducible assumption))).mono ?_); clear hev; rintro e w' ⟨A2, cap2, rfl, r2, hev, hs⟩; have R2 := Lib.hid r2; clear r2; first | (have R1b := Lib.hid (R1.out.ev hs); clear hs) | (have R1b := Lib.hid (R1.out.ev (drewEv hs)); clear hs) | clear hs)))
  all_goals
    have RD1 := Lib.hid (HCW.out.ev hev)
    have RD2 := Lib.hid (HDW.out.ev hev)
    have HS1 := Lib.hid (sameI A1 A2 cap1 cap2 [] _ R1b.out R2.out)
    have HEA := Lib.hid (HEW.out.step hev)
    clear hev
    go_wp2_with fail
    refine HS1.out.mono ?_
    rintro e w6 ⟨rfl, h6⟩
    have HCw6 := Lib.hid (RD1.out.ev h6)
    have HDw6 := Lib.hid (RD2.out.ev h6)
    have HEB := Lib.hid (HEA.out.step h6)
    have R1c := Lib.hid (R1b.out.ev h6)
    clear h6
    obtain ⟨-, h8, -⟩ := HCw6.out
    have c0 := h8 0 (by omega)
    have c1 := h8 1 (by omega)
    have c2 := h8 2 (by omega)
    have c3 := h8 3 (by omega)
    have c4 := h8 4 (by omega)
    have c5 := h8 5 (by omega)
    have c6 := h8 6 (by omega)
    have c7 := h8 7 (by omega)
    clear h8
    obtain ⟨-, h8, -⟩ := HDw6.out
    have d0 := h8 0 (by omega)
    have d1 := h8 1 (by omega)
    have d2 := h8 2 (by omega)
    have d3 := h8 3 (by omega)
    have d4 := h8 4 (by omega)
    have d5 := h8 5 (by omega)
    have d6 := h8 6 (by omega)
    have d7 := h8 7 (by omega)
    clear h8
    have hq : ∀ W, Sem.run Try.prog (Op.equalIn 10000 24 (pg c) (pg d)) W = .ok true W := fun W => by rw [HDC.out, eq24, eqB_self]
    go_wp2_with fail
    clear hq
    have HSw6 : Hid (∀ w', Ev w6 w' → (w'.cell? ⟨w.heap.size, 0, none⟩ = some (.int .u64 (c 0 : Int)) ∧ w'.cell? ⟨w.heap.size, 1, none⟩ = some (.int .u64 (c 1 : Int)) ∧ w'.cell? ⟨w.heap.size, 2, none⟩ = some (.int .u64 (c 2 : Int)) ∧ w'.cell? ⟨w.heap.size, 3, none⟩ = some (.int .u64 (c 3 : Int)) ∧ w'.cell? ⟨w.heap.size, 4, none⟩ = some (.int .u64 (c 4 : Int)) ∧ w'.cell? ⟨w.heap.size, 5, none⟩ = some (.int .u64 (c 5 : Int)) ∧ w'.cell? ⟨w.heap.size, 6, none⟩ = some (.int .u64 (c 6 : Int)) ∧ w'.cell? ⟨w.heap.size, 7, none⟩ = some (.int .u64 (c 7 : Int)) ∧ w'.cell? ⟨w2.heap.size, 0, none⟩ = some (.int .u64 (d 0 : Int)) ∧ w'.cell? ⟨w2.heap.size, 1, none⟩ = some (.int .u64 (d 1 : Int)) ∧ w'.cell? ⟨w2.heap.size, 2, none⟩ = some (.int .u64 (d 2 : Int)) ∧ w'.cell? ⟨w2.heap.size, 3, none⟩ = some (.int .u64 (d 3 : Int)) ∧ w'.cell? ⟨w2.heap.size, 4, none⟩ = some (.int .u64 (d 4 : Int)) ∧ w'.cell? ⟨w2.heap.size, 5, none⟩ = some (.int .u64 (d 5 : Int)) ∧ w'.cell? ⟨w2.heap.size, 6, none⟩ = some (.int .u64 (d 6 : Int)) ∧ w'.cell? ⟨w2.heap.size, 7, none⟩ = some (.int .u64 (d 7 : Int))) ∧ Ev w6 w') := Lib.hid fun w' e => by
        have h1 := (HCw6.out.ev e).2.1
        have h2 := (HDw6.out.ev e).2.1
        exact ⟨⟨h1 0 (by omega), h1 1 (by omega), h1 2 (by omega), h1 3 (by omega), h1 4 (by omega), h1 5 (by omega), h1 6 (by omega), h1 7 (by omega), h2 0 (by omega), h2 1 (by omega), h2 2 (by omega), h2 3 (by omega), h2 4 (by omega), h2 5 (by omega), h2 6 (by omega), h2 7 (by omega)⟩, e⟩
    have SM1 : Hid (∀ W', Ev w6 W' → Calls Try.prog 27 #[pg c] W' fun e w' => e = .returned (.int .u64 (s1 : Int)) ∧ Ev w6 w') := Lib.hid fun W' e => by have h := evS e (sum_any c W'); rwa [HSM1.out] at h
    have SM2 : Hid (∀ W', Ev w6 W' → Calls Try.prog 27 #[pg d] W' fun e w' => e = .returned (.int .u64 (s2 : Int)) ∧ Ev w6 w') := Lib.hid fun W' e => by have h := evS e (sum_any d W'); rwa [HSM2.out] at h
    have AW : Hid (∀ W', Ev w6 W' → Calls Try.prog 15 #[] W' fun e w' => e = .returned (.bool true) ∧ Ev w6 w') := Lib.hid fun W' e => evS e (awake_any W')
    
    clear R1 R2 R1b HF1 HF2 HS1 HSW c0 c1 c2 c3 c4 c5 c6 c7 d0 d1 d2 d3 d4 d5 d6 d7
    have hev := Ev.refl w6
    go_region_held3 (fun w' => (w'.cell? ⟨w.heap.size, 0, none⟩ = some (.int .u64 (c 0 : Int)) ∧ w'.cell? ⟨w.heap.size, 1, none⟩ = some (.int .u64 (c 1 : Int)) ∧ w'.cell? ⟨w.heap.size, 2, none⟩ = some (.int .u64 (c 2 : Int)) ∧ w'.cell? ⟨w.heap.size, 3, none⟩ = some (.int .u64 (c 3 : Int)) ∧ w'.cell? ⟨w.heap.size, 4, none⟩ = some (.int .u64 (c 4 : Int)) ∧ w'.cell? ⟨w.heap.size, 5, none⟩ = some (.int .u64 (c 5 : Int)) ∧ w'.cell? ⟨w.heap.size, 6, none⟩ = some (.int .u64 (c 6 : Int)) ∧ w'.cell? ⟨w.heap.size, 7, none⟩ = some (.int .u64 (c 7 : Int)) ∧ w'.cell? ⟨w2.heap.size, 0, none⟩ = some (.int .u64 (d 0 : Int)) ∧ w'.cell? ⟨w2.heap.size, 1, none⟩ = some (.int .u64 (d 1 : Int)) ∧ w'.cell? ⟨w2.heap.size, 2, none⟩ = some (.int .u64 (d 2 : Int)) ∧ w'.cell? ⟨w2.heap.size, 3, none⟩ = some (.int .u64 (d 3 : Int)) ∧ w'.cell? ⟨w2.heap.size, 4, none⟩ = some (.int .u64 (d 4 : Int)) ∧ w'.cell? ⟨w2.heap.size, 5, none⟩ = some (.int .u64 (d 5 : Int)) ∧ w'.cell? ⟨w2.heap.size, 6, none⟩ = some (.int .u64 (d 6 : Int)) ∧ w'.cell? ⟨w2.heap.size, 7, none⟩ = some (.int .u64 (d 7 : Int))) ∧ Ev w6 w')
      (first | with_reducible exact HSw6.out _ (by with_reducible assumption) | with_reducible exact HSw6.out _ (Ev.drew (by with_reducible assumption)) | with_reducible exact HSw6.out _ (Ev.alloc (by with_reducible assumption) _) | with_reducible exact HSw6.out _ (Ev.alloc (Ev.drew (by with_reducible assumption)) _))
      (first | (go_at_call 27; ((with_reducible refine (SM1.out _ (by first | assumption | exact Ev.drew (by with_reducible assumption))).mono ?_); clear hev; rintro e w' ⟨rfl, hev⟩)) | (go_at_call 27; ((with_reducible refine (SM2.out _ (by first | assumption | exact Ev.drew (by with_reducible assumption))).mono ?_); clear hev; rintro e w' ⟨rfl, hev⟩)) | (go_at_call 15; ((with_reducible refine (AW.out _ (by first | assumption | exact Ev.drew (by with_reducible assumption))).mono ?_); clear hev; rintro e w' ⟨rfl, hev⟩)))
    all_goals
      go_wp2_with fail
      go_ret
      exact ⟨rfl, HEB.out.step (by assumption)⟩
set_option maxRecDepth 100000 in
set_option maxHeartbeats 8000000 in
theorem tells_ne (c : Nat → Nat) (word : Int) (v : Nat) (w : World) (hP : Pg c) (hv2 : v < 18446744073709551616) (hv : ∀ k : Nat, word % 8 = (k : Int) → c k ≠ v) : Calls Try.prog 10 #[pg c, .int .i64 word, .int .u64 (v : Int)] w fun e w' => e = .returned (.bool true) ∧ Ev w w' := by
  obtain ⟨k, hk, hke⟩ : ∃ k : Nat, k < 8 ∧ word % 8 = (k : Int) := ⟨(word % 8).toNat, by omega, by omega⟩
  have H0 := Lib.hid fun W => mod_any word 8 W (by omega) (by omega)
  rw [hke] at H0
  have HV := Lib.hid (hv k hke)
  have H1 := Lib.hid fun W => put_in c k v hk W
  have hE := Lib.hid ((Ev.refl w).alloc (pgO c))
  have HC := Lib.hid (BP.new w c)
  have HL1 : Hid (dfL c (upd c k v) 8 = [(k : Int)]) := Lib.hid (by rw [dfL_upd c k v 8 HV.out, if_pos hk])
  have HL2 : Hid (dfL (upd c k v) c 8 = [(k : Int)]) := Lib.hid (by rw [dfL_comm]; exact HL1.out)
  have HNE : Hid (eqB c (upd c k v) = false) := Lib.hid (eqB_upd c k v hk HV.out)
  obtain ⟨s1, hs1⟩ : ∃ s, smK c 8 = s := ⟨_, rfl⟩
  obtain ⟨s2, hs2⟩ : ∃ s, smK (upd c k v) 8 = s := ⟨_, rfl⟩
  have HSM1 := Lib.hid hs1
  have HSM2 := Lib.hid hs2
  have qs : ((s1 : Int) != (s2 : Int)) = true := by
    have := smK_upd c k v hP hv2 hk HV.out
    rw [hs1, hs2] at this
    simp; omega
  clear hs1 hs2 hP hv2
  clear hke hv
  go_enter Try.func10, Try.ntmps10
  go_wp2_with fail
  refine (H0.out _).mono ?_
  rintro e w1 ⟨rfl, rfl⟩
  go_wp2_with fail
  refine (H1.out _).mono ?_
  rintro e w2 ⟨rfl, h2⟩
  have HC2 := Lib.hid ((HC.out.ev h2).ev ((Ev.refl _).alloc (pgO (upd c k v))))
  have HE2 := Lib.hid ((hE.out.step h2).alloc (pgO (upd c k v)))
  have HD2 := Lib.hid (BP.new w2 (upd c k v))
  clear h2
  generalize upd c k v = d at *
  go_wp2_with fail
  obtain ⟨W, hW⟩ : ∃ W, W = w2.alloc (pgO d) := ⟨_, rfl⟩
  have HCW : Hid (BP W w.heap.size c) := Lib.hid (by rw [hW]; exact HC2.out)
  have HDW : Hid (BP W w2.heap.size d) := Lib.hid (by rw [hW]; exact HD2.out)
  have HEW : Hid (Ev w W) := Lib.hid (by rw [hW]; exact HE2.out)
  rw [← hW]
  clear hW HC2 HE2 HD2
  have HSW : Hid (∀ w', Ev W w' → (w'.cell? ⟨w.heap.size, 0, none⟩ = some (.int .u64 (c 0 : Int)) ∧ w'.cell? ⟨w.heap.size, 1, none⟩ = some (.int .u64 (c 1 : Int)) ∧ w'.cell? ⟨w.heap.size, 2, none⟩ = some (.int .u64 (c 2 : Int)) ∧ w'.cell? ⟨w.heap.size, 3, none⟩ = some (.int .u64 (c 3 : Int)) ∧ w'.cell? ⟨w.heap.size, 4, none⟩ = some (.int .u64 (c 4 : Int)) ∧ w'.cell? ⟨w.heap.size, 5, none⟩ = some (.int .u64 (c 5 : Int)) ∧ w'.cell? ⟨w.heap.size, 6, none⟩ = some (.int .u64 (c 6 : Int)) ∧ w'.cell? ⟨w.heap.size, 7, none⟩ = some (.int .u64 (c 7 : Int)) ∧ w'.cell? ⟨w2.heap.size, 0, none⟩ = some (.int .u64 (d 0 : Int)) ∧ w'.cell? ⟨w2.heap.size, 1, none⟩ = some (.int .u64 (d 1 : Int)) ∧ w'.cell? ⟨w2.heap.size, 2, none⟩ = some (.int .u64 (d 2 : Int)) ∧ w'.cell? ⟨w2.heap.size, 3, none⟩ = some (.int .u64 (d 3 : Int)) ∧ w'.cell? ⟨w2.heap.size, 4, none⟩ = some (.int .u64 (d 4 : Int)) ∧ w'.cell? ⟨w2.heap.size, 5, none⟩ = some (.int .u64 (d 5 : Int)) ∧ w'.cell? ⟨w2.heap.size, 6, none⟩ = some (.int .u64 (d 6 : Int)) ∧ w'.cell? ⟨w2.heap.size, 7, none⟩ = some (.int .u64 (d 7 : Int))) ∧ Ev W w') := Lib.hid fun w' e => by
      have h1 := (HCW.out.ev e).2.1
      have h2 := (HDW.out.ev e).2.1
      exact ⟨⟨h1 0 (by omega), h1 1 (by omega), h1 2 (by omega), h1 3 (by omega), h1 4 (by omega), h1 5 (by omega), h1 6 (by omega), h1 7 (by omega), h2 0 (by omega), h2 1 (by omega), h2 2 (by omega), h2 3 (by omega), h2 4 (by omega), h2 5 (by omega), h2 6 (by omega), h2 7 (by omega)⟩, e⟩
  have HF1 : Hid (∀ W', Ev W W' → Calls Try.prog 25 #[pg c, pg d] W' fun e w' => ∃ A cap, e = .returned (.slice A 1 cap) ∧ RdI w' A [(k : Int)] ∧ Ev W w' ∧ Ev W' w') := Lib.hid fun W' e => by have h := diff_rd c d W W' e; rw [HL1.out] at h; exact h
  have HF2 : Hid (∀ W', Ev W W' → Calls Try.prog 25 #[pg d, pg c] W' fun e w' => ∃ A cap, e = .returned (.slice A 1 cap) ∧ RdI w' A [(k : Int)] ∧ Ev W w' ∧ Ev W' w') := Lib.hid fun W' e => by have h := diff_rd d c W W' e; rw [HL2.out] at h; exact h
  have hev := Ev.refl W
  go_region_held3 (fun w' => (w'.cell? ⟨w.heap.size, 0, none⟩ = some (.int .u64 (c 0 : Int)) ∧ w'.cell? ⟨w.heap.size, 1, none⟩ = some (.int .u64 (c 1 : Int)) ∧ w'.cell? ⟨w.heap.size, 2, none⟩ = some (.int .u64 (c 2 : Int)) ∧ w'.cell? ⟨w.heap.size, 3, none⟩ = some (.int .u64 (c 3 : Int)) ∧ w'.cell? ⟨w.heap.size, 4, none⟩ = some (.int .u64 (c 4 : Int)) ∧ w'.cell? ⟨w.heap.size, 5, none⟩ = some (.int .u64 (c 5 : Int)) ∧ w'.cell? ⟨w.heap.size, 6, none⟩ = some (.int .u64 (c 6 : Int)) ∧ w'.cell? ⟨w.heap.size, 7, none⟩ = some (.int .u64 (c 7 : Int)) ∧ w'.cell? ⟨w2.heap.size, 0, none⟩ = some (.int .u64 (d 0 : Int)) ∧ w'.cell? ⟨w2.heap.size, 1, none⟩ = some (.int .u64 (d 1 : Int)) ∧ w'.cell? ⟨w2.heap.size, 2, none⟩ = some (.int .u64 (d 2 : Int)) ∧ w'.cell? ⟨w2.heap.size, 3, none⟩ = some (.int .u64 (d 3 : Int)) ∧ w'.cell? ⟨w2.heap.size, 4, none⟩ = some (.int .u64 (d 4 : Int)) ∧ w'.cell? ⟨w2.heap.size, 5, none⟩ = some (.int .u64 (d 5 : Int)) ∧ w'.cell? ⟨w2.heap.size, 6, none⟩ = some (.int .u64 (d 6 : Int)) ∧ w'.cell? ⟨w2.heap.size, 7, none⟩ = some (.int .u64 (d 7 : Int))) ∧ Ev W w')
      (first | with_reducible exact HSW.out _ (by with_reducible assumption) | with_reducible exact HSW.out _ (Ev.drew (by with_reducible assumption)) | with_reducible exact HSW.out _ (Ev.alloc (by with_reducible assumption) _) | with_reducible exact HSW.out _ (Ev.alloc (Ev.drew (by with_reducible assumption)) _))
      (first | (go_at_call 25; ((with_reducible refine (HF1.out _ (by first | assumption | exact Ev.drew (by with_reducible assumption))).mono ?_); clear hev; rintro e w' ⟨A1, cap1, rfl, r1, hev, hs⟩; have R1 := Lib.hid r1; clear r1; first | (have R2b := Lib.hid (R2.out.ev hs); clear hs) | (have R2b := Lib.hid (R2.out.ev (drewEv hs)); clear hs) | clear hs)) | (go_at_call 25; ((with_reducible refine (HF2.out _ (by first | assumption | exact Ev.drew (by with_reducible assumption))).mono ?_); clear hev; rintro e w' ⟨A2, cap2, rfl, r2, hev, hs⟩; have R2 := Lib.hid r2; clear r2; first | (have R1b := Lib.hid (R1.out.ev hs); clear hs) | (have R1b := Lib.hid (R1.out.ev (drewEv hs)); clear hs) | clear hs)))
  all_goals
    have RD1 := Lib.hid (HCW.out.ev hev)
    have RD2 := Lib.hid (HDW.out.ev hev)
    have HS1 := Lib.hid (sameI A1 A2 cap1 cap2 [(k : Int)] _ R1b.out R2.out)
    have HEA := Lib.hid (HEW.out.step hev)
    clear hev
    go_wp2_with fail
    refine HS1.out.mono ?_
    rintro e w6 ⟨rfl, h6⟩
    have HCw6 := Lib.hid (RD1.out.ev h6)
    have HDw6 := Lib.hid (RD2.out.ev h6)
    have HEB := Lib.hid (HEA.out.step h6)
    have R1c := Lib.hid (R1b.out.ev h6)
    clear h6
    obtain ⟨-, h8, -⟩ := HCw6.out
    have c0 := h8 0 (by omega)
    have c1 := h8 1 (by omega)
    have c2 := h8 2 (by omega)
    have c3 := h8 3 (by omega)
    have c4 := h8 4 (by omega)
    have c5 := h8 5 (by omega)
    have c6 := h8 6 (by omega)
    have c7 := h8 7 (by omega)
    clear h8
    obtain ⟨-, h8, -⟩ := HDw6.out
    have d0 := h8 0 (by omega)
    have d1 := h8 1 (by omega)
    have d2 := h8 2 (by omega)
    have d3 := h8 3 (by omega)
    have d4 := h8 4 (by omega)
    have d5 := h8 5 (by omega)
    have d6 := h8 6 (by omega)
    have d7 := h8 7 (by omega)
    clear h8
    have hq : ∀ W, Sem.run Try.prog (Op.equalIn 10000 24 (pg c) (pg d)) W = .ok false W := fun W => by rw [eq24, HNE.out]
    go_wp2_with fail
    clear hq
    have HSw6 : Hid (∀ w', Ev w6 w' → (w'.cell? ⟨w.heap.size, 0, none⟩ = some (.int .u64 (c 0 : Int)) ∧ w'.cell? ⟨w.heap.size, 1, none⟩ = some (.int .u64 (c 1 : Int)) ∧ w'.cell? ⟨w.heap.size, 2, none⟩ = some (.int .u64 (c 2 : Int)) ∧ w'.cell? ⟨w.heap.size, 3, none⟩ = some (.int .u64 (c 3 : Int)) ∧ w'.cell? ⟨w.heap.size, 4, none⟩ = some (.int .u64 (c 4 : Int)) ∧ w'.cell? ⟨w.heap.size, 5, none⟩ = some (.int .u64 (c 5 : Int)) ∧ w'.cell? ⟨w.heap.size, 6, none⟩ = some (.int .u64 (c 6 : Int)) ∧ w'.cell? ⟨w.heap.size, 7, none⟩ = some (.int .u64 (c 7 : Int)) ∧ w'.cell? ⟨w2.heap.size, 0, none⟩ = some (.int .u64 (d 0 : Int)) ∧ w'.cell? ⟨w2.heap.size, 1, none⟩ = some (.int .u64 (d 1 : Int)) ∧ w'.cell? ⟨w2.heap.size, 2, none⟩ = some (.int .u64 (d 2 : Int)) ∧ w'.cell? ⟨w2.heap.size, 3, none⟩ = some (.int .u64 (d 3 : Int)) ∧ w'.cell? ⟨w2.heap.size, 4, none⟩ = some (.int .u64 (d 4 : Int)) ∧ w'.cell? ⟨w2.heap.size, 5, none⟩ = some (.int .u64 (d 5 : Int)) ∧ w'.cell? ⟨w2.heap.size, 6, none⟩ = some (.int .u64 (d 6 : Int)) ∧ w'.cell? ⟨w2.heap.size, 7, none⟩ = some (.int .u64 (d 7 : Int))) ∧ Ev w6 w') := Lib.hid fun w' e => by
        have h1 := (HCw6.out.ev e).2.1
        have h2 := (HDw6.out.ev e).2.1
        exact ⟨⟨h1 0 (by omega), h1 1 (by omega), h1 2 (by omega), h1 3 (by omega), h1 4 (by omega), h1 5 (by omega), h1 6 (by omega), h1 7 (by omega), h2 0 (by omega), h2 1 (by omega), h2 2 (by omega), h2 3 (by omega), h2 4 (by omega), h2 5 (by omega), h2 6 (by omega), h2 7 (by omega)⟩, e⟩
    have SM1 : Hid (∀ W', Ev w6 W' → Calls Try.prog 27 #[pg c] W' fun e w' => e = .returned (.int .u64 (s1 : Int)) ∧ Ev w6 w') := Lib.hid fun W' e => by have h := evS e (sum_any c W'); rwa [HSM1.out] at h
    have SM2 : Hid (∀ W', Ev w6 W' → Calls Try.prog 27 #[pg d] W' fun e w' => e = .returned (.int .u64 (s2 : Int)) ∧ Ev w6 w') := Lib.hid fun W' e => by have h := evS e (sum_any d W'); rwa [HSM2.out] at h
    have AW : Hid (∀ W', Ev w6 W' → Calls Try.prog 15 #[] W' fun e w' => e = .returned (.bool true) ∧ Ev w6 w') := Lib.hid fun W' e => evS e (awake_any W')
    have SLT : Hid (∀ X W', Ev w6 X → W' = (X.alloc (.cells #[.int .i64 (k : Int)] 3)).drew → Calls Try.prog 24 #[.slice A1 1 cap1, .slice (some ⟨X.heap.size, 0, none⟩) 1 1] W' fun e w' => e = .returned (.bool true) ∧ Ev w6 w') := Lib.hid fun X W' e hW => by
      subst hW
      exact evS (e.alloc _).drew (sameI A1 (some ⟨X.heap.size, 0, none⟩) cap1 1 [(k : Int)] _ (R1c.out.ev (e.alloc _).drew) ((RdI.lit1 X k).ev (Ev.refl _).drew))
    clear R1 R2 R1b HF1 HF2 HS1 HSW c0 c1 c2 c3 c4 c5 c6 c7 d0 d1 d2 d3 d4 d5 d6 d7
    have hev := Ev.refl w6
    go_region_held3 (fun w' => (w'.cell? ⟨w.heap.size, 0, none⟩ = some (.int .u64 (c 0 : Int)) ∧ w'.cell? ⟨w.heap.size, 1, none⟩ = some (.int .u64 (c 1 : Int)) ∧ w'.cell? ⟨w.heap.size, 2, none⟩ = some (.int .u64 (c 2 : Int)) ∧ w'.cell? ⟨w.heap.size, 3, none⟩ = some (.int .u64 (c 3 : Int)) ∧ w'.cell? ⟨w.heap.size, 4, none⟩ = some (.int .u64 (c 4 : Int)) ∧ w'.cell? ⟨w.heap.size, 5, none⟩ = some (.int .u64 (c 5 : Int)) ∧ w'.cell? ⟨w.heap.size, 6, none⟩ = some (.int .u64 (c 6 : Int)) ∧ w'.cell? ⟨w.heap.size, 7, none⟩ = some (.int .u64 (c 7 : Int)) ∧ w'.cell? ⟨w2.heap.size, 0, none⟩ = some (.int .u64 (d 0 : Int)) ∧ w'.cell? ⟨w2.heap.size, 1, none⟩ = some (.int .u64 (d 1 : Int)) ∧ w'.cell? ⟨w2.heap.size, 2, none⟩ = some (.int .u64 (d 2 : Int)) ∧ w'.cell? ⟨w2.heap.size, 3, none⟩ = some (.int .u64 (d 3 : Int)) ∧ w'.cell? ⟨w2.heap.size, 4, none⟩ = some (.int .u64 (d 4 : Int)) ∧ w'.cell? ⟨w2.heap.size, 5, none⟩ = some (.int .u64 (d 5 : Int)) ∧ w'.cell? ⟨w2.heap.size, 6, none⟩ = some (.int .u64 (d 6 : Int)) ∧ w'.cell? ⟨w2.heap.size, 7, none⟩ = some (.int .u64 (d 7 : Int))) ∧ Ev w6 w')
      (first | with_reducible exact HSw6.out _ (by with_reducible assumption) | with_reducible exact HSw6.out _ (Ev.drew (by with_reducible assumption)) | with_reducible exact HSw6.out _ (Ev.alloc (by with_reducible assumption) _) | with_reducible exact HSw6.out _ (Ev.alloc (Ev.drew (by with_reducible assumption)) _))
      (first | (go_at_call 27; ((with_reducible refine (SM1.out _ (by first | assumption | exact Ev.drew (by with_reducible assumption))).mono ?_); clear hev; rintro e w' ⟨rfl, hev⟩)) | (go_at_call 27; ((with_reducible refine (SM2.out _ (by first | assumption | exact Ev.drew (by with_reducible assumption))).mono ?_); clear hev; rintro e w' ⟨rfl, hev⟩)) | (go_at_call 15; ((with_reducible refine (AW.out _ (by first | assumption | exact Ev.drew (by with_reducible assumption))).mono ?_); clear hev; rintro e w' ⟨rfl, hev⟩)) | (go_at_call 24; ((with_reducible refine (SLT.out _ _ (by first | assumption | exact Ev.drew (by with_reducible assumption)) rfl).mono ?_); clear hev; rintro e w' ⟨rfl, hev⟩)))
    all_goals
      go_wp2_with fail
      go_ret
      exact ⟨rfl, HEB.out.step (by assumption)⟩
theorem tells_law (c : Nat → Nat) (word : Int) (v : Nat) (w : World) (hP : Pg c) (hv : v < 18446744073709551616) : Calls Try.prog 10 #[pg c, .int .i64 word, .int .u64 (v : Int)] w fun e w' => e = .returned (.bool true) ∧ Ev w w' := by
  by_cases h : c (word % 8).toNat = v
  · exact tells_eq c word v w fun k hk => by rw [hk] at h; simpa using h
  · exact tells_ne c word v w hP hv fun k hk => by rw [hk] at h; simpa using h
end Go.Proofs.Ytfclbnaabdlmhaa
