import Derived.Test.YtkifcjjnpahdmaaDoorA9
namespace Go.Proofs.YtkifcjjnpahdmaaDoor
open Go.RowKit
open Go.Deep

def runOK (m al : Int) : Prop := 1 ≤ m ∧ m ≤ 1024 ∧ 1 ≤ al ∧ al ≤ 1024
instance (m al : Int) : Decidable (runOK m al) := by unfold runOK; infer_instance
def runVal (n : Int) (ws : List Nat) (m al : Int) (inn : Bool) : Int := if chkI n ws = 0 then (if runOK m al then runV ws n m.toNat al.toNat inn else 0) else 0
def runErr (n : Int) (ws : List Nat) (m al : Int) (inn : Bool) : Int := if chkI n ws = 0 then (if runOK m al then runX ws n m.toNat al.toNat inn else 2) else chkI n ws

set_option maxHeartbeats 400000 in
theorem run_bad (n : Int) (A : Option Addr) (cap : Nat) (ws : List Nat) (m al : Int) (inn : Bool) (w : World) (hr : Rd w A ws) (hne : chkI n ws ≠ 0) :
    Calls Tryd.prog 27 #[.agg #[.int .i64 n, .slice A ws.length cap], .int .i64 m, .int .i64 al, .bool inn] w fun e w' => e = .returned (.tuple #[.int .i64 0, .int .i64 (chkI n ws)]) ∧ Below w.heap.size w w' := by
  have hC := check_any n A cap ws _ (hr.alloc (.cells #[.int .i64 n, .slice A ws.length cap] 24))
  have hb0 : (chkI n ws != 0) = true := by simpa using hne
  have HC := Lib.hid hC
  clear hC
  generalize chkI n ws = er at *
  go_enter Tryd.func27, Tryd.ntmps27
  go_wp2_with fail
  refine HC.out.mono ?_
  rintro e w1 ⟨rfl, hb⟩
  clear HC
  go_wp2
  go_ret2
  exact ⟨rfl, ((Below.refl _ _).alloc (Nat.le_refl _) _).trans (hb.mono (by simp))⟩
set_option maxHeartbeats 400000 in
theorem run_out (n : Int) (A : Option Addr) (cap : Nat) (ws : List Nat) (m al : Int) (inn : Bool) (w : World) (hr : Rd w A ws) (h0 : chkI n ws = 0) (hno : ¬ runOK m al) :
    Calls Tryd.prog 27 #[.agg #[.int .i64 n, .slice A ws.length cap], .int .i64 m, .int .i64 al, .bool inn] w fun e w' => e = .returned (.tuple #[.int .i64 0, .int .i64 2]) ∧ Below w.heap.size w w' := by
  have hC := check_any n A cap ws _ (hr.alloc (.cells #[.int .i64 n, .slice A ws.length cap] 24))
  rw [h0] at hC
  have HC := Lib.hid hC
  clear hC h0
  unfold runOK at hno
  rcases Int.lt_or_le m 1 with c1 | c1
  · clear hno
    go_enter Tryd.func27, Tryd.ntmps27
    go_wp2_with fail
    refine HC.out.mono ?_
    rintro e w1 ⟨rfl, hb⟩
    go_wp2
    go_ret2
    exact ⟨rfl, ((Below.refl _ _).alloc (Nat.le_refl _) _).trans (hb.mono (by simp))⟩
  rcases Int.lt_or_le 1024 m with c2 | c2
  · clear hno
    go_enter Tryd.func27, Tryd.ntmps27
    go_wp2_with fail
    refine HC.out.mono ?_
    rintro e w1 ⟨rfl, hb⟩
    go_wp2
    go_ret2
    exact ⟨rfl, ((Below.refl _ _).alloc (Nat.le_refl _) _).trans (hb.mono (by simp))⟩
  rcases Int.lt_or_le al 1 with c3 | c3
  · clear hno
    go_enter Tryd.func27, Tryd.ntmps27
    go_wp2_with fail
    refine HC.out.mono ?_
    rintro e w1 ⟨rfl, hb⟩
    go_wp2
    go_ret2
    exact ⟨rfl, ((Below.refl _ _).alloc (Nat.le_refl _) _).trans (hb.mono (by simp))⟩
  have c4 : 1024 < al := by omega
  clear hno
  go_enter Tryd.func27, Tryd.ntmps27
  go_wp2_with fail
  refine HC.out.mono ?_
  rintro e w1 ⟨rfl, hb⟩
  go_wp2
  go_ret2
  exact ⟨rfl, ((Below.refl _ _).alloc (Nat.le_refl _) _).trans (hb.mono (by simp))⟩
theorem run_any (n : Int) (A : Option Addr) (cap : Nat) (ws : List Nat) (m al : Int) (inn : Bool) (w : World) (hr : Rd w A ws) (hT : Tab w) (hz0 : 0 < w.heap.size) :
    Calls Tryd.prog 27 #[.agg #[.int .i64 n, .slice A ws.length cap], .int .i64 m, .int .i64 al, .bool inn] w fun e w' =>
      e = .returned (.tuple #[.int .i64 (runVal n ws m al inn), .int .i64 (runErr n ws m al inn)]) ∧ Below w.heap.size w w' := by
  unfold runVal runErr
  by_cases h0 : chkI n ws = 0
  · rw [if_pos h0, if_pos h0]
    by_cases h1 : runOK m al
    · rw [if_pos h1, if_pos h1]
      obtain ⟨g1, g2, g3, g4⟩ := chk_good h0
      unfold runOK at h1
      obtain ⟨m', rfl⟩ := Int.eq_ofNat_of_zero_le (a := m) (by omega)
      obtain ⟨al', rfl⟩ := Int.eq_ofNat_of_zero_le (a := al) (by omega)
      exact run_loop n A cap ws m' al' inn w hr h0 g1 g2 g4 (by omega) (by omega) (by omega) (by omega) hT hz0
    · rw [if_neg h1, if_neg h1]
      exact run_out n A cap ws m al inn w hr h0 h1
  · rw [if_neg h0, if_neg h0]
    exact run_bad n A cap ws m al inn w hr h0

/-! Count -/
def cntVal (n : Int) (ws : List Nat) (f t : Int) : Int := if chpI n ws f t = 0 then (cn (inPart ws f t) (64 * ws.length) : Nat) else 0
set_option maxHeartbeats 400000 in
theorem count_bad (n : Int) (A : Option Addr) (cap : Nat) (ws : List Nat) (f t : Int) (w : World) (hr : Rd w A ws) (hne : chpI n ws f t ≠ 0) :
    Calls Tryd.prog 21 #[.agg #[.int .i64 n, .slice A ws.length cap], .int .i64 f, .int .i64 t] w fun e w' => e = .returned (.tuple #[.int .i64 0, .int .i64 (chpI n ws f t)]) ∧ Below w.heap.size w w' := by
  have hC := checkPart_any n A cap ws f t _ (hr.alloc (.cells #[.int .i64 n, .slice A ws.length cap] 24))
  have hb0 : (chpI n ws f t != 0) = true := by simpa using hne
  have HC := Lib.hid hC
  clear hC
  generalize chpI n ws f t = er at *
  go_enter Tryd.func21, Tryd.ntmps21
  go_wp2_with fail
  refine HC.out.mono ?_
  rintro e w1 ⟨rfl, hb⟩
  go_wp2
  go_ret2
  exact ⟨rfl, ((Below.refl _ _).alloc (Nat.le_refl _) _).trans (hb.mono (by simp))⟩
theorem count_any (n : Int) (A : Option Addr) (cap : Nat) (ws : List Nat) (f t : Int) (w : World) (hr : Rd w A ws) :
    Calls Tryd.prog 21 #[.agg #[.int .i64 n, .slice A ws.length cap], .int .i64 f, .int .i64 t] w fun e w' => e = .returned (.tuple #[.int .i64 (cntVal n ws f t), .int .i64 (chpI n ws f t)]) ∧ Below w.heap.size w w' := by
  unfold cntVal
  by_cases h : chpI n ws f t = 0
  · obtain ⟨h1, h2, h3, h4⟩ := chp_good h
    obtain ⟨g1, g2, _, g4⟩ := chk_good h1
    rw [if_pos h, h]
    exact count_ok n A cap ws f t w hr h h2 (by omega) (by omega) (by omega) (by rw [g4]; unfold nw; omega)
  · rw [if_neg h]
    exact count_bad n A cap ws f t w hr h

/-! Next -/
def nxF (n : Int) (ws : List Nat) (f : Int) (inn : Bool) : Int := (fs (inNext ws f n inn) (64 * ws.length) n.toNat : Nat)
def nxVal (n : Int) (ws : List Nat) (f : Int) (inn : Bool) : Int := if chpI n ws f n = 0 then (if nxF n ws f inn = n then 0 else nxF n ws f inn) else 0
def nxErr (n : Int) (ws : List Nat) (f : Int) (inn : Bool) : Int := if chpI n ws f n = 0 then (if nxF n ws f inn = n then 6 else 0) else chpI n ws f n
set_option maxHeartbeats 400000 in
theorem nx_bad (n : Int) (A : Option Addr) (cap : Nat) (ws : List Nat) (f : Int) (inn : Bool) (w : World) (hr : Rd w A ws) (hne : chpI n ws f n ≠ 0) :
    Calls Tryd.prog 23 #[.agg #[.int .i64 n, .slice A ws.length cap], .int .i64 f, .bool inn] w fun e w' => e = .returned (.tuple #[.int .i64 0, .int .i64 (chpI n ws f n)]) ∧ Below w.heap.size w w' := by
  have hC := checkPart_any n A cap ws f n _ (hr.alloc (.cells #[.int .i64 n, .slice A ws.length cap] 24))
  have hb0 : (chpI n ws f n != 0) = true := by simpa using hne
  have HC := Lib.hid hC
  clear hC
  generalize chpI n ws f n = er at *
  go_enter Tryd.func23, Tryd.ntmps23
  go_wp2_with fail
  refine HC.out.mono ?_
  rintro e w1 ⟨rfl, hb⟩
  go_wp2
  go_ret2
  exact ⟨rfl, ((Below.refl _ _).alloc (Nat.le_refl _) _).trans (hb.mono (by simp))⟩
set_option maxHeartbeats 400000 in
theorem nx_ok (n : Int) (A : Option Addr) (cap : Nat) (ws : List Nat) (f : Int) (inn : Bool) (w : World) (hr : Rd w A ws) (h0 : chpI n ws f n = 0) (hT : Tab w) (hz0 : 0 < w.heap.size) :
    Calls Tryd.prog 23 #[.agg #[.int .i64 n, .slice A ws.length cap], .int .i64 f, .bool inn] w fun e w' => e = .returned (.tuple #[.int .i64 (if nxF n ws f inn = n then 0 else nxF n ws f inn), .int .i64 (if nxF n ws f inn = n then 6 else 0)]) ∧ Below w.heap.size w w' := by
  have hC := checkPart_any n A cap ws f n _ (hr.alloc (.cells #[.int .i64 n, .slice A ws.length cap] 24))
  obtain ⟨h1, h2, h3, h4⟩ := chp_good h0
  obtain ⟨g1, g2, _, g4⟩ := chk_good h1
  rw [h0] at hC
  have hll : ws.length ≤ 100 := by rw [g4]; unfold nw; omega
  have hN := fun W hR hT hz => next_any n A cap ws f inn W hR h2 (by omega) g1 g2 hll hT hz
  have hv : nxF n ws f inn = (fs (inNext ws f n inn) (64 * ws.length) n.toNat : Nat) := rfl
  rw [← hv] at hN
  have HC := Lib.hid hC
  have HN := Lib.hid hN
  have hT1 := hT.alloc hz0 (.cells #[.int .i64 n, .slice A ws.length cap] 24)
  have hr1 := hr.alloc (.cells #[.int .i64 n, .slice A ws.length cap] 24)
  clear hC hN hv h0 h1 g4
  generalize nxF n ws f inn = v at *
  by_cases hvn : v = n
  · rw [if_pos hvn, if_pos hvn]
    have hq : ((v : Int) == n) = true := by simpa using hvn
    have HV := Lib.hid hvn
    clear hvn
    go_enter Tryd.func23, Tryd.ntmps23
    go_wp2_with fail
    refine HC.out.mono ?_
    rintro e w1 ⟨rfl, hb⟩
    obtain ⟨hc1, hf1'⟩ := bc hb
    go_wp2_with fail
    refine (HN.out _ (hr1.below hb) (hT1.below (by simp) hb) (Nat.lt_of_lt_of_le (by simp) hb.size)).mono ?_
    rintro e w2 ⟨rfl, hb2⟩
    obtain ⟨hc2, hf2'⟩ := bc hb2
    have hs1 := bsz hb
    have hx : w2.cell? ⟨w.heap.size, 0, none⟩ = some (.int .i64 n) := by
      rw [hc2 _ _ (by simp at hs1; omega), hc1 _ _ (by simp)]; simp
    clear hc1 hf1' hc2 hf2'
    go_wp2
    go_ret2
    exact ⟨rfl, (((Below.refl _ _).alloc (Nat.le_refl _) _).trans (hb.mono (by simp))).trans (hb2.mono (by simp at hs1; omega))⟩
  · rw [if_neg hvn, if_neg hvn]
    have hq : ((v : Int) == n) = false := by simpa using hvn
    have HV := Lib.hid hvn
    clear hvn
    go_enter Tryd.func23, Tryd.ntmps23
    go_wp2_with fail
    refine HC.out.mono ?_
    rintro e w1 ⟨rfl, hb⟩
    obtain ⟨hc1, hf1'⟩ := bc hb
    go_wp2_with fail
    refine (HN.out _ (hr1.below hb) (hT1.below (by simp) hb) (Nat.lt_of_lt_of_le (by simp) hb.size)).mono ?_
    rintro e w2 ⟨rfl, hb2⟩
    obtain ⟨hc2, hf2'⟩ := bc hb2
    have hs1 := bsz hb
    have hx : w2.cell? ⟨w.heap.size, 0, none⟩ = some (.int .i64 n) := by
      rw [hc2 _ _ (by simp at hs1; omega), hc1 _ _ (by simp)]; simp
    clear hc1 hf1' hc2 hf2'
    go_wp2
    go_ret2
    exact ⟨rfl, (((Below.refl _ _).alloc (Nat.le_refl _) _).trans (hb.mono (by simp))).trans (hb2.mono (by simp at hs1; omega))⟩
theorem nx_any (n : Int) (A : Option Addr) (cap : Nat) (ws : List Nat) (f : Int) (inn : Bool) (w : World) (hr : Rd w A ws) (hT : Tab w) (hz0 : 0 < w.heap.size) :
    Calls Tryd.prog 23 #[.agg #[.int .i64 n, .slice A ws.length cap], .int .i64 f, .bool inn] w fun e w' => e = .returned (.tuple #[.int .i64 (nxVal n ws f inn), .int .i64 (nxErr n ws f inn)]) ∧ Below w.heap.size w w' := by
  unfold nxVal nxErr
  by_cases h : chpI n ws f n = 0
  · rw [if_pos h, if_pos h]
    exact nx_ok n A cap ws f inn w hr h hT hz0
  · rw [if_neg h, if_neg h]
    exact nx_bad n A cap ws f inn w hr h
/-! Has -/
def hasErr (n : Int) (ws : List Nat) (i : Int) : Int := if chkI n ws = 0 then (if i < 0 ∨ n ≤ i then 2 else 0) else chkI n ws
def hasVal (n : Int) (ws : List Nat) (i : Int) : Bool := if hasErr n ws i = 0 then bit ws i.toNat else false
theorem bit_one (ws : List Nat) (k j : Nat) (hj : j = k / 64) (hx : ws.getD j 0 < 18446744073709551616) : (((ws.getD j 0 &&& maskI (j : Int) (k : Int) ((k : Int) + 1) : Nat) : Int) != 0) = bit ws k := by
  have hz : ∀ i, i < 64 → (ws.getD j 0 &&& maskI (j : Int) (k : Int) ((k : Int) + 1)).testBit i = ((ws.getD j 0).testBit i && decide (i = k % 64)) := by
    intro i hi
    rw [Nat.testBit_and, testBit_maskI _ _ _ _ hi]
    congr 1
    rw [Bool.eq_iff_iff]
    simp only [decide_eq_true_eq]
    omega
  have hb : bit ws k = (ws.getD j 0).testBit (k % 64) := by unfold bit; rw [hj]
  rw [hb]
  cases hb2 : (ws.getD j 0).testBit (k % 64) with
  | true =>
    have h1 := hz (k % 64) (by omega)
    rw [hb2] at h1
    generalize ws.getD j 0 &&& maskI (j : Int) (k : Int) ((k : Int) + 1) = z at h1 ⊢
    have hz0 : z ≠ 0 := by
      rintro rfl
      simp at h1
    simpa using hz0
  | false =>
    have h0 : (ws.getD j 0 &&& maskI (j : Int) (k : Int) ((k : Int) + 1)) = 0 := by
      apply Nat.eq_of_testBit_eq
      intro i
      rw [Nat.zero_testBit]
      rcases Nat.lt_or_ge i 64 with hi | hi
      · rw [hz i hi]
        by_cases e : i = k % 64
        · subst e; rw [hb2]; rfl
        · simp [e]
      · exact testBit_big _ _ (Nat.lt_of_le_of_lt Nat.and_le_left hx) hi
    rw [h0]
    rfl
theorem has_any (n : Int) (A : Option Addr) (cap : Nat) (ws : List Nat) (i : Int) (w : World) (hr : Rd w A ws) :
    Calls Tryd.prog 19 #[.agg #[.int .i64 n, .slice A ws.length cap], .int .i64 i] w fun e w' => e = .returned (.tuple #[.bool (hasVal n ws i), .int .i64 (hasErr n ws i)]) ∧ Below w.heap.size w w' := by
  unfold hasVal hasErr
  by_cases h0 : chkI n ws = 0
  · rw [if_pos h0]
    by_cases h1 : i < 0 ∨ n ≤ i
    · rw [if_pos h1]
      exact has_out n A cap ws i w hr h0 h1
    · rw [if_neg h1, if_pos rfl]
      obtain ⟨g1, g2, _, g4⟩ := chk_good h0
      obtain ⟨k, rfl⟩ := Int.eq_ofNat_of_zero_le (a := i) (by omega)
      have hlen : k / 64 < ws.length := by rw [g4]; unfold nw; omega
      obtain ⟨b, o, rfl, hb, hc⟩ := hr.2.2 (k / 64) hlen
      rw [Int.toNat_natCast, ← bit_one ws k (k / 64) rfl (hr.lt _)]
      exact has_in n b o cap ws k (k / 64) _ _ w hr h0 (by omega) g2 (by omega) (by omega) hb hc (bits_and_u64_nat _ _ (hr.lt _) (maskI_lt _ _ _))
  · rw [if_neg h0, if_neg h0]
    exact has_bad n A cap ws i w hr h0
end Go.Proofs.YtkifcjjnpahdmaaDoor
