import Derived.Test.YtkifcjjnpahdmaaDoorRows
import Derived.Test.YtkifcjjnpahdmaaDoorA0
import Derived.WalkKit
import Derived.WalkSpells
import Derived.WalkLawsBesides
import Derived.Deep.QuietTactic
import Derived.BigQuiet
import Derived.Lib.Hide
import Derived.Deep.OwnRows
import Derived.Deep.Draws
namespace Go.Proofs.YtkifcjjnpahdmaaDoor
open Go.RowKit
open Go.Deep

theorem wrap_sh (y : Int) : IntKind.u64.wrap (18446744073709551615 * 2 ^ min y.toNat 64) = (sh y : Int) := by
  rw [IntKind.wrap_u64]
  unfold sh
  simp
theorem sh_zero (y : Int) (h : y < 0) : (18446744073709551615 : Int) = (sh y : Int) := by
  unfold sh
  rw [show y.toNat = 0 from by omega]
  rfl

theorem ofInt_nat (a : Nat) (h : a < 18446744073709551616) : (BitVec.ofInt 64 (a : Int)).toNat = a := by
  rw [BitVec.ofInt_natCast, BitVec.toNat_ofNat]; exact Nat.mod_eq_of_lt (by omega)
theorem andNot_nat (a b : Nat) (ha : a < 18446744073709551616) (hb : b < 18446744073709551616) :
    bits .andNot .u64 (a : Int) (b : Int) = ((andn a b : Nat) : Int) := by
  unfold andn
  have hx : a &&& (2 ^ 64 - 1 - b) < 2 ^ 64 := Nat.and_lt_two_pow _ (by omega)
  show IntKind.u64.wrap ((BitVec.ofInt 64 (a : Int) &&& ~~~ BitVec.ofInt 64 (b : Int)).toNat : Int) = _
  rw [BitVec.toNat_and, BitVec.toNat_not, ofInt_nat a ha, ofInt_nat b hb, IntKind.wrap_u64]
  omega

theorem ret_u64 {a b : Int} (h : a = b) : Ending.returned (.int .u64 a) = .returned (.int .u64 b) := by rw [h]
theorem ret_i64 {a b : Int} (h : a = b) : Ending.returned (.int .i64 a) = .returned (.int .i64 b) := by rw [h]

set_option maxHeartbeats 400000 in
theorem mask_any (a b c : Int) (w : World) (h0 : 0 ≤ a) (h1 : a ≤ 1000000) (h2 : 0 ≤ b) (h3 : b ≤ 1000000) (h4 : 0 ≤ c) (h5 : c ≤ 1000000) :
    Calls Tryd.prog 47 #[.int .i64 a, .int .i64 b, .int .i64 c] w fun e w' => e = .returned (.int .u64 (maskI a b c)) ∧ w = w' := by
  have key : (maskI a b c : Int) = bits .andNot .u64 (sh (b - a * 64) : Int) (sh (c - a * 64) : Int) := (andNot_nat _ _ (sh_lt _) (sh_lt _)).symm
  rw [key]
  rcases Int.lt_or_le (b - a * 64) 0 with g1 | g1 <;> rcases Int.lt_or_le (c - a * 64) 0 with g2 | g2
  · rw [← sh_zero _ g1, ← sh_zero _ g2]
    clear key
    have k1 : 0 ≤ b - a * 64 → a * 64 ≤ b := by omega
    have k2 : 0 ≤ c - a * 64 → a * 64 ≤ c := by omega
    skip
    go_enter Tryd.func47, Tryd.ntmps47
    go_wp2
    go_ret
    exact ⟨rfl, rfl⟩
  · rw [← sh_zero _ g1, ← wrap_sh]
    clear key
    have k1 : 0 ≤ b - a * 64 → a * 64 ≤ b := by omega
    have k2 : 0 ≤ c - a * 64 → a * 64 ≤ c := by omega
    have k2 := k2 g2
    go_enter Tryd.func47, Tryd.ntmps47
    go_wp2
    go_ret
    exact ⟨rfl, rfl⟩
  · rw [← wrap_sh, ← sh_zero _ g2]
    clear key
    have k1 : 0 ≤ b - a * 64 → a * 64 ≤ b := by omega
    have k2 : 0 ≤ c - a * 64 → a * 64 ≤ c := by omega
    have k1 := k1 g1
    go_enter Tryd.func47, Tryd.ntmps47
    go_wp2
    go_ret
    exact ⟨rfl, rfl⟩
  · rw [← wrap_sh, ← wrap_sh]
    clear key
    have k1 : 0 ≤ b - a * 64 → a * 64 ≤ b := by omega
    have k2 : 0 ≤ c - a * 64 → a * 64 ≤ c := by omega
    have k1 := k1 g1
    have k2 := k2 g2
    go_enter Tryd.func47, Tryd.ntmps47
    go_wp2
    go_ret
    exact ⟨rfl, rfl⟩
set_option maxHeartbeats 400000 in
theorem words_any (a : Int) (w : World) (h0 : 0 ≤ a) (h1 : a ≤ 100000) :
    Calls Tryd.prog 65 #[.int .i64 a] w fun e w' => e = .returned (.int .i64 (nw a : Int)) ∧ w = w' := by
  go_enter Tryd.func65, Tryd.ntmps65
  go_wp2
  go_ret
  exact ⟨ret_i64 (by unfold nw; show (a + 64 - 1) / 64 = _; omega), rfl⟩

theorem info61 : (Tryd.prog.info? 61).map (fun i => (i.zero, i.size, i.bytes)) = some (some (.int .u64 0), 1, 8) := by kernel_rfl

/-- A contract that leaves the world alone, inside a region that has drawn. -/
theorem q1 {P : Program} {f : FuncId} {args : Array Value} {w : World} {n : Nat} {v : Value} (c : ∀ W : World, Calls P f args W fun e w' => e = .returned v ∧ W = w') :
    Calls P f args (w.drewN n) fun e w'' => e = .returned v ∧ ∃ m, w'' = w.drewN m := (c _).mono fun _ _ h => ⟨h.1, n, h.2.symm⟩
theorem q2 {P : Program} {f : FuncId} {args : Array Value} {w : World} {a n : Nat} {v : Value} (c : ∀ W : World, Calls P f args W fun e w' => e = .returned v ∧ W = w') :
    Calls P f args (w.drewN (a + n)) fun e w'' => e = .returned v ∧ ∃ m, w'' = w.drewN (a + m) := (c _).mono fun _ _ h => ⟨h.1, n, h.2.symm⟩

/-- The slice at A reads as the words ws in the world w. -/
def Rd (w : World) (A : Option Addr) (ws : List Nat) : Prop :=
  (∀ x ∈ ws, x < 18446744073709551616) ∧ ws.length ≤ 4000000000 ∧
  ∀ j, j < ws.length → ∃ b o, A = some ⟨b, o, none⟩ ∧ b < w.heap.size ∧ w.cell? ⟨b, o + j, none⟩ = some (.int .u64 (ws.getD j 0 : Nat))
theorem Rd.below {w w' : World} {A : Option Addr} {ws : List Nat} (h : Rd w A ws) (hb : Below w.heap.size w w') : Rd w' A ws :=
  ⟨h.1, h.2.1, fun j hj => by
    obtain ⟨b, o, rfl, hlt, hc⟩ := h.2.2 j hj
    exact ⟨b, o, rfl, Nat.lt_of_lt_of_le hlt hb.size, by rw [hb.cell (p := ⟨b, o + j, none⟩) hlt]; exact hc⟩⟩
theorem Rd.lt {w : World} {A : Option Addr} {ws : List Nat} (h : Rd w A ws) (j : Nat) : ws.getD j 0 < 18446744073709551616 := by
  rcases Nat.lt_or_ge j ws.length with hj | hj
  · have e : ws.getD j 0 = ws[j] := by simp [hj]
    rw [e]
    exact h.1 _ (List.getElem_mem hj)
  · have e : ws.getD j 0 = 0 := by simp [hj]
    rw [e]
    decide

set_option maxHeartbeats 400000 in
theorem fits_no (n : Int) (A : Option Addr) (cap : Nat) (ws : List Nat) (w : World) (h0 : 0 ≤ n) (h1 : n ≤ 100000) (hl : ws.length ≠ nw n) (hm : ws.length ≤ 4000000000) :
    Calls Tryd.prog 45 #[.agg #[.int .i64 n, .slice A ws.length cap]] w fun e w' => e = .returned (.bool false) ∧ Below w.heap.size w w' := by
  have hq : ((ws.length : Int) == (nw n : Int)) = false := by simp; omega
  go_enter Tryd.func45, Tryd.ntmps45
  go_wp2
  go_quiet ((go_at_call 65; exact q1 fun W => words_any _ W (by omega) (by omega)))
  go_wp2
  go_ret
  exact ⟨rfl, below_drewN ((Below.refl _ _).alloc (Nat.le_refl _) _) _⟩
set_option maxHeartbeats 400000 in
theorem fits_zero (n : Int) (A : Option Addr) (cap : Nat) (w : World) (h0 : 0 ≤ n) (h1 : n ≤ 100000) (hl : 0 = nw n) :
    Calls Tryd.prog 45 #[.agg #[.int .i64 n, .slice A 0 cap]] w fun e w' => e = .returned (.bool true) ∧ Below w.heap.size w w' := by
  have hw : ∀ W, Calls Tryd.prog 65 #[.int .i64 n] W fun e w' => e = .returned (.int .i64 0) ∧ W = w' := fun W =>
    (words_any n W h0 h1).mono fun _ _ h => ⟨by rw [h.1, ← hl]; rfl, h.2⟩
  have HW := Lib.hid hw
  clear hw hl
  go_enter Tryd.func45, Tryd.ntmps45
  go_wp2
  go_quiet ((go_at_call 65; exact q1 HW.out))
  go_wp2
  go_quiet (fail)
  go_wp2
  go_ret
  exact ⟨rfl, below_drewN (below_drewN ((Below.refl _ _).alloc (Nat.le_refl _) _) _) _⟩
set_option maxHeartbeats 400000 in
theorem fits_more (n : Int) (b o k cap x : Nat) (w : World) (h0 : 0 ≤ n) (h1 : n ≤ 100000) (hl : k + 1 = nw n) (hm : k ≤ 100000) (hc : w.cell? ⟨b, o + k, none⟩ = some (.int .u64 (x : Int))) (hb : b < w.heap.size) (hx : x < 18446744073709551616) (hM : maskI (k : Int) 0 n < 18446744073709551616) :
    Calls Tryd.prog 45 #[.agg #[.int .i64 n, .slice (some ⟨b, o, none⟩) (k + 1) cap]] w fun e w' => e = .returned (.bool ((andn x (maskI (k : Int) 0 n) : Nat) == (0 : Int))) ∧ Below w.heap.size w w' := by
  have hw : ∀ W, Calls Tryd.prog 65 #[.int .i64 n] W fun e w' => e = .returned (.int .i64 ((k : Int) + 1)) ∧ W = w' := fun W =>
    (words_any n W h0 h1).mono fun _ _ h => ⟨by rw [h.1, ← hl]; rfl, h.2⟩
  have HW := Lib.hid hw
  have hand := andNot_nat x (maskI (k : Int) 0 n) hx hM
  have hgo : decide ((k : Int) < 0) = false := by simp
  have hi0 : 0 ≤ (k : Int) := by omega
  have hi1 : (k : Int) < (k : Int) + 1 := by omega
  clear hw hl
  go_enter Tryd.func45, Tryd.ntmps45
  go_wp2
  go_quiet ((go_at_call 65; exact q1 HW.out))
  go_wp2
  go_quiet ((go_at_call 47; exact q2 fun W => mask_any _ _ _ W (by omega) (by omega) (by omega) (by omega) (by omega) (by omega)))
  go_wp2
  go_ret
  exact ⟨rfl, below_drewN (below_drewN ((Below.refl _ _).alloc (Nat.le_refl _) _) _) _⟩
theorem fits_any (n : Int) (A : Option Addr) (cap : Nat) (ws : List Nat) (w : World) (h0 : 0 ≤ n) (h1 : n ≤ 100000) (hr : Rd w A ws) :
    Calls Tryd.prog 45 #[.agg #[.int .i64 n, .slice A ws.length cap]] w fun e w' => e = .returned (.bool (fitB n ws)) ∧ Below w.heap.size w w' := by
  by_cases hl : ws.length = nw n
  · by_cases hz : ws.length = 0
    · have e : fitB n ws = true := by unfold fitB; rw [if_pos hl, if_pos hz]
      rw [e, hz]
      exact fits_zero n A cap w h0 h1 (by omega)
    · obtain ⟨k, hk⟩ : ∃ k, ws.length = k + 1 := ⟨ws.length - 1, by omega⟩
      obtain ⟨b, o, rfl, hb, hc⟩ := hr.2.2 k (by omega)
      have hn : nw n ≤ 10000 := by unfold nw; omega
      have e : fitB n ws = ((andn (ws.getD k 0) (maskI (k : Int) 0 n) : Nat) == (0 : Int)) := by unfold fitB; rw [if_pos hl, if_neg hz, hk]; rfl
      rw [e, hk]
      exact fits_more n b o k cap _ w h0 h1 (by omega) (by omega) hc hb (hr.lt k) (maskI_lt _ _ _)
  · have e : fitB n ws = false := by unfold fitB; rw [if_neg hl]
    rw [e]
    exact fits_no n A cap ws w h0 h1 hl hr.2.1

/-- What was there reads as it did. -/
theorem bc {B : Nat} {W w1 : World} (hb : Below B W w1) : (∀ b o, b < B → w1.cell? ⟨b, o, none⟩ = W.cell? ⟨b, o, none⟩) ∧ (∀ b o, b < B → w1.frozen? ⟨b, o, none⟩ = W.frozen? ⟨b, o, none⟩) :=
  ⟨fun b o h => hb.cell (p := ⟨b, o, none⟩) h, fun b o h => hb.frozen (p := ⟨b, o, none⟩) h⟩
theorem Rd.alloc {w : World} {A : Option Addr} {ws : List Nat} (h : Rd w A ws) (o : Obj) : Rd (w.alloc o) A ws := h.below ((Below.refl _ _).alloc (Nat.le_refl _) o)

set_option maxHeartbeats 400000 in
theorem check_any (n : Int) (A : Option Addr) (cap : Nat) (ws : List Nat) (w : World) (hr : Rd w A ws) :
    Calls Tryd.prog 17 #[.agg #[.int .i64 n, .slice A ws.length cap]] w fun e w' => e = .returned (.int .i64 (chkI n ws)) ∧ Below w.heap.size w w' := by
  rcases Int.lt_or_le n 0 with h0 | h0
  · have e : chkI n ws = 2 := by unfold chkI; rw [if_pos (.inl h0)]
    rw [e]
    go_enter Tryd.func17, Tryd.ntmps17
    go_wp2
    go_ret
    exact ⟨rfl, (Below.refl _ _).alloc (Nat.le_refl _) _⟩
  · rcases Int.lt_or_le 1024 n with h1 | h1
    · have e : chkI n ws = 2 := by unfold chkI; rw [if_pos (.inr h1)]
      rw [e]
      go_enter Tryd.func17, Tryd.ntmps17
      go_wp2
      go_ret
      exact ⟨rfl, (Below.refl _ _).alloc (Nat.le_refl _) _⟩
    · have hf := fun W (hR : Rd W A ws) => fits_any n A cap ws W h0 (by omega) hR
      cases hB : fitB n ws with
      | true =>
        have e : chkI n ws = 0 := by unfold chkI; rw [if_neg (by omega), if_pos hB]
        rw [e]
        rw [hB] at hf
        have HF := Lib.hid hf
        clear hf
        go_enter Tryd.func17, Tryd.ntmps17
        go_wp2_with fail
        refine (HF.out _ (hr.alloc _)).mono ?_
        rintro e w1 ⟨rfl, hb⟩
        go_wp2
        go_ret
        exact ⟨rfl, ((Below.refl _ _).alloc (Nat.le_refl _) _).trans (hb.mono (by simp))⟩
      | false =>
        have e : chkI n ws = 3 := by unfold chkI; rw [if_neg (by omega), if_neg (by simp [hB])]
        rw [e]
        rw [hB] at hf
        have HF := Lib.hid hf
        clear hf
        go_enter Tryd.func17, Tryd.ntmps17
        go_wp2_with fail
        refine (HF.out _ (hr.alloc _)).mono ?_
        rintro e w1 ⟨rfl, hb⟩
        go_wp2
        go_ret
        exact ⟨rfl, ((Below.refl _ _).alloc (Nat.le_refl _) _).trans (hb.mono (by simp))⟩

set_option maxHeartbeats 400000 in
theorem checkPart_any (n : Int) (A : Option Addr) (cap : Nat) (ws : List Nat) (f t : Int) (w : World) (hr : Rd w A ws) :
    Calls Tryd.prog 48 #[.agg #[.int .i64 n, .slice A ws.length cap], .int .i64 f, .int .i64 t] w fun e w' => e = .returned (.int .i64 (chpI n ws f t)) ∧ Below w.heap.size w w' := by
  have hC := check_any n A cap ws _ (hr.alloc (.cells #[.int .i64 n, .slice A ws.length cap] 24))
  by_cases hne : chkI n ws = 0
  · rw [hne] at hC
    have HC := Lib.hid hC
    have hE : chpI n ws f t = if f < 0 ∨ t < f ∨ n < t then 2 else 0 := by unfold chpI; rw [if_neg (by simp [hne])]
    rw [hE]
    clear hC hE hne
    rcases Int.lt_or_le f 0 with h0 | h0
    · rw [if_pos (.inl h0)]
      go_enter Tryd.func48, Tryd.ntmps48
      go_wp2_with fail
      refine HC.out.mono ?_
      rintro e w1 ⟨rfl, hb⟩
      obtain ⟨hc1, hf1⟩ := bc hb
      go_wp2
      go_ret
      exact ⟨rfl, ((Below.refl _ _).alloc (Nat.le_refl _) _).trans (hb.mono (by simp))⟩
    · rcases Int.lt_or_le t f with h1 | h1
      · rw [if_pos (.inr (.inl h1))]
        go_enter Tryd.func48, Tryd.ntmps48
        go_wp2_with fail
        refine HC.out.mono ?_
        rintro e w1 ⟨rfl, hb⟩
        obtain ⟨hc1, hf1⟩ := bc hb
        go_wp2
        go_ret
        exact ⟨rfl, ((Below.refl _ _).alloc (Nat.le_refl _) _).trans (hb.mono (by simp))⟩
      · rcases Int.lt_or_le n t with h2 | h2
        · rw [if_pos (.inr (.inr h2))]
          go_enter Tryd.func48, Tryd.ntmps48
          go_wp2_with fail
          refine HC.out.mono ?_
          rintro e w1 ⟨rfl, hb⟩
          obtain ⟨hc1, hf1⟩ := bc hb
          go_wp2
          go_ret
          exact ⟨rfl, ((Below.refl _ _).alloc (Nat.le_refl _) _).trans (hb.mono (by simp))⟩
        · rw [if_neg (by omega)]
          go_enter Tryd.func48, Tryd.ntmps48
          go_wp2_with fail
          refine HC.out.mono ?_
          rintro e w1 ⟨rfl, hb⟩
          obtain ⟨hc1, hf1⟩ := bc hb
          go_wp2
          go_ret
          exact ⟨rfl, ((Below.refl _ _).alloc (Nat.le_refl _) _).trans (hb.mono (by simp))⟩
  · have hE : chpI n ws f t = chkI n ws := by unfold chpI; rw [if_pos hne]
    rw [hE]
    have hb0 : (chkI n ws != 0) = true := by simpa using hne
    have HC := Lib.hid hC
    clear hC hE
    go_enter Tryd.func48, Tryd.ntmps48
    go_wp2_with fail
    refine HC.out.mono ?_
    rintro e w1 ⟨rfl, hb⟩
    obtain ⟨hc1, hf1⟩ := bc hb
    go_wp2
    go_ret
    exact ⟨rfl, ((Below.refl _ _).alloc (Nat.le_refl _) _).trans (hb.mono (by simp))⟩
set_option maxHeartbeats 400000 in
theorem empty_any (a : Int) (w : World) (h0 : 0 ≤ a) (h1 : a ≤ 100000) :
    Calls Tryd.prog 44 #[.int .i64 a] w fun e w' => ∃ g, w.heap.size ≤ g ∧ e = .returned (.agg #[.int .i64 a, .slice (some ⟨g, 0, none⟩) (nw a) (nw a)]) ∧ w'.rowIs g 61 (nw a) (fun _ => .int .u64 0) ∧ Below w.heap.size w w' := by
  have hn : nw a ≤ 10000 := by unfold nw; omega
  have hmk := fun W => run_make_row' (P := Tryd.prog) 22 61 (.int .u64 0) 8 Tryd.underlying22 info61 rfl .i64 .i64 (nw a) (by omega) (by omega) W
  go_enter Tryd.func44, Tryd.ntmps44
  go_wp2_with fail
  refine (words_any _ _ (by omega) (by omega)).mono ?_; rintro e w' ⟨rfl, rfl⟩
  go_wp2
  refine bodyPost_ret (v := .agg #[.int .i64 a, .slice (some ⟨w.heap.size + 1, 0, none⟩) (nw a) (nw a)]) (by simp [results, Tryd.results44, go_sem]) rfl ⟨w.heap.size + 1, by omega, rfl, ?_, ?_⟩
  · have := World.rowIs_made (w.alloc (.cells #[.int .i64 a, .slice (some ⟨w.heap.size + 1, 0, none⟩) (nw a) (nw a)] 24)) (.int .u64 0) (nw a) 61
    simpa using this
  · exact ((Below.refl _ _).alloc (Nat.le_refl _) _).alloc (by simp) _
end Go.Proofs.YtkifcjjnpahdmaaDoor
