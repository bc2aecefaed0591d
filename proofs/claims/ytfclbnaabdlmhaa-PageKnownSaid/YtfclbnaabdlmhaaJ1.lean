import Derived.Test.YtfclbnaabdlmhaaI4
import Derived.Test.YtfclbnaabdlmhaaSH
namespace Go.Proofs.Ytfclbnaabdlmhaa
open Go.RowKit Go.Deep
/-- the digit's number; none: it is no digit -/
def hexV (b : Nat) : Int := if 48 ≤ b ∧ b ≤ 57 then (b : Int) - 48 else if 97 ≤ b ∧ b ≤ 102 then (b : Int) - 87 else -1
theorem hexV_le (b : Nat) : hexV b ≤ 15 := by unfold hexV; split; omega; split <;> omega
set_option maxHeartbeats 400000 in
theorem value_any (b : Nat) (w : World) (hb : b < 256) :
    Calls Try.prog 46 #[.int .u8 (b : Int)] w fun e w' => e = .returned (.int .i64 (hexV b)) ∧ w = w' := by
  go_enter Try.func46, Try.ntmps46
  go_wp2
  go_loopw [3] (fun i wr => ∃ k : Nat, k ≤ 16 ∧ i = .int .i64 k ∧ w = wr ∧ ∀ j, j < k → hexD j ≠ b) (fun i _ => 16 - (intOf i).toNat)
  case atStart => exact ⟨0, by omega, rfl, rfl, fun j hj => by omega⟩
  case round =>
    obtain ⟨k, hk, rfl, rfl, hno⟩ := hrel
    by_cases hlt : k < 16
    · have hlt' : (k : Int) < 16 := by omega
      clear hlt'
      obtain rfl | rfl | rfl | rfl | rfl | rfl | rfl | rfl | rfl | rfl | rfl | rfl | rfl | rfl | rfl | rfl : k = 0 ∨ k = 1 ∨ k = 2 ∨ k = 3 ∨ k = 4 ∨ k = 5 ∨ k = 6 ∨ k = 7 ∨ k = 8 ∨ k = 9 ∨ k = 10 ∨ k = 11 ∨ k = 12 ∨ k = 13 ∨ k = 14 ∨ k = 15 := by omega
      · have he : ((⟨#[48, 49, 50, 51, 52, 53, 54, 55, 56, 57, 97, 98, 99, 100, 101, 102]⟩ : ByteArray)[0]'(by decide)).toNat = 48 := rfl
        by_cases hbk : b = 48
        · subst hbk
          go_wp2
          go_ret
          exact ⟨by rfl, rfl⟩
        · have hq : ((48 : Int) == (b : Int)) = false := by simp; omega
          go_wp2
          go_roundw
          case rel => exact ⟨1, by omega, by first | rfl | trivial, by first | rfl | trivial, fun j hj => by
            rcases Nat.lt_succ_iff_lt_or_eq.1 hj with h | h
            · exact hno j h
            · subst h; intro e; exact hbk (by rw [← e]; rfl)⟩
          case measure => simp [intOf]
      · have he : ((⟨#[48, 49, 50, 51, 52, 53, 54, 55, 56, 57, 97, 98, 99, 100, 101, 102]⟩ : ByteArray)[1]'(by decide)).toNat = 49 := rfl
        by_cases hbk : b = 49
        · subst hbk
          go_wp2
          go_ret
          exact ⟨by rfl, rfl⟩
        · have hq : ((49 : Int) == (b : Int)) = false := by simp; omega
          go_wp2
          go_roundw
          case rel => exact ⟨2, by omega, by first | rfl | trivial, by first | rfl | trivial, fun j hj => by
            rcases Nat.lt_succ_iff_lt_or_eq.1 hj with h | h
            · exact hno j h
            · subst h; intro e; exact hbk (by rw [← e]; rfl)⟩
          case measure => simp [intOf]
      · have he : ((⟨#[48, 49, 50, 51, 52, 53, 54, 55, 56, 57, 97, 98, 99, 100, 101, 102]⟩ : ByteArray)[2]'(by decide)).toNat = 50 := rfl
        by_cases hbk : b = 50
        · subst hbk
          go_wp2
          go_ret
          exact ⟨by rfl, rfl⟩
        · have hq : ((50 : Int) == (b : Int)) = false := by simp; omega
          go_wp2
          go_roundw
          case rel => exact ⟨3, by omega, by first | rfl | trivial, by first | rfl | trivial, fun j hj => by
            rcases Nat.lt_succ_iff_lt_or_eq.1 hj with h | h
            · exact hno j h
            · subst h; intro e; exact hbk (by rw [← e]; rfl)⟩
          case measure => simp [intOf]
      · have he : ((⟨#[48, 49, 50, 51, 52, 53, 54, 55, 56, 57, 97, 98, 99, 100, 101, 102]⟩ : ByteArray)[3]'(by decide)).toNat = 51 := rfl
        by_cases hbk : b = 51
        · subst hbk
          go_wp2
          go_ret
          exact ⟨by rfl, rfl⟩
        · have hq : ((51 : Int) == (b : Int)) = false := by simp; omega
          go_wp2
          go_roundw
          case rel => exact ⟨4, by omega, by first | rfl | trivial, by first | rfl | trivial, fun j hj => by
            rcases Nat.lt_succ_iff_lt_or_eq.1 hj with h | h
            · exact hno j h
            · subst h; intro e; exact hbk (by rw [← e]; rfl)⟩
          case measure => simp [intOf]
      · have he : ((⟨#[48, 49, 50, 51, 52, 53, 54, 55, 56, 57, 97, 98, 99, 100, 101, 102]⟩ : ByteArray)[4]'(by decide)).toNat = 52 := rfl
        by_cases hbk : b = 52
        · subst hbk
          go_wp2
          go_ret
          exact ⟨by rfl, rfl⟩
        · have hq : ((52 : Int) == (b : Int)) = false := by simp; omega
          go_wp2
          go_roundw
          case rel => exact ⟨5, by omega, by first | rfl | trivial, by first | rfl | trivial, fun j hj => by
            rcases Nat.lt_succ_iff_lt_or_eq.1 hj with h | h
            · exact hno j h
            · subst h; intro e; exact hbk (by rw [← e]; rfl)⟩
          case measure => simp [intOf]
      · have he : ((⟨#[48, 49, 50, 51, 52, 53, 54, 55, 56, 57, 97, 98, 99, 100, 101, 102]⟩ : ByteArray)[5]'(by decide)).toNat = 53 := rfl
        by_cases hbk : b = 53
        · subst hbk
          go_wp2
          go_ret
          exact ⟨by rfl, rfl⟩
        · have hq : ((53 : Int) == (b : Int)) = false := by simp; omega
          go_wp2
          go_roundw
          case rel => exact ⟨6, by omega, by first | rfl | trivial, by first | rfl | trivial, fun j hj => by
            rcases Nat.lt_succ_iff_lt_or_eq.1 hj with h | h
            · exact hno j h
            · subst h; intro e; exact hbk (by rw [← e]; rfl)⟩
          case measure => simp [intOf]
      · have he : ((⟨#[48, 49, 50, 51, 52, 53, 54, 55, 56, 57, 97, 98, 99, 100, 101, 102]⟩ : ByteArray)[6]'(by decide)).toNat = 54 := rfl
        by_cases hbk : b = 54
        · subst hbk
          go_wp2
          go_ret
          exact ⟨by rfl, rfl⟩
        · have hq : ((54 : Int) == (b : Int)) = false := by simp; omega
          go_wp2
          go_roundw
          case rel => exact ⟨7, by omega, by first | rfl | trivial, by first | rfl | trivial, fun j hj => by
            rcases Nat.lt_succ_iff_lt_or_eq.1 hj with h | h
            · exact hno j h
            · subst h; intro e; exact hbk (by rw [← e]; rfl)⟩
          case measure => simp [intOf]
      · have he : ((⟨#[48, 49, 50, 51, 52, 53, 54, 55, 56, 57, 97, 98, 99, 100, 101, 102]⟩ : ByteArray)[7]'(by decide)).toNat = 55 := rfl
        by_cases hbk : b = 55
        · subst hbk
          go_wp2
          go_ret
          exact ⟨by rfl, rfl⟩
        · have hq : ((55 : Int) == (b : Int)) = false := by simp; omega
          go_wp2
          go_roundw
          case rel => exact ⟨8, by omega, by first | rfl | trivial, by first | rfl | trivial, fun j hj => by
            rcases Nat.lt_succ_iff_lt_or_eq.1 hj with h | h
            · exact hno j h
            · subst h; intro e; exact hbk (by rw [← e]; rfl)⟩
          case measure => simp [intOf]
      · have he : ((⟨#[48, 49, 50, 51, 52, 53, 54, 55, 56, 57, 97, 98, 99, 100, 101, 102]⟩ : ByteArray)[8]'(by decide)).toNat = 56 := rfl
        by_cases hbk : b = 56
        · subst hbk
          go_wp2
          go_ret
          exact ⟨by rfl, rfl⟩
        · have hq : ((56 : Int) == (b : Int)) = false := by simp; omega
          go_wp2
          go_roundw
          case rel => exact ⟨9, by omega, by first | rfl | trivial, by first | rfl | trivial, fun j hj => by
            rcases Nat.lt_succ_iff_lt_or_eq.1 hj with h | h
            · exact hno j h
            · subst h; intro e; exact hbk (by rw [← e]; rfl)⟩
          case measure => simp [intOf]
      · have he : ((⟨#[48, 49, 50, 51, 52, 53, 54, 55, 56, 57, 97, 98, 99, 100, 101, 102]⟩ : ByteArray)[9]'(by decide)).toNat = 57 := rfl
        by_cases hbk : b = 57
        · subst hbk
          go_wp2
          go_ret
          exact ⟨by rfl, rfl⟩
        · have hq : ((57 : Int) == (b : Int)) = false := by simp; omega
          go_wp2
          go_roundw
          case rel => exact ⟨10, by omega, by first | rfl | trivial, by first | rfl | trivial, fun j hj => by
            rcases Nat.lt_succ_iff_lt_or_eq.1 hj with h | h
            · exact hno j h
            · subst h; intro e; exact hbk (by rw [← e]; rfl)⟩
          case measure => simp [intOf]
      · have he : ((⟨#[48, 49, 50, 51, 52, 53, 54, 55, 56, 57, 97, 98, 99, 100, 101, 102]⟩ : ByteArray)[10]'(by decide)).toNat = 97 := rfl
        by_cases hbk : b = 97
        · subst hbk
          go_wp2
          go_ret
          exact ⟨by rfl, rfl⟩
        · have hq : ((97 : Int) == (b : Int)) = false := by simp; omega
          go_wp2
          go_roundw
          case rel => exact ⟨11, by omega, by first | rfl | trivial, by first | rfl | trivial, fun j hj => by
            rcases Nat.lt_succ_iff_lt_or_eq.1 hj with h | h
            · exact hno j h
            · subst h; intro e; exact hbk (by rw [← e]; rfl)⟩
          case measure => simp [intOf]
      · have he : ((⟨#[48, 49, 50, 51, 52, 53, 54, 55, 56, 57, 97, 98, 99, 100, 101, 102]⟩ : ByteArray)[11]'(by decide)).toNat = 98 := rfl
        by_cases hbk : b = 98
        · subst hbk
          go_wp2
          go_ret
          exact ⟨by rfl, rfl⟩
        · have hq : ((98 : Int) == (b : Int)) = false := by simp; omega
          go_wp2
          go_roundw
          case rel => exact ⟨12, by omega, by first | rfl | trivial, by first | rfl | trivial, fun j hj => by
            rcases Nat.lt_succ_iff_lt_or_eq.1 hj with h | h
            · exact hno j h
            · subst h; intro e; exact hbk (by rw [← e]; rfl)⟩
          case measure => simp [intOf]
      · have he : ((⟨#[48, 49, 50, 51, 52, 53, 54, 55, 56, 57, 97, 98, 99, 100, 101, 102]⟩ : ByteArray)[12]'(by decide)).toNat = 99 := rfl
        by_cases hbk : b = 99
        · subst hbk
          go_wp2
          go_ret
          exact ⟨by rfl, rfl⟩
        · have hq : ((99 : Int) == (b : Int)) = false := by simp; omega
          go_wp2
          go_roundw
          case rel => exact ⟨13, by omega, by first | rfl | trivial, by first | rfl | trivial, fun j hj => by
            rcases Nat.lt_succ_iff_lt_or_eq.1 hj with h | h
            · exact hno j h
            · subst h; intro e; exact hbk (by rw [← e]; rfl)⟩
          case measure => simp [intOf]
      · have he : ((⟨#[48, 49, 50, 51, 52, 53, 54, 55, 56, 57, 97, 98, 99, 100, 101, 102]⟩ : ByteArray)[13]'(by decide)).toNat = 100 := rfl
        by_cases hbk : b = 100
        · subst hbk
          go_wp2
          go_ret
          exact ⟨by rfl, rfl⟩
        · have hq : ((100 : Int) == (b : Int)) = false := by simp; omega
          go_wp2
          go_roundw
          case rel => exact ⟨14, by omega, by first | rfl | trivial, by first | rfl | trivial, fun j hj => by
            rcases Nat.lt_succ_iff_lt_or_eq.1 hj with h | h
            · exact hno j h
            · subst h; intro e; exact hbk (by rw [← e]; rfl)⟩
          case measure => simp [intOf]
      · have he : ((⟨#[48, 49, 50, 51, 52, 53, 54, 55, 56, 57, 97, 98, 99, 100, 101, 102]⟩ : ByteArray)[14]'(by decide)).toNat = 101 := rfl
        by_cases hbk : b = 101
        · subst hbk
          go_wp2
          go_ret
          exact ⟨by rfl, rfl⟩
        · have hq : ((101 : Int) == (b : Int)) = false := by simp; omega
          go_wp2
          go_roundw
          case rel => exact ⟨15, by omega, by first | rfl | trivial, by first | rfl | trivial, fun j hj => by
            rcases Nat.lt_succ_iff_lt_or_eq.1 hj with h | h
            · exact hno j h
            · subst h; intro e; exact hbk (by rw [← e]; rfl)⟩
          case measure => simp [intOf]
      · have he : ((⟨#[48, 49, 50, 51, 52, 53, 54, 55, 56, 57, 97, 98, 99, 100, 101, 102]⟩ : ByteArray)[15]'(by decide)).toNat = 102 := rfl
        by_cases hbk : b = 102
        · subst hbk
          go_wp2
          go_ret
          exact ⟨by rfl, rfl⟩
        · have hq : ((102 : Int) == (b : Int)) = false := by simp; omega
          go_wp2
          go_roundw
          case rel => exact ⟨16, by omega, by first | rfl | trivial, by first | rfl | trivial, fun j hj => by
            rcases Nat.lt_succ_iff_lt_or_eq.1 hj with h | h
            · exact hno j h
            · subst h; intro e; exact hbk (by rw [← e]; rfl)⟩
          case measure => simp [intOf]
    · obtain rfl : k = 16 := by omega
      go_wp2
      go_ret
      refine ⟨?_, rfl⟩
      have hx : hexV b = -1 := by
        unfold hexV
        by_cases c1 : 48 ≤ b ∧ b ≤ 57
        · exact absurd (show hexD (b - 48) = b by unfold hexD; split <;> omega) (hno (b - 48) (by omega))
        · rw [if_neg c1]
          by_cases c2 : 97 ≤ b ∧ b ≤ 102
          · exact absurd (show hexD (b - 87) = b by unfold hexD; split <;> omega) (hno (b - 87) (by omega))
          · rw [if_neg c2]
      rw [hx]
      rfl

theorem idxF : ∀ b : Fin 256, Lib.indexByte [48, 49, 50, 51, 52, 53, 54, 55, 56, 57, 97, 98, 99, 100, 101, 102] ((b.1 : Int).toNat.toUInt8) = hexV b.1 := by decide +kernel
theorem idx_any (b : Nat) (w : World) (hb : b < 256) : Calls Try.prog 45 #[.string ⟨#[48, 49, 50, 51, 52, 53, 54, 55, 56, 57, 97, 98, 99, 100, 101, 102]⟩, .int .u8 (b : Int)] w fun e w' => e = .returned (.int .i64 (hexV b)) ∧ w = w' :=
  (Try.strings_IndexByte _ _ _).mono fun e w' ⟨he, hw⟩ => ⟨by rw [he, ← idxF ⟨b, hb⟩], hw.symm⟩
/-- may a byte stand there -/
def okB (i b : Nat) : Bool := if i % 17 = 16 then b == 32 else decide (0 ≤ hexV b)
def okAt (l : List UInt8) (i : Nat) : Bool := okB i (l.getD i 0).toNat
def feF (l : List UInt8) : Nat → Nat → Nat
  | 0, k => k
  | f + 1, k => if okAt l k = true then feF l f (k + 1) else k
/-- where the first fault is; the length if there is none -/
def fe (l : List UInt8) : Nat := feF l l.length 0
theorem feF_eq (l : List UInt8) (k n : Nat) (hk : k ≤ n) (h : ∀ i, i < k → okAt l i = true) (hx : k = n ∨ okAt l k = false) : ∀ f j, j + f = n → j ≤ k → feF l f j = k
  | 0, j, hj, hjk => by show j = k; omega
  | f + 1, j, hj, hjk => by
    rw [feF]
    rcases Nat.lt_or_ge j k with c | c
    · rw [if_pos (h j c)]
      exact feF_eq l k n hk h hx f (j + 1) (by omega) (by omega)
    · obtain rfl : j = k := by omega
      rcases hx with hx | hx
      · omega
      · rw [hx]; rfl
theorem fe_eq {l : List UInt8} {k : Nat} (hk : k ≤ l.length) (h : ∀ i, i < k → okAt l i = true) (hx : k = l.length ∨ okAt l k = false) : fe l = k := feF_eq l k l.length hk h hx _ 0 (by omega) (by omega)
/-- the words after the first k bytes -/
def pv (l : List UInt8) : Nat → Nat → Nat
  | 0 => fun _ => 0
  | k + 1 => if k % 17 = 16 then pv l k else upd (pv l k) (k / 17) (16 * pv l k (k / 17) + (hexV (l.getD k 0).toNat).toNat)
theorem pv_blank (l : List UInt8) (k : Nat) (h : k % 17 = 16) : pv l (k + 1) = pv l k := by rw [pv, if_pos h]
theorem pv_digit (l : List UInt8) (k : Nat) (h : ¬ k % 17 = 16) : pv l (k + 1) = upd (pv l k) (k / 17) (16 * pv l k (k / 17) + (hexV (l.getD k 0).toNat).toNat) := by rw [pv, if_neg h]
theorem pv_lt (l : List UInt8) (k : Nat) : ∀ w, pv l k w < if w < k / 17 then 16 ^ 16 else if w = k / 17 then 16 ^ (k % 17) else 1 := by
  induction k with
  | zero =>
    intro w
    show 0 < _
    split
    · decide
    · split
      · exact Nat.pow_pos (by omega)
      · omega
  | succ k ih =>
    intro w
    have hw := ih w
    by_cases h : k % 17 = 16
    · rw [pv_blank l k h, show (k + 1) / 17 = k / 17 + 1 from by omega, show (k + 1) % 17 = 0 from by omega]
      by_cases h1 : w < k / 17
      · rw [if_pos h1] at hw; rw [if_pos (by omega)]; exact hw
      · rw [if_neg h1] at hw
        by_cases h2 : w = k / 17
        · rw [if_pos h2, h] at hw; rw [if_pos (by omega)]; exact hw
        · rw [if_neg h2] at hw
          rw [if_neg (by omega)]
          split <;> omega
    · rw [pv_digit l k h, show (k + 1) / 17 = k / 17 from by omega, show (k + 1) % 17 = k % 17 + 1 from by omega]
      unfold upd
      by_cases h2 : w = k / 17
      · subst h2
        rw [if_neg (by omega), if_pos rfl] at hw
        rw [if_pos rfl, if_neg (by omega), if_pos rfl, Nat.pow_succ]
        have := hexV_le (l.getD k 0).toNat
        omega
      · rw [if_neg h2]
        by_cases h1 : w < k / 17
        · rw [if_pos h1] at hw ⊢; exact hw
        · rw [if_neg h1, if_neg h2] at hw
          rw [if_neg h1, if_neg h2]; exact hw
theorem pow16 (n : Nat) (h : n ≤ 16) : (16 : Nat) ^ n ≤ 18446744073709551616 := by
  have : (16 : Nat) ^ n ≤ 16 ^ 16 := Nat.pow_le_pow_right (by omega) h
  have e : (16 : Nat) ^ 16 = 18446744073709551616 := by decide
  omega
theorem pv_pg (l : List UInt8) (k : Nat) : Pg (pv l k) := fun w => by
  have h := pv_lt l k w
  have h1 := pow16 16 (by omega)
  have h2 := pow16 (k % 17) (by omega)
  split at h
  · omega
  · split at h <;> omega
theorem pv_cur (l : List UInt8) (k : Nat) (h : ¬ k % 17 = 16) : pv l k (k / 17) < 1152921504606846976 := by
  have hw := pv_lt l k (k / 17)
  rw [if_neg (by omega), if_pos rfl] at hw
  have : (16 : Nat) ^ (k % 17) ≤ 16 ^ 15 := Nat.pow_le_pow_right (by omega) (by omega)
  have e : (16 : Nat) ^ 15 = 1152921504606846976 := by decide
  omega
def prE (l : List UInt8) : Int := if 135 < l.length then 4 else if fe l < 135 then 3 else 0
def prA (l : List UInt8) : Int := if 135 < l.length then 135 else if fe l < 135 then (fe l : Int) else 0
def prC (l : List UInt8) : Nat → Nat := if 135 < l.length then (fun _ => 0) else if fe l < 135 then (fun _ => 0) else pv l 135
end Go.Proofs.Ytfclbnaabdlmhaa
