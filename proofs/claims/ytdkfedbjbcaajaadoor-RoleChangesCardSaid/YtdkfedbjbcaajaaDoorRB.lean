import Derived.Test.YtdkfedbjbcaajaaDoorR4
import Derived.Test.YtdkfedbjbcaajaaDoorSH
import Derived.Laws.RangeString
import Derived.Lib.OthersKept
import Derived.WalkSmall
import Derived.Sort.CutIn
namespace Go.Proofs.YtdkfedbjbcaajaaDoor
open Go.RowKit
def roleV (b : Nat) : Int := if b = 46 then 0 else if b = 80 then 1 else if b = 83 then 2 else if b = 84 then 3 else if b = 77 then 4 else if b = 87 then 5 else if b = 82 then 6 else if b = 79 then 7 else -1
theorem idxF : ∀ b : Fin 256, Lib.indexByte [46, 80, 83, 84, 77, 87, 82, 79] ((b.1 : Int).toNat.toUInt8) = roleV b.1 := by decide +kernel
theorem idx_any (b : Nat) (w : World) (hb : b < 256) : Calls Tryd.prog 45 #[.string ⟨#[46, 80, 83, 84, 77, 87, 82, 79]⟩, .int .u8 (b : Int)] w fun e w' => e = .returned (.int .i64 (roleV b)) ∧ w = w' :=
  (Tryd.strings_IndexByte _ _ _).mono fun e w' ⟨he, hw⟩ => ⟨by rw [he, ← idxF ⟨b, hb⟩], hw.symm⟩
def letV (r : Nat) : Nat := if r > 90 then 0 else r
theorem letter_any (r : Nat) (w : World) : Calls Tryd.prog 46 #[.int .i32 (r : Int)] w fun e w' => e = .returned (.int .u8 (letV r : Int)) ∧ w = w' := by
  unfold letV
  by_cases h : r > 90
  · have h' : (90 : Int) < (r : Int) := by omega
    rw [if_pos h]
    go_enter Tryd.func46, Tryd.ntmps46
    go_wp2
    go_ret
    exact ⟨rfl, rfl⟩
  · have h' : (r : Int) ≤ 90 := by omega
    have h0 : 0 ≤ (r : Int) := by omega
    rw [if_neg h]
    go_enter Tryd.func46, Tryd.ntmps46
    go_wp2
    go_ret
    exact ⟨rfl, rfl⟩
theorem dec_big (s : ByteArray) (i : Nat) (h : i < s.size) (hb : 128 ≤ (s[i]'h).toNat) : 128 ≤ (Utf8.decode s i).1 := by
  have e : s.get! (i + 0) = s[i]'h := by
    show s.get! i = _
    simp [ByteArray.get!, getElem!_pos, h]
    rfl
  simp only [Utf8.decode, e]
  rw [if_neg (by omega)]
  repeat' split
  all_goals simp_all [Utf8.runeError]
  all_goals omega
/-- the role of the byte at i -/
def at' (s : ByteArray) (i : Nat) : Nat := (s.data.toList.getD i 0).toNat
theorem at_eq (s : ByteArray) (i : Nat) (h : i < s.size) : at' s i = (s[i]'h).toNat := by
  unfold at'
  have h2 : i < s.data.size := h
  rw [List.getD_eq_getElem?_getD, Array.getElem?_toList, Array.getElem?_eq_getElem h2]
  rfl
theorem dec_role (s : ByteArray) (i : Nat) (h : i < s.size) : roleV (letV (Utf8.decode s i).1) = roleV (at' s i) ∧ (0 ≤ roleV (at' s i) → (Utf8.decode s i).2 = 1) := by
  rw [at_eq s i h]
  by_cases hb : (s[i]'h).toNat < 128
  · rw [decode_ascii s i h hb]
    refine ⟨?_, fun _ => rfl⟩
    unfold letV
    simp only
    by_cases h90 : (s[i]'h).toNat > 90
    · rw [if_pos h90]
      generalize (s[i]'h).toNat = z at *
      unfold roleV
      repeat (rw [if_neg (by omega)])
    · rw [if_neg h90]
  · have := dec_big s i h (by omega)
    generalize (s[i]'h).toNat = z at *
    have e : roleV z = -1 := by unfold roleV; repeat (rw [if_neg (by omega)])
    rw [e]
    refine ⟨?_, fun h => by omega⟩
    unfold letV
    rw [if_pos (by omega)]
    rfl
theorem letV_lt (r : Nat) : letV r < 256 := by unfold letV; split <;> omega
end Go.Proofs.YtdkfedbjbcaajaaDoor
