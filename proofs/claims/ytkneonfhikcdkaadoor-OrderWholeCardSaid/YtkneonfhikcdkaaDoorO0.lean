import Derived.Lib.BitFns
import Derived.Lib.ItoaNum
namespace Go.Proofs.YtkneonfhikcdkaaDoor
open Go

/-- the size of an order -/
def sz (o : Int) : Int := if o = 0 then 1 else if o = 1 then 2 else if o = 2 then 4 else if o = 3 then 8 else if o = 4 then 16 else if o = 5 then 32 else 64
/-- the error of a block -/
def blkE (at' o : Int) : Int := if o < 0 ∨ 6 < o ∨ at' < 0 then 2 else if at' % sz o ≠ 0 then 13 else if 256 - sz o < at' then 2 else 0
def childE (at' o : Int) : Int := if blkE at' o ≠ 0 then blkE at' o else if o = 6 then 2 else 0
def bud (at' o : Int) : Int := if at' % (2 * sz o) = 0 then at' + sz o else at' - sz o
def par (at' o : Int) : Int := at' - at' % (2 * sz o)
theorem sz_bd (o : Int) : 1 ≤ sz o ∧ sz o ≤ 64 := by unfold sz; (repeat' split) <;> omega
theorem blkE_ok {at' o : Int} (h : blkE at' o = 0) : 0 ≤ o ∧ o ≤ 6 ∧ 0 ≤ at' ∧ at' % sz o = 0 ∧ at' + sz o ≤ 256 := by
  unfold blkE at h
  repeat' split at h
  all_goals first | (exfalso; omega) | skip
  rename_i h1 h2 h3
  exact ⟨by omega, by omega, by omega, by simpa using h2, by omega⟩
theorem childE_ok {at' o : Int} (h : childE at' o = 0) : blkE at' o = 0 ∧ o ≠ 6 := by
  unfold childE at h
  repeat' split at h
  all_goals first | (exfalso; omega) | skip
  rename_i h1 h2
  exact ⟨by simpa using h1, h2⟩
/-- the logarithm -/
def lg (n : Int) : Int := (Lib.bitLen n.toNat : Int) - 1
theorem bl_half (n : Int) (h : 1 < n) (h2 : n < 9223372036854775808) : (Lib.bitLen n.toNat : Int) = 1 + (Lib.bitLen (n / 2).toNat : Int) := by
  have := Lib.bitLen_half n.toNat (by omega) (by omega)
  have e : n.toNat / 2 = (n / 2).toNat := by omega
  rw [this, e]
  omega
theorem bl_one : Lib.bitLen 1 = 1 := by decide
theorem bl_bd (n : Int) (h : 1 ≤ n) (h2 : n < 9223372036854775808) : 1 ≤ Lib.bitLen n.toNat ∧ 2 ^ (Lib.bitLen n.toNat - 1) ≤ n.toNat ∧ n.toNat < 2 ^ Lib.bitLen n.toNat :=
  Lib.bitLenAux_bounds 64 n.toNat (by omega) (by omega)
end Go.Proofs.YtkneonfhikcdkaaDoor
