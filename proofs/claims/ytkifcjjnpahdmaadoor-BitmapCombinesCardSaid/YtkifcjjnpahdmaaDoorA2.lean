import Derived.Test.YtkifcjjnpahdmaaDoorA1
import Derived.Laws.BitsAllLaws
import Derived.Laws.Bits64b
namespace Go.Proofs.YtkifcjjnpahdmaaDoor
open Go.RowKit
open Go.Deep

theorem i64_and_127 (a : Nat) (ha : a < 9223372036854775808) : bits .and .i64 (a : Int) 127 = ((a % 128 : Nat) : Int) := by
  have e : a &&& 127 = a % 128 := Nat.and_two_pow_sub_one_eq_mod a 7
  have h1 : (BitVec.ofInt 64 (a : Int)).toNat = a := ofInt_nat a (by omega)
  show IntKind.i64.wrap ((BitVec.ofInt 64 (a : Int) &&& BitVec.ofInt 64 ((127 : Nat) : Int)).toNat : Int) = _
  rw [BitVec.toNat_and, h1, ofInt_nat 127 (by omega), e, IntKind.wrap_i64]
  omega
theorem and_le' (a m : Nat) : a &&& m ≤ m := Nat.and_le_right

set_option maxHeartbeats 400000 in
theorem ones_any (x : Nat) (w : World) (hx : x < 18446744073709551616) :
    Calls Tryd.prog 49 #[.int .u64 (x : Int)] w fun e w' => e = .returned (.int .i64 (pc 64 x : Nat)) ∧ w = w' := by
  have k1 : bits .and .u64 ((x : Int) / 2) 6148914691236517205 = ((x / 2 &&& 6148914691236517205 : Nat) : Int) := bits_and_u64_nat (x / 2) 6148914691236517205 (by omega) (by decide)
  have k2 : bits .and .u64 (x : Int) 6148914691236517205 = ((x &&& 6148914691236517205 : Nat) : Int) := bits_and_u64_nat x 6148914691236517205 hx (by decide)
  have b1 := and_le' (x / 2) 6148914691236517205
  have b2 := and_le' x 6148914691236517205
  obtain ⟨c0, c1, c2, c3, c4, c5, c6, c7, l0, l1, l2, l3, l4, l5, l6, l7, hy, hp⟩ := y3_eight x hx
  have hy' : y3 8 x = s3 1085102592571150095 (s2 3689348814741910323 (s1 6148914691236517205 x)) := by
    unfold y3 y2
    rw [show rep 85 8 = 6148914691236517205 from by decide, show rep 51 8 = 3689348814741910323 from by decide, show rep 15 8 = 1085102592571150095 from by decide]
  unfold s3 s2 s1 at hy'
  generalize x / 2 &&& 6148914691236517205 = p1 at *
  generalize x &&& 6148914691236517205 = p2 at *
  have k3 : (p1 : Int) + (p2 : Int) = ((p1 + p2 : Nat) : Int) := by omega
  generalize hq : p1 + p2 = q at *
  have bq : q ≤ 12297829382473034410 := by omega
  have k4 : bits .and .u64 ((q : Int) / 4) 3689348814741910323 = ((q / 4 &&& 3689348814741910323 : Nat) : Int) := bits_and_u64_nat (q / 4) 3689348814741910323 (by omega) (by decide)
  have k5 : bits .and .u64 (q : Int) 3689348814741910323 = ((q &&& 3689348814741910323 : Nat) : Int) := bits_and_u64_nat q 3689348814741910323 (by omega) (by decide)
  have b4 := and_le' (q / 4) 3689348814741910323
  have b5 := and_le' q 3689348814741910323
  generalize q / 4 &&& 3689348814741910323 = r1 at *
  generalize q &&& 3689348814741910323 = r2 at *
  have k6 : (r1 : Int) + (r2 : Int) = ((r1 + r2 : Nat) : Int) := by omega
  generalize hs : r1 + r2 = s at *
  have bs : s ≤ 7378697629483820646 := by omega
  have k7 : (s : Int) / 16 + (s : Int) = ((s / 16 + s : Nat) : Int) := by omega
  have bt : s / 16 + s ≤ 10000000000000000000 := by omega
  generalize s / 16 + s = t at *
  have k8 : bits .and .u64 (t : Int) 1085102592571150095 = ((t &&& 1085102592571150095 : Nat) : Int) := bits_and_u64_nat t 1085102592571150095 (by omega) (by decide)
  have bu := and_le' t 1085102592571150095
  rw [hy'] at hy
  obtain ⟨y4, y5, y6, e4, e5, e6, b4', b5', b6', e7⟩ := ones_end _ c0 c1 c2 c3 c4 c5 c6 c7 l0 l1 l2 l3 l4 l5 l6 l7 hy
  clear hy hy'
  generalize t &&& 1085102592571150095 = u at *
  have k9 : (u : Int) + (u : Int) / 256 = (y4 : Int) := by omega
  have k10 : (y4 : Int) + (y4 : Int) / 65536 = (y5 : Int) := by omega
  have k11 : (y5 : Int) + (y5 : Int) / 4294967296 = (y6 : Int) := by omega
  have k12 : bits .and .i64 (y6 : Int) 127 = (pc 64 x : Int) := by rw [i64_and_127 y6 b6', e7, hp]
  clear e4 e5 e6 e7 hp hq hs l0 l1 l2 l3 l4 l5 l6 l7
  go_enter Tryd.func49, Tryd.ntmps49
  go_wp2
  go_ret
  exact ⟨rfl, rfl⟩
end Go.Proofs.YtkifcjjnpahdmaaDoor
