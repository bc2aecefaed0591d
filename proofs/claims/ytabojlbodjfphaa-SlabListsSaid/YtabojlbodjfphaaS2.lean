import Derived.Test.YtabojlbodjfphaaS1
namespace Go.Proofs.Ytabojlbodjfphaa
open Go.RowKit
theorem used_any (f : Int) (u p : Nat) (w : World) (_ : u < 256) (hp : p < 8) : Calls Try.prog 41 #[sl f u, .int .i64 (p : Int)] w fun e w' => e = .returned (.bool (decide (u / 2 ^ p % 2 = 1))) ∧ Ev w w' := by
  have hE := Lib.hid ((Ev.refl w).alloc (slO f u))
  go_enter Try.func41, Try.ntmps41
  go_wp2
  go_ret
  refine ⟨ret_b ?_, hE.out⟩
  have h1 : ((u : Int) / 2 ^ p) = ((u / 2 ^ p : Nat) : Int) := by push_cast; rfl
  rw [h1]
  generalize u / 2 ^ p = k
  rw [Int.tmod_eq_emod_of_nonneg (by omega)]
  rcases Nat.mod_two_eq_zero_or_one k with hk | hk
  · rw [hk, show ((k : Int) % 2) = 0 from by omega]; rfl
  · rw [hk, show ((k : Int) % 2) = 1 from by omega]; rfl
/-- the lowest place that is not used, 8 if there is none -/
def lo (u : Nat) : Nat := Lib.trailingZeros8 (255 - u)
theorem cplF : ∀ u : Fin 256, bits BinOp.xor IntKind.u8 IntKind.u8.max (u.1 : Int) = ((255 - u.1 : Nat) : Int) := by decide +kernel
theorem cpl {u : Nat} (h : u < 256) : bits BinOp.xor IntKind.u8 IntKind.u8.max (u : Int) = ((255 - u : Nat) : Int) := cplF ⟨u, h⟩
theorem loF : ∀ u : Fin 256, u.1 < 255 → lo u.1 < 8 ∧ u.1 / 2 ^ lo u.1 % 2 = 0 ∧ (∀ p : Fin 8, p.1 < lo u.1 → u.1 / 2 ^ p.1 % 2 = 1) ∧ u.1 + 2 ^ lo u.1 < 256 := by decide +kernel
theorem orF : ∀ u : Fin 256, ∀ p : Fin 8, u.1 / 2 ^ p.1 % 2 = 0 → bits BinOp.or IntKind.u8 (u.1 : Int) (2 ^ p.1 % 256) = ((u.1 + 2 ^ p.1 : Nat) : Int) := by decide +kernel
theorem lo8 {u : Nat} (h : u < 255) : lo u < 8 := (loF ⟨u, by omega⟩ h).1
/-- what is made of a slab with a free place -/
def nx (u : Nat) : Nat := u + 2 ^ lo u
theorem nx_lt {u : Nat} (h : u < 255) : nx u < 256 := (loF ⟨u, by omega⟩ h).2.2.2
theorem nx_or {u : Nat} (h : u < 255) : bits BinOp.or IntKind.u8 (u : Int) (2 ^ lo u % 256) = (nx u : Int) := orF ⟨u, by omega⟩ ⟨lo u, lo8 h⟩ (loF ⟨u, by omega⟩ h).2.1
end Go.Proofs.Ytabojlbodjfphaa
