import Derived.Test.YtkneonfhikcdkaaDoorO6
import Derived.Lib.TrailingZeros
namespace Go.Proofs.YtkneonfhikcdkaaDoor
open Go.RowKit

/-- The table of math/bits lies in its variable. -/
def Tab (w : World) : Prop := ∀ j, j < 64 → w.cell? ⟨1, j, none⟩ = some (.int .u8 (Lib.deBruijn64tab.getD j 0 : Nat))
theorem Tab.ev {w w' : World} (h : Tab w) (h0 : 2 ≤ w.heap.size) (e : Ev w w') : Tab w' := fun j hj => by
  rw [e.cell (p := ⟨1, j, none⟩) (show (1 : Nat) < w.heap.size by omega)]; exact h j hj
set_option maxHeartbeats 400000 in
theorem tz_zero (w : World) :
    Calls Tryd.prog 50 #[.int .u64 0] w fun e w' => e = .returned (.int .i64 64) ∧ w = w' := by
  go_enter Tryd.func50, Tryd.ntmps50
  go_wp2
  go_ret
  exact ⟨rfl, rfl⟩
set_option maxHeartbeats 400000 in
theorem tz_step (x k idx : Nat) (w : World) (hx0 : ((x : Int) == 0) = false)
    (key : IntKind.u64.wrap (bits BinOp.and IntKind.u64 (x : Int) (IntKind.u64.wrap (-(x : Int))) * 285870213051353865) / 288230376151711744 = (idx : Int))
    (hi : idx < 64) (hc : w.cell? ⟨1, idx, none⟩ = some (.int .u8 (k : Int))) (hk : k < 64) :
    Calls Tryd.prog 50 #[.int .u64 (x : Int)] w fun e w' => e = .returned (.int .i64 (k : Int)) ∧ w = w' := by
  go_enter Tryd.func50, Tryd.ntmps50
  go_wp2
  go_ret
  exact ⟨rfl, rfl⟩
theorem tz_any (x : Nat) (w : World) (hx : x < 18446744073709551616) (hT : Tab w) :
    Calls Tryd.prog 50 #[.int .u64 (x : Int)] w fun e w' => e = .returned (.int .i64 (Lib.ctz 64 x : Nat)) ∧ w = w' := by
  by_cases hx0 : x = 0
  · subst hx0
    exact tz_zero w
  · obtain ⟨hlow, hk⟩ := Lib.lowest_bit 64 x hx0 hx
    obtain ⟨hi, htab⟩ := Lib.deBruijn64_at _ hk
    have hc := hT _ hi
    rw [htab] at hc
    have e1 : IntKind.u64.wrap (-(x : Int)) = ((18446744073709551616 - x : Nat) : Int) := by rw [IntKind.wrap_u64]; omega
    refine tz_step x _ _ w (by simp; omega) ?_ hi hc hk
    rw [e1, bits_and_u64_nat x _ hx (by omega), hlow, IntKind.wrap_u64]
    generalize 2 ^ Lib.ctz 64 x = p
    omega
def ctzI (x : Int) : Int := (Lib.ctz 64 x.toNat : Nat)
theorem ctzI_bd (x : Int) (h0 : 0 ≤ x) (hx : x < 18446744073709551616) : 0 ≤ ctzI x ∧ ctzI x ≤ 64 := by
  unfold ctzI
  by_cases h : x.toNat = 0
  · rw [h]; decide
  · have := (Lib.lowest_bit 64 x.toNat h (by omega)).2
    omega
set_option maxHeartbeats 400000 in
theorem tzs_any (x : Int) (w : World) (h0 : 0 ≤ x) (hx : x < 18446744073709551616) (hT : Tab w) :
    Calls Tryd.prog 45 #[.int .u64 x] w fun e w' => e = .returned (.int .i64 (ctzI x)) ∧ w = w' := by
  have H := Lib.hid (tz_any x.toNat w (by omega) hT)
  rw [show ((x.toNat : Nat) : Int) = x by omega] at H
  obtain ⟨b0, b1⟩ := ctzI_bd x h0 hx
  unfold ctzI at *
  generalize ((Lib.ctz 64 x.toNat : Nat) : Int) = k at *
  clear hT
  go_enter Tryd.func45, Tryd.ntmps45
  go_wp2_with fail
  refine H.out.mono ?_
  rintro e w' ⟨rfl, rfl⟩
  go_wp2_with fail
  go_ret
  exact ⟨rfl, rfl⟩
/-! the greedy cut -/
/-- the order of the block that is cut next -/
def ordV (a t : Int) : Int := min (min (ctzI a) (blI (t - a) - 1)) 6
theorem ctz_all : ∀ a : Fin 257, ∀ o : Fin 7, ((o.val : Int) ≤ ctzI (a.val : Int) ↔ (a.val : Int) % sz (o.val : Int) = 0) := by decide +kernel
theorem bl_all : ∀ d : Fin 257, ∀ o : Fin 7, 1 ≤ d.val → ((o.val : Int) ≤ blI (d.val : Int) - 1 ↔ sz (o.val : Int) ≤ (d.val : Int)) := by decide +kernel
theorem ctz_sz (a o : Int) (h0 : 0 ≤ a) (h1 : a ≤ 256) (o0 : 0 ≤ o) (o1 : o ≤ 6) : o ≤ ctzI a ↔ a % sz o = 0 := by
  have := ctz_all ⟨a.toNat, by omega⟩ ⟨o.toNat, by omega⟩
  simp only at this
  rwa [show ((a.toNat : Nat) : Int) = a by omega, show ((o.toNat : Nat) : Int) = o by omega] at this
theorem bl_sz (d o : Int) (h0 : 1 ≤ d) (h1 : d ≤ 256) (o0 : 0 ≤ o) (o1 : o ≤ 6) : o ≤ blI d - 1 ↔ sz o ≤ d := by
  have := bl_all ⟨d.toNat, by omega⟩ ⟨o.toNat, by omega⟩ (by simp only; omega)
  simp only at this
  rwa [show ((d.toNat : Nat) : Int) = d by omega, show ((o.toNat : Nat) : Int) = o by omega] at this
theorem ordV_bd (a t : Int) (h0 : 0 ≤ a) (h : a < t) (ht : t ≤ 256) : 0 ≤ ordV a t ∧ ordV a t ≤ 6 ∧ a + sz (ordV a t) ≤ t := by
  have c := ctzI_bd a h0 (by omega)
  have b := blI_bd (t - a) (by omega) (by omega)
  have h1 : 0 ≤ ordV a t ∧ ordV a t ≤ 6 := by unfold ordV; omega
  have := (bl_sz (t - a) (ordV a t) (by omega) (by omega) h1.1 h1.2).1 (by unfold ordV; omega)
  omega
/-- the cells of the blocks that are cut from a on -/
def cutC : Nat → Int → Int → List Value
  | 0, _, _ => []
  | f + 1, a, t => if a < t then .int .i64 a :: .int .i64 (ordV a t) :: cutC f (a + sz (ordV a t)) t else []
def cutN : Nat → Int → Int → Nat
  | 0, _, _ => 0
  | f + 1, a, t => if a < t then 1 + cutN f (a + sz (ordV a t)) t else 0
theorem cutC_end (f : Nat) (a t : Int) (h : ¬ a < t) : cutC f a t = [] := by
  cases f with
  | zero => rfl
  | succ f => unfold cutC; rw [if_neg h]
theorem cutN_end (f : Nat) (a t : Int) (h : ¬ a < t) : cutN f a t = 0 := by
  cases f with
  | zero => rfl
  | succ f => unfold cutN; rw [if_neg h]
theorem info28 : (Tryd.prog.info? 28).map (fun i => (i.zero, i.size, i.bytes)) = some (some (bk 0 0), 2, 16) := by kernel_rfl
end Go.Proofs.YtkneonfhikcdkaaDoor
