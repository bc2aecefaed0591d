import Derived.Test.YtfiglmbnjfgdlaaDoorDV
import Derived.Deep.CutRange
namespace Go.Proofs.YtfiglmbnjfgdlaaDoor
open Go.RowKit
/-- the array b of 256 numbers reads as g -/
def ArrR (W : World) (b : Nat) (g : Int → Int) : Prop := W.rowIs b 51 256 (fun k => .int .i64 (g (k : Int)))
theorem ArrR.c {W : World} {b : Nat} {g : Int → Int} (h : ArrR W b g) (k : Nat) (hk : k < 256) : W.cell? ⟨b, k, none⟩ = some (.int .i64 (g (k : Int))) := World.rowIs.cell h (i := k) hk
theorem ArrR.z {W : World} {b : Nat} {g : Int → Int} (h : ArrR W b g) (k : Nat) : W.frozen? ⟨b, k, none⟩ = false := World.rowIs.frozen h k
theorem ArrR.congr {W : World} {b : Nat} {g g' : Int → Int} (h : ArrR W b g) (e : ∀ k : Int, 0 ≤ k → k < 256 → g k = g' k) : ArrR W b g' := World.rowIs.congr h (fun i hi => by rw [e (i : Int) (by omega) (by omega)])
theorem ArrR.set {W : World} {b : Nat} {g : Int → Int} (h : ArrR W b g) (k : Nat) (x : Int) : ArrR (W.setCell ⟨b, k, none⟩ (.int .i64 x)) b (fun i => if i = (k : Int) then x else g i) :=
  World.rowIs.congr (World.rowIs.set h k (.int .i64 x)) (fun i hi => by
    by_cases e : i = k
    · subst e; simp
    · have e2 : ¬ ((i : Int) = (k : Int)) := by omega
      simp [e, e2])
theorem ArrR.ev {W W' : World} {b : Nat} {g : Int → Int} (h : ArrR W b g) (e : Ev W W') : ArrR W' b g := World.rowIs.of_block h (Below.block e b (World.rowIs.lt h))
theorem ArrR.al {W : World} {b : Nat} {g : Int → Int} (h : ArrR W b g) (o : Obj) : ArrR (W.alloc o) b g := World.rowIs.alloc h o
theorem ArrR.gb {W W' : World} {b c : Nat} {g : Int → Int} (h : ArrR W c g) (hg : W.grownBy W' (some b)) (hne : c ≠ b) : ArrR W' c g := World.rowIs.of_block h (hg.block c (World.rowIs.lt h) (by simp; omega))
theorem ArrR.set3 {W : World} {b c : Nat} {g : Int → Int} (h : ArrR W c g) (hne : c ≠ b) (x y z : Int) : ArrR (set3 W b x y z) c g :=
  ((h.gb (gb_set W b 0 _) hne).gb (gb_set _ b 1 _) hne).gb (gb_set _ b 2 _) hne
theorem zero51 : Tryd.zeroCells51 = Array.replicate 256 (.int .i64 0) := by kernel_rfl
theorem ArrR.new (W : World) : ArrR (W.alloc (.cells Tryd.zeroCells51 51)) W.heap.size (fun _ => 0) := by
  rw [zero51]
  have h := World.rowIs_alloc W (Array.replicate 256 (.int .i64 0)) 51 (fun k => .int .i64 ((fun _ => 0 : Int → Int) (k : Int))) (fun i hi => by simp at hi; simp [hi])
  rw [Array.size_replicate] at h
  exact h
end Go.Proofs.YtfiglmbnjfgdlaaDoor
