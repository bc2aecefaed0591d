import Derived.Test.YtfclbnaabdlmhaaRows
import Derived.WalkKit
import Derived.WalkSpells
import Derived.WalkLawsBesides
import Derived.Deep.QuietTactic
import Derived.BigQuiet
import Derived.Deep.RegionHeld3
import Derived.Lib.Hide
import Derived.Outline
import Derived.LoopN
import Derived.Laws.EntriesVeiled
namespace Go.Proofs.Ytfclbnaabdlmhaa
open Go.RowKit

theorem ret_i64 {a b : Int} (h : a = b) : Ending.returned (.int .i64 a) = .returned (.int .i64 b) := by rw [h]
theorem ret_b {a b : Bool} (h : a = b) : Ending.returned (.bool a) = .returned (.bool b) := by rw [h]
theorem ret_3 {a b c a' b' c' : Int} (h1 : a = a') (h2 : b = b') (h3 : c = c') : Ending.returned (.tuple #[.int .i64 a, .int .i64 b, .int .i64 c]) = .returned (.tuple #[.int .i64 a', .int .i64 b', .int .i64 c']) := by rw [h1, h2, h3]
theorem ret_2 {a b a' b' : Int} (h1 : a = a') (h2 : b = b') : Ending.returned (.tuple #[.int .i64 a, .int .i64 b]) = .returned (.tuple #[.int .i64 a', .int .i64 b']) := by rw [h1, h2]
theorem ret_b2 {a a' : Bool} {b b' : Int} (h1 : a = a') (h2 : b = b') : Ending.returned (.tuple #[.bool a, .int .i64 b]) = .returned (.tuple #[.bool a', .int .i64 b']) := by rw [h1, h2]
/-- A contract that leaves the world alone, inside a region that has drawn. -/
theorem q1 {P : Program} {f : FuncId} {args : Array Value} {w : World} {n : Nat} {v : Value} (c : ∀ W : World, Calls P f args W fun e w' => e = .returned v ∧ W = w') :
    Calls P f args (w.drewN n) fun e w'' => e = .returned v ∧ ∃ m, w'' = w.drewN m := (c _).mono fun _ _ h => ⟨h.1, n, h.2.symm⟩
theorem q2 {P : Program} {f : FuncId} {args : Array Value} {w : World} {a n : Nat} {v : Value} (c : ∀ W : World, Calls P f args W fun e w' => e = .returned v ∧ W = w') :
    Calls P f args (w.drewN (a + n)) fun e w'' => e = .returned v ∧ ∃ m, w'' = w.drewN (a + m) := (c _).mono fun _ _ h => ⟨h.1, n, h.2.symm⟩
theorem below_drewN {B : Nat} {w w' : World} (h : Below B w w') (n : Nat) : Below B w (w'.drewN n) := by
  induction n with
  | zero => exact h
  | succ n ih => exact Below.drew ih
theorem nxt0 {w w1 : World} {o : Obj} (hb : Below (w.alloc o).heap.size (w.alloc o) w1) : Below w.heap.size w w1 :=
  ((Below.refl _ _).alloc (Nat.le_refl _) _).trans (hb.mono (by simp))
theorem al1 (w : World) (o : Obj) : Below w.heap.size w (w.alloc o) := (Below.refl _ _).alloc (Nat.le_refl _) o
/-- What was there reads as it did. -/
theorem bc {B : Nat} {W w1 : World} (hb : Below B W w1) : (∀ b o, b < B → w1.cell? ⟨b, o, none⟩ = W.cell? ⟨b, o, none⟩) ∧ (∀ b o, b < B → w1.frozen? ⟨b, o, none⟩ = W.frozen? ⟨b, o, none⟩) :=
  ⟨fun b o h => hb.cell (p := ⟨b, o, none⟩) h, fun b o h => hb.frozen (p := ⟨b, o, none⟩) h⟩
/-- W is w0 with new blocks alone -/
def Ev (w0 W : World) : Prop := Below w0.heap.size w0 W
theorem Ev.refl (w0 : World) : Ev w0 w0 := Below.refl _ _
theorem Ev.drew {w0 W : World} (h : Ev w0 W) : Ev w0 W.drew := Below.drew h
theorem Ev.drewN {w0 W : World} (h : Ev w0 W) (n : Nat) : Ev w0 (W.drewN n) := below_drewN h n
theorem Ev.step {w0 W W' : World} (h : Ev w0 W) (hb : Below W.heap.size W W') : Ev w0 W' := Below.trans h (hb.mono (Below.size h))
theorem Ev.alloc {w0 W : World} (h : Ev w0 W) (o : Obj) : Ev w0 (W.alloc o) := h.step (al1 _ _)
theorem Ev.sz {w0 W : World} (h : Ev w0 W) : w0.heap.size ≤ W.heap.size := Below.size h
theorem ev_call {P : Program} {f : FuncId} {args : Array Value} {w0 W : World} {v : Value} (h : Ev w0 W) (c : Calls P f args W fun e w' => e = .returned v ∧ Below W.heap.size W w') :
    Calls P f args W fun e w' => e = .returned v ∧ Ev w0 w' := c.mono fun _ _ hh => ⟨hh.1, h.step hh.2⟩
/-- a contract that leaves the world alone, said by Ev -/
theorem ev_same {P : Program} {f : FuncId} {args : Array Value} {w0 W : World} {v : Value} (h : Ev w0 W) (c : Calls P f args W fun e w' => e = .returned v ∧ W = w') :
    Calls P f args W fun e w' => e = .returned v ∧ Ev w0 w' := c.mono fun _ _ hh => ⟨hh.1, by rw [← hh.2]; exact h⟩
/-- two cells -/
def Box2 (a : World) (b : Nat) (x y : Int) : Prop := a.cell? ⟨b, 0, none⟩ = some (.int .i64 x) ∧ a.cell? ⟨b, 1, none⟩ = some (.int .i64 y)
theorem Box2.ev {a W : World} {b : Nat} {x y : Int} (h : Box2 a b x y) (hb : b < a.heap.size) (e : Ev a W) : Box2 W b x y := by
  obtain ⟨c, _⟩ := bc e
  exact ⟨(c _ _ hb).trans h.1, (c _ _ hb).trans h.2⟩
/-- three cells -/
def Box3 (a : World) (b : Nat) (x y z : Int) : Prop := a.cell? ⟨b, 0, none⟩ = some (.int .i64 x) ∧ a.cell? ⟨b, 1, none⟩ = some (.int .i64 y) ∧ a.cell? ⟨b, 2, none⟩ = some (.int .i64 z)
theorem Box3.ev {a W : World} {b : Nat} {x y z : Int} (h : Box3 a b x y z) (hb : b < a.heap.size) (e : Ev a W) : Box3 W b x y z := by
  obtain ⟨c, _⟩ := bc e
  exact ⟨(c _ _ hb).trans h.1, (c _ _ hb).trans h.2.1, (c _ _ hb).trans h.2.2⟩
end Go.Proofs.Ytfclbnaabdlmhaa
