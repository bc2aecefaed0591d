import Derived.Test.YteilclbpehmbpaaB2
import Derived.Maps.OwnOps
import Derived.Maps.Views
import Derived.OwnWalk
import Derived.Laws.AppendOwn
namespace Go.Proofs.Yteilclbpehmbpaa
open Go.RowKit Go.Maps
theorem Ev.cell {w W : World} (e : Ev w W) {p : Addr} (h : p.block < w.heap.size) : W.cell? p = w.cell? p := Below.cell e h
theorem Ev.grownBy {A B : World} (h : Ev A B) : A.grownBy B none := ⟨Below.os h, Below.tape h, Below.output h, Below.size h, fun k hk _ => Below.block h k hk⟩
theorem Ev.grown {w W W' : World} {row : Option Nat} (h : Ev w W) (hg : W.grownBy W' row) (hr : ∀ k, row = some k → w.heap.size ≤ k) : Ev w W' := Below.grown h hg h.sz hr
theorem Ev.setC {w W : World} (h : Ev w W) {p : Addr} (hp : w.heap.size ≤ p.block) (v : Value) : Ev w (W.setCell p v) := Below.setCell h hp v
theorem evS {P : Program} {f : FuncId} {args : Array Value} {w0 W : World} {v : Value} (h : Ev w0 W) (c : Calls P f args W fun e w' => e = .returned v ∧ Ev W w') :
    Calls P f args W fun e w' => e = .returned v ∧ Ev w0 w' := c.mono fun _ _ hh => ⟨hh.1, h.step hh.2⟩
/-- The slice at A reads as the numbers l. -/
def RdI (w : World) (A : Option Addr) (l : List Int) : Prop :=
  l.length ≤ 9223372036854775807 ∧ ∀ j, j < l.length → ∃ b o, A = some ⟨b, o, none⟩ ∧ b < w.heap.size ∧ w.cell? ⟨b, o + j, none⟩ = some (.int .i64 (l.getD j 0))
theorem RdI.ev {w w' : World} {A : Option Addr} {l : List Int} (h : RdI w A l) (e : Ev w w') : RdI w' A l := ⟨h.1, fun j hj => by
  obtain ⟨b, o, h1, h2, h3⟩ := h.2 j hj
  have := e.sz
  exact ⟨b, o, h1, by omega, by rw [e.cell (p := ⟨b, o + j, none⟩) h2]; exact h3⟩⟩
/-- The slice at A reads as the truth values l. -/
def RdB (w : World) (A : Option Addr) (l : List Bool) : Prop :=
  l.length ≤ 9223372036854775807 ∧ ∀ j, j < l.length → ∃ b o, A = some ⟨b, o, none⟩ ∧ b < w.heap.size ∧ w.cell? ⟨b, o + j, none⟩ = some (.bool (l.getD j false))
theorem RdB.ev {w w' : World} {A : Option Addr} {l : List Bool} (h : RdB w A l) (e : Ev w w') : RdB w' A l := ⟨h.1, fun j hj => by
  obtain ⟨b, o, h1, h2, h3⟩ := h.2 j hj
  have := e.sz
  exact ⟨b, o, h1, by omega, by rw [e.cell (p := ⟨b, o + j, none⟩) h2]; exact h3⟩⟩
abbrev ls (A : Option Addr) (n c : Nat) (B : Option Addr) (m d : Nat) (C : Option Addr) (k e : Nat) : Value := .agg #[.slice A n c, .slice B m d, .slice C k e]
abbrev lsO (A : Option Addr) (n c : Nat) (B : Option Addr) (m d : Nat) (C : Option Addr) (k e : Nat) : Obj := .cells #[.slice A n c, .slice B m d, .slice C k e] 32
/-- a box with lists -/
def BL (W : World) (x : Nat) (A : Option Addr) (n c : Nat) (B : Option Addr) (m d : Nat) (C : Option Addr) (k e : Nat) : Prop := x < W.heap.size ∧ W.cell? ⟨x, 0, none⟩ = some (.slice A n c) ∧ W.cell? ⟨x, 1, none⟩ = some (.slice B m d) ∧ W.cell? ⟨x, 2, none⟩ = some (.slice C k e)
theorem BL.new (w : World) (A : Option Addr) (n c : Nat) (B : Option Addr) (m d : Nat) (C : Option Addr) (k e : Nat) : BL (w.alloc (lsO A n c B m d C k e)) w.heap.size A n c B m d C k e := ⟨by simp, by simp, by simp, by simp⟩
theorem BL.ev {w W : World} {x : Nat} {A : Option Addr} {n c : Nat} {B : Option Addr} {m d : Nat} {C : Option Addr} {k e : Nat} (h : BL w x A n c B m d C k e) (ev : Ev w W) : BL W x A n c B m d C k e := by
  obtain ⟨h0, h1, h2, h3⟩ := h
  obtain ⟨cc, -⟩ := bc ev
  exact ⟨Nat.lt_of_lt_of_le h0 ev.sz, by rw [cc _ _ h0, h1], by rw [cc _ _ h0, h2], by rw [cc _ _ h0, h3]⟩
theorem isFrame_yes (A : Option Addr) (n c : Nat) (B : Option Addr) (m d : Nat) (C : Option Addr) (k e : Nat) (f : Int) (w : World) (h0 : 0 ≤ f) (h1 : f < (k : Int)) : Calls Try.prog 48 #[ls A n c B m d C k e, .int .i64 f] w fun x w' => x = .returned (.bool true) ∧ Ev w w' := by
  have hE := Lib.hid ((Ev.refl w).alloc (lsO A n c B m d C k e))
  go_enter Try.func48, Try.ntmps48
  go_wp2
  go_ret
  exact ⟨rfl, hE.out⟩
theorem jx0 (a b : Value) (w : World) : (Instr.index 67 (.agg #[a, b]) (.int .i64 0)).run Try.prog w = .ok a w := by kernel_rfl
theorem jx1 (a b : Value) (w : World) : (Instr.index 67 (.agg #[a, b]) (.int .i64 1)).run Try.prog w = .ok b w := by kernel_rfl
theorem law3 : Keyed Try.prog 3 := int_keyed Try.underlying3
theorem zero3 (w : World) : (zeroValue 3).run Try.prog w = .ok (.int .i64 0) w := by kernel_rfl
/-- the map counts the numbers of S once each -/
def Cnt (D : DataW Unit) (S : List Int) : Prop := IsMap D ∧ ∀ x : Int, D.atKey (.int .i64 x) (.lit (.int .i64 0)) = .lit (.int .i64 (if x ∈ S then 1 else 0))
theorem Cnt.nil : Cnt (.map []) [] := ⟨⟨_, rfl⟩, fun x => by simp; rfl⟩
theorem Cnt.put {D : DataW Unit} {S : List Int} {y : Int} (h : Cnt D S) : Cnt (D.put (.int .i64 y) (.lit (.int .i64 1))) (S ++ [y]) := by
  refine ⟨h.1.put _ _, fun x => ?_⟩
  by_cases e : x = y
  · subst e
    rw [atKey_put_same h.1 (by trivial)]
    simp
  · rw [atKey_put_other (by intro h; cases h; exact e rfl), h.2 x]
    simp [e]
end Go.Proofs.Yteilclbpehmbpaa
