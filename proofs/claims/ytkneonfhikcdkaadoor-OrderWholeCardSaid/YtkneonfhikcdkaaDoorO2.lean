import Derived.Test.YtkneonfhikcdkaaDoorO1
import Derived.Test.YtkneonfhikcdkaaDoorSH
namespace Go.Proofs.YtkneonfhikcdkaaDoor
open Go.RowKit

theorem xor_fin : ∀ (o : Fin 6) (a : Fin 257), (a.val : Int) % sz (o.val : Int) = 0 → bits .xor .i64 (a.val : Int) (sz (o.val : Int)) = bud (a.val : Int) (o.val : Int) := by decide +kernel
theorem xor_bud {x o : Int} (h : blkE x o = 0) (h5 : o ≠ 6) : bits .xor .i64 x (sz o) = bud x o := by
  obtain ⟨h1, h2, h3, h4, h6⟩ := blkE_ok h
  have z := sz_bd o
  have := xor_fin ⟨o.toNat, by omega⟩ ⟨x.toNat, by omega⟩
  simp only [] at this
  have e1 : ((o.toNat : Nat) : Int) = o := by omega
  have e2 : ((x.toNat : Nat) : Int) = x := by omega
  rw [e1, e2] at this
  exact this h4
/-- the block that is a buddy, or a parent, is valid -/
theorem bud_bd {x o : Int} (h : blkE x o = 0) (h5 : o ≠ 6) : 0 ≤ bud x o ∧ bud x o ≤ 256 ∧ 0 ≤ par x o ∧ par x o ≤ 256 ∧ min x (bud x o) = par x o := by
  obtain ⟨h1, h2, h3, h4, h6⟩ := blkE_ok h
  rcases (show o = 0 ∨ o = 1 ∨ o = 2 ∨ o = 3 ∨ o = 4 ∨ o = 5 by omega) with rfl | rfl | rfl | rfl | rfl | rfl <;> simp [sz] at h4 h6 <;> simp [bud, par, sz] <;> split <;> omega
theorem Ev.setC {w W : World} (h : Ev w W) {p : Addr} (hp : w.heap.size ≤ p.block) (v : Value) : Ev w (W.setCell p v) := Below.setCell h hp v
/-- two cells that may be written -/
def Bw2 (W : World) (b : Nat) (x y : Int) : Prop := (W.cell? ⟨b, 0, none⟩ = some (.int .i64 x) ∧ W.cell? ⟨b, 1, none⟩ = some (.int .i64 y)) ∧ W.frozen? ⟨b, 0, none⟩ = false ∧ W.frozen? ⟨b, 1, none⟩ = false
theorem Bw2.ev {a W : World} {b : Nat} {x y : Int} (h : Bw2 a b x y) (hb : b < a.heap.size) (e : Ev a W) : Bw2 W b x y := by
  obtain ⟨c, f⟩ := bc e
  obtain ⟨⟨h1, h2⟩, h4, h5⟩ := h
  exact ⟨⟨(c _ _ hb).trans h1, (c _ _ hb).trans h2⟩, (f _ _ hb).trans h4, (f _ _ hb).trans h5⟩
theorem Bw2.new (w : World) (x y : Int) (t : TypeId) : Bw2 (w.alloc (.cells #[.int .i64 x, .int .i64 y] t)) w.heap.size x y := by unfold Bw2; simp
/-- the two boxes that a call lays: the block, and what is returned -/
abbrev b2 (w : World) (x o : Int) : World := (w.alloc (.cells #[.int .i64 x, .int .i64 o] 28)).alloc (.cells #[.int .i64 0, .int .i64 0] 28)
theorem b2_in (w : World) (x o : Int) : Bw2 (b2 w x o) w.heap.size x o ∧ Bw2 (b2 w x o) (w.heap.size + 1) 0 0 ∧ Ev w (b2 w x o) ∧ (b2 w x o).heap.size = w.heap.size + 2 :=
  ⟨(Bw2.new w _ _ 28).ev (by simp) ((Ev.refl _).alloc _), by
    have := Bw2.new (w.alloc (.cells #[.int .i64 x, .int .i64 o] 28)) 0 0 28
    simpa using this, ((Ev.refl w).alloc _).alloc _, by simp⟩
theorem evN {P : Program} {f : FuncId} {args : Array Value} {w0 W : World} {v : Value} (h : Ev w0 W) (c : Calls P f args W fun e w' => e = .returned v ∧ Ev W w') :
    Calls P f args W fun e w' => e = .returned v ∧ Ev w0 w' := c.mono fun _ _ hh => ⟨hh.1, h.step hh.2⟩
set_option maxHeartbeats 400000 in
theorem buddy1_any (x o : Int) (w : World) (h : blkE x o = 0) (h5 : o ≠ 6) : Calls Tryd.prog 42 #[bk x o] w fun e w' => e = .returned (bk (bud x o) o) ∧ Ev w w' := by
  have hx := xor_bud h h5
  obtain ⟨h1, h2, h3, h4, h6⟩ := blkE_ok h
  have HZ : Hid (∀ W, Calls Tryd.prog 39 #[.int .i64 o] W fun e w' => e = .returned (.int .i64 (sz o)) ∧ W = w') := Lib.hid fun W => size_any o W (by omega) (by omega)
  clear h h4
  generalize hb : bud x o = b at *
  generalize sz o = z at *
  clear hb
  go_enter Tryd.func42, Tryd.ntmps42
  go_wp2_with fail
  go_region_held3 (fun w' => w'.cell? ⟨w.heap.size, 0, none⟩ = some (.int .i64 x) ∧ w'.cell? ⟨w.heap.size, 1, none⟩ = some (.int .i64 o))
    (first | (constructor <;> simp))
    (first | (go_at_call 39; refine (HZ.out _).mono ?_; rintro e w' ⟨rfl, rfl⟩))
  go_wp2
  refine bodyPost_ret (v := bk b o) (by simp [results, Tryd.results42, go_sem]) rfl ⟨rfl, ?_⟩
  repeat (first | (with_reducible exact Ev.refl _) | (with_reducible apply Ev.drew) | (with_reducible apply Ev.alloc))
end Go.Proofs.YtkneonfhikcdkaaDoor
