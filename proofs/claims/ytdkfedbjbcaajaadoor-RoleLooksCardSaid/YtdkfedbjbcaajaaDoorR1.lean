import Derived.Test.YtdkfedbjbcaajaaDoorG1
import Derived.IntWalk
import Derived.OwnWalk
import Derived.Laws.AppendOwn
import Derived.Laws.OwnMore
import Derived.Laws.Rows
import Derived.Deep.OwnRows
import Derived.ArgAppend
import Derived.Lib.EndianBits
namespace Go.Proofs.YtdkfedbjbcaajaaDoor
open Go.RowKit
theorem Ev.setC {w W : World} (h : Ev w W) {p : Addr} (hp : w.heap.size ≤ p.block) (v : Value) : Ev w (W.setCell p v) := Below.setCell h hp v
theorem own_below {w w' : World} {base : Nat} {e : TypeId} {size : Nat} {v : Value} {n : Nat} {xs : List Value} (h : w.ownsRow base e size v n xs) (hb : Below w.heap.size w w') : w'.ownsRow base e size v n xs :=
  h.kept (row := none) ⟨hb.os, hb.tape, hb.output, hb.size, fun i hi _ => hb.block i hi⟩ (by cases hv : v.ownBlock <;> simp)
theorem Ev.own {w w' : World} {base : Nat} {e : TypeId} {size : Nat} {v : Value} {n : Nat} {xs : List Value} (h : Ev w w') (ho : w.ownsRow base e size v n xs) : w'.ownsRow base e size v n xs := own_below ho h
theorem Ev.grown {w W W' : World} {row : Option Nat} (h : Ev w W) (hg : W.grownBy W' row) (hr : ∀ k, row = some k → w.heap.size ≤ k) : Ev w W' := Below.grown h hg h.sz hr
theorem Ev.cell {w W : World} (e : Ev w W) {p : Addr} (h : p.block < w.heap.size) : W.cell? p = w.cell? p := Below.cell e h
theorem one_cell (w : World) (x : Value) (T : TypeId) : ∀ j u, [x][j]? = some u → (w.alloc (.cells #[x] T)).cell? ((⟨w.heap.size, 0, none⟩ : Addr).add j) = some u := by
  intro j u h
  rcases j with _ | j
  · simp at h
    subst h
    simp [Addr.add]
  · simp at h
theorem own_weaken {w : World} {base base' : Nat} {e : TypeId} {size : Nat} {v : Value} {n : Nat} {xs : List Value} (h : w.ownsRow base e size v n xs) (hb : base' ≤ base) : w.ownsRow base' e size v n xs := by
  refine ⟨h.1, ?_⟩
  rcases h.2 with h0 | ⟨g, cap, cur, h1, h2, h3⟩
  · exact .inl h0
  · exact .inr ⟨g, cap, cur, h1, by omega, h3⟩
theorem info3 : (Tryd.prog.info? 3).map (fun i => (i.zero, i.size, i.bytes)) = some (some (.int .i64 0), 1, 8) := by kernel_rfl
def IV (l : List Int) : List Value := l.map (Value.int .i64)
def OwnI (w : World) (base : Nat) (v : Value) (L : List Int) : Prop := w.ownsRow base 3 1 v L.length (IV L)
/-- The slice at A reads as the numbers l. -/
def RdI (w : World) (A : Option Addr) (l : List Int) : Prop :=
  l.length ≤ 9223372036854775807 ∧ ∀ j, j < l.length → ∃ b o, A = some ⟨b, o, none⟩ ∧ b < w.heap.size ∧ w.cell? ⟨b, o + j, none⟩ = some (.int .i64 (l.getD j 0))
theorem RdI.ev {w w' : World} {A : Option Addr} {l : List Int} (h : RdI w A l) (e : Ev w w') : RdI w' A l := ⟨h.1, fun j hj => by
  obtain ⟨b, o, h1, h2, h3⟩ := h.2 j hj
  have := e.sz
  exact ⟨b, o, h1, by omega, by rw [e.cell (p := ⟨b, o + j, none⟩) h2]; exact h3⟩⟩
theorem RdI.of_own {w : World} {base : Nat} {v : Value} {L : List Int} (h : OwnI w base v L) (hl : L.length ≤ 9223372036854775807) : ∃ A cap, v = .slice A L.length cap ∧ RdI w A L := by
  rcases h.2 with ⟨rfl, h0⟩ | ⟨g, cap, cur, rfl, hbg, hh, hn, hc, hs, ht⟩
  · have e : L = [] := List.eq_nil_of_length_eq_zero h0
    subst e
    exact ⟨none, 0, rfl, by simp, fun j hj => by simp at hj⟩
  · refine ⟨some ⟨g, 0, none⟩, cap, rfl, hl, fun j hj => ⟨g, 0, rfl, (h.lt g rfl).2, ?_⟩⟩
    rw [Nat.zero_add, World.ownsRow.cellAt h j (by omega)]
    unfold IV
    simp [hj]
set_option maxHeartbeats 400000 in
theorem sameI (A B : Option Addr) (c d : Nat) (l : List Int) (w : World) (hx : RdI w A l) (hy : RdI w B l) :
    Calls Tryd.prog 16 #[.slice A l.length c, .slice B l.length d] w fun e w' => e = .returned (.bool true) ∧ Ev w w' := by
  have hn := hx.1
  have hq : ((l.length : Int) != (l.length : Int)) = false := by simp
  go_enter Tryd.func16, Tryd.ntmps16
  go_wp2
  go_loopw [5] (fun i wr => ∃ k m : Nat, k ≤ l.length ∧ i = .int .i64 k ∧ wr = w.drewN m) (fun i _ => l.length - (intOf i).toNat)
  case atStart => exact ⟨0, 0, Nat.zero_le _, rfl, rfl⟩
  case round =>
    obtain ⟨k, m, hk, rfl, rfl⟩ := hrel
    by_cases hlt : k < l.length
    · obtain ⟨b, o, rfl, hb, c1⟩ := hx.2 k hlt
      obtain ⟨b', o', rfl, hb', c1'⟩ := hy.2 k hlt
      generalize l.getD k 0 = x at *
      have hlt' : (k : Int) < (l.length : Int) := by omega
      have hk0 : 0 ≤ (k : Int) := by omega
      clear hx hy
      go_wp2
      go_quiet (fail)
      go_wp2
      go_roundw
      case rel => exact ⟨k + 1, m + nq, by omega, by go_num, rfl⟩
      case measure => simp [intOf]; omega
    · obtain rfl : k = l.length := by omega
      go_wp2
      go_ret
      exact ⟨rfl, below_drewN (Below.refl _ _) _⟩
theorem row_ge {w : World} {base : Nat} {e : TypeId} {size : Nat} {v : Value} {n : Nat} {xs : List Value} (h : w.ownsRow base e size v n xs) : ∀ g, v.ownBlock = some g → base ≤ g := by
  intro g eg
  rcases h.2 with ⟨rfl, _⟩ | ⟨g', cap, cur, rfl, hb, _, _⟩
  · simp [Value.ownBlock] at eg
  · obtain rfl : g' = g := by simpa [Value.ownBlock] using eg
    exact hb

/-- the table of the roles to which a role may change -/
def tb (k : Nat) : Nat := [78, 0, 1, 1, 33, 17, 153, 1].getD k 0
def Tab (w : World) : Prop := 1 ≤ w.heap.size ∧ ∀ j, j < 8 → w.cell? ⟨0, j, none⟩ = some (.int .u8 (tb j : Int))
theorem Tab.ev {w w' : World} (h : Tab w) (e : Ev w w') : Tab w' := ⟨Nat.le_trans h.1 e.sz, fun j hj => by rw [e.cell (p := ⟨0, j, none⟩) h.1]; exact h.2 j hj⟩
/-- may a role change to another -/
def mb (f t : Nat) : Bool := decide (tb f / 2 ^ t % 2 = 1)
def isR (r : Int) : Bool := decide (0 ≤ r ∧ r < 8)
theorem isRole_any (r : Int) (w : World) : Calls Tryd.prog 37 #[.int .i64 r] w fun e w' => e = .returned (.bool (isR r)) ∧ w = w' := by
  unfold isR
  by_cases h : 0 ≤ r
  · go_enter Tryd.func37, Tryd.ntmps37
    go_wp2
    all_goals (go_ret; exact ⟨ret_b (by simp [h]), rfl⟩)
  · go_enter Tryd.func37, Tryd.ntmps37
    go_wp2
    all_goals (go_ret; exact ⟨ret_b (by simp; omega), rfl⟩)
theorem is_any (r : Int) (w : World) : Calls Tryd.prog 39 #[.int .i64 r] w fun e w' => e = .returned (.bool (isR r)) ∧ w = w' := by
  unfold isR
  by_cases h : 0 ≤ r
  · go_enter Tryd.func39, Tryd.ntmps39
    go_wp2
    all_goals (go_ret; exact ⟨ret_b (by simp [h]), rfl⟩)
  · go_enter Tryd.func39, Tryd.ntmps39
    go_wp2
    all_goals (go_ret; exact ⟨ret_b (by simp; omega), rfl⟩)
theorem and1F : ∀ k : Fin 256, bits BinOp.and IntKind.u8 (k.1 : Int) 1 = ((k.1 % 2 : Nat) : Int) := by decide +kernel
theorem tbF : ∀ f t : Fin 8, tb f.1 / 2 ^ t.1 < 256 := by decide +kernel
theorem may_any (f t : Nat) (w : World) (hT : Tab w) (hf : f < 8) (ht : t < 8) : Calls Tryd.prog 38 #[.int .i64 (f : Int), .int .i64 (t : Int)] w fun e w' => e = .returned (.bool (mb f t)) ∧ w = w' := by
  have hc := hT.2 f hf
  have hb := tbF ⟨f, hf⟩ ⟨t, ht⟩
  have ha := and1F ⟨tb f / 2 ^ t, hb⟩
  have e1 : ((tb f : Int) / 2 ^ t) = ((tb f / 2 ^ t : Nat) : Int) := by rw [Int.natCast_ediv, Int.natCast_pow]; rfl
  simp only [] at ha
  rw [← e1] at ha
  have HM : Hid (mb f t = ((((tb f / 2 ^ t % 2 : Nat) : Int)) == 1)) := Lib.hid (by
    unfold mb
    generalize tb f / 2 ^ t % 2 = z
    rw [Bool.eq_iff_iff]; simp; omega)
  clear e1 hb hT
  generalize tb f / 2 ^ t % 2 = z at *
  go_enter Tryd.func38, Tryd.ntmps38
  go_wp2
  go_ret
  exact ⟨by rw [HM.out]; rfl, rfl⟩
end Go.Proofs.YtdkfedbjbcaajaaDoor
