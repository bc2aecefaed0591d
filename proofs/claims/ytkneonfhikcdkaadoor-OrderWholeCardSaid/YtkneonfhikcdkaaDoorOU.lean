import Derived.Test.YtkneonfhikcdkaaDoorOT
import Derived.Laws.OwnMore
namespace Go.Proofs.YtkneonfhikcdkaaDoor
open Go.RowKit Go.Shelf
def IV (l : List Int) : List Value := l.map (Value.int .i64)
def OwnI (w : World) (base : Nat) (v : Value) (L : List Int) : Prop := w.ownsRow base 3 1 v L.length (IV L)
/-- The slice at A reads as the numbers l. -/
def RdI (w : World) (A : Option Addr) (l : List Int) : Prop :=
  l.length ≤ 9223372036854775807 ∧ ∀ j, j < l.length → ∃ b o, A = some ⟨b, o, none⟩ ∧ b < w.heap.size ∧ w.cell? ⟨b, o + j, none⟩ = some (.int .i64 (l.getD j 0))
theorem RdI.ev {w w' : World} {A : Option Addr} {l : List Int} (h : RdI w A l) (e : Ev w w') : RdI w' A l := ⟨h.1, fun j hj => by
  obtain ⟨b, o, h1, h2, h3⟩ := h.2 j hj
  have := e.sz
  exact ⟨b, o, h1, by omega, by rw [e.cell (p := ⟨b, o + j, none⟩) h2]; exact h3⟩⟩
theorem RdI.of_own {w : World} {base : Nat} {v : Value} {L : List Int} (h : OwnI w base v L) (hl : L.length ≤ 9223372036854775807) : ∃ A cap, v = .slice A L.length cap ∧ RdI w A L := by
  rcases h.2 with ⟨rfl, h0⟩ | ⟨g, cap, cur, rfl, hbg, hh, hn, hc, hs, ht⟩
  · have e : L = [] := List.eq_nil_of_length_eq_zero h0
    subst e
    exact ⟨none, 0, rfl, by simp, fun j hj => by simp at hj⟩
  · refine ⟨some ⟨g, 0, none⟩, cap, rfl, hl, fun j hj => ⟨g, 0, rfl, (h.lt g rfl).2, ?_⟩⟩
    rw [Nat.zero_add, World.ownsRow.cellAt h j (by omega)]
    unfold IV
    simp [hj]
set_option maxHeartbeats 400000 in
theorem sameI (A B : Option Addr) (c d : Nat) (l : List Int) (w : World) (hx : RdI w A l) (hy : RdI w B l) :
    Calls Tryd.prog 33 #[.slice A l.length c, .slice B l.length d] w fun e w' => e = .returned (.bool true) ∧ Ev w w' := by
  have hn := hx.1
  have hq : ((l.length : Int) != (l.length : Int)) = false := by simp
  go_enter Tryd.func33, Tryd.ntmps33
  go_wp2
  go_loopw [5] (fun i wr => ∃ k m : Nat, k ≤ l.length ∧ i = .int .i64 k ∧ wr = w.drewN m) (fun i _ => l.length - (intOf i).toNat)
  case atStart => exact ⟨0, 0, Nat.zero_le _, rfl, rfl⟩
  case round =>
    obtain ⟨k, m, hk, rfl, rfl⟩ := hrel
    by_cases hlt : k < l.length
    · obtain ⟨b, o, rfl, hb, c1⟩ := hx.2 k hlt
      obtain ⟨b', o', rfl, hb', c1'⟩ := hy.2 k hlt
      generalize l.getD k 0 = x at *
      have hlt' : (k : Int) < (l.length : Int) := by omega
      have hk0 : 0 ≤ (k : Int) := by omega
      clear hx hy
      go_wp2
      go_quiet (fail)
      go_wp2
      go_roundw
      case rel => exact ⟨k + 1, m + nq, by omega, by go_num, rfl⟩
      case measure => simp [intOf]; omega
    · obtain rfl : k = l.length := by omega
      go_wp2
      go_ret
      exact ⟨rfl, below_drewN (Below.refl _ _) _⟩

/-- what law Pairs asks of a block that has a buddy -/
theorem pairF {x o : Int} (h : blkE x o = 0) (h5 : o ≠ 6) : blkE (bud x o) o = 0 ∧ bud (bud x o) o = x ∧ par (bud x o) o = par x o ∧ blkE (par x o) (o + 1) = 0 ∧ bud x o ≠ x ∧ (bud x o < x → par x o = bud x o ∧ x = bud x o + sz o) ∧ (¬ bud x o < x → par x o = x ∧ bud x o = x + sz o) ∧ sz (o + 1) = 2 * sz o := by
  obtain ⟨h1, h2, h3, h4, h6⟩ := blkE_ok h
  clear h
  rcases (show o = 0 ∨ o = 1 ∨ o = 2 ∨ o = 3 ∨ o = 4 ∨ o = 5 by omega) with rfl | rfl | rfl | rfl | rfl | rfl <;>
    · simp [sz] at h4 h6
      simp [bud, par, sz, blkE]
      (repeat' split) <;> omega
theorem upto_add {α : Type} (f : Nat → α) (a b : Nat) : upto f (a + b) = upto f a ++ upto (fun i => f (a + i)) b := by
  induction b with
  | zero => simp [upto]
  | succ b ih => rw [← Nat.add_assoc, upto_succ, ih, upto_succ, List.append_assoc]
theorem frL_pair (x o : Int) (h0 : 0 ≤ x) (hs : sz (o + 1) = 2 * sz o) : frL [(x, o), (x + sz o, o)] = frL [(x, o + 1)] := by
  obtain ⟨s1, s2⟩ := sz_bd o
  have e : (sz (o + 1)).toNat = (sz o).toNat + (sz o).toNat := by omega
  have e2 : (fun i => frN x ((sz o).toNat + i)) = frN (x + sz o) := by
    funext i
    unfold frN
    have : (x + sz o).toNat + i = x.toNat + ((sz o).toNat + i) := by omega
    simp only [this]
  simp [frL, frB]
  rw [e, upto_add, e2]
theorem chk_pair {x o : Int} (h : blkE x o = 0) (h' : blkE (x + sz o) o = 0) : chkL 0 0 [(x, o), (x + sz o, o)] = (0, 0) := by
  obtain ⟨h1, h2, h3, h4, h6⟩ := blkE_ok h
  simp [chkL, h, h']
  omega
theorem chk_one {x o : Int} (h : blkE x o = 0) : chkL 0 0 [(x, o)] = (0, 0) := by
  obtain ⟨h1, h2, h3, h4, h6⟩ := blkE_ok h
  simp [chkL, h]
  omega
end Go.Proofs.YtkneonfhikcdkaaDoor
