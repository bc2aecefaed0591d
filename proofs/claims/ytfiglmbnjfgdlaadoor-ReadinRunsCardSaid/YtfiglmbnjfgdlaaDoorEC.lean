import Derived.Test.YtfiglmbnjfgdlaaDoorEB
import Derived.Test.YtfiglmbnjfgdlaaDoorEA
namespace Go.Proofs.YtfiglmbnjfgdlaaDoor
open Go.RowKit Go.Shelf
/-- every block of cells that lay there lies as it lay, but for the blocks of X -/
def KpC (X : Nat → Prop) (A B : World) : Prop := A.heap.size ≤ B.heap.size ∧ ∀ k o, A.heap[k]? = some o → o.isCells = true → ¬ X k → B.heap[k]? = some o
theorem KpC.trans {X : Nat → Prop} {A B C : World} (h : KpC X A B) (k : KpC X B C) : KpC X A C := ⟨Nat.le_trans h.1 k.1, fun i o hi ho hx => k.2 i o (h.2 i o hi ho hx) ho hx⟩
theorem KpC.putObj {X : Nat → Prop} (W : World) (l : Nat) (o o' : Obj) (hl : W.heap[l]? = some o) (ho : o.isCells = false) : KpC X W (W.putObj l o') :=
  ⟨by simp [World.putObj], fun k x hk hx _ => by
    have hne : k ≠ l := fun e => by subst e; rw [hl] at hk; cases hk; rw [ho] at hx; cases hx
    exact (World.putObj_heap_other (by omega)).trans hk⟩
theorem KpC.row {X : Nat → Prop} {A B : World} {b : Nat} {t : TypeId} {n : Nat} {g : Nat → Value} (h : KpC X A B) (hr : A.rowIs b t n g) (hx : ¬ X b) : B.rowIs b t n g := by
  obtain ⟨c, hb, h1, h2⟩ := hr
  exact ⟨c, h.2 b _ hb rfl hx, h1, h2⟩
theorem KpC.cell {X : Nat → Prop} {A B : World} {b k : Nat} {v : Value} (h : KpC X A B) (hc : A.cell? ⟨b, k, none⟩ = some v) (hx : ¬ X b) : B.cell? ⟨b, k, none⟩ = some v := by
  rcases ho : A.heap[b]? with _ | o
  · simp [World.cell?, ho] at hc
  · rcases hi : o.isCells with _ | _
    · exfalso
      cases o <;> simp_all [World.cell?, Obj.isCells]
    · have := h.2 b o ho hi hx
      simp only [World.cell?] at hc ⊢
      rw [this, ← ho]
      exact hc
abbrev El := Int × Int × Int × Int
def enE (x : El) : Array Value := #[rd x.1 x.2.1 x.2.2.1, .int .i64 x.2.2.2]
/-- what the steps give, one after another, an error or none -/
def seqE (s f w : Int) : List (Int × Int) → List El
  | [] => []
  | (fr, e) :: t => ((stR s f w e fr).s, (stR s f w e fr).f, (stR s f w e fr).w, stE s f w e fr) :: seqE (stR s f w e fr).s (stR s f w e fr).f (stR s f w e fr).w t
theorem seqE_len (cs : List (Int × Int)) : ∀ s f w, (seqE s f w cs).length = cs.length := by
  induction cs with
  | nil => intro s f w; rfl
  | cons a t ih => intro s f w; obtain ⟨fr, e⟩ := a; simp [seqE, ih]
end Go.Proofs.YtfiglmbnjfgdlaaDoor
