import Derived.Test.YtfiglmbnjfgdlaaDoorDN
import Derived.RangeFuncNested
import Derived.RangeFuncBound
import Derived.RangeFuncCalls
import Derived.RangeFuncLeaves
import Derived.RangeFuncBox
import Derived.Shelf.Abstract
import Derived.OwnWalkIn
import Derived.TacticsInMore
import Derived.LoopNIn
import Derived.LoopIn
import Derived.Maps.AppendAt
import Derived.Laws.OwnMore
import Derived.WalkSmall
namespace Go.Proofs.YtfiglmbnjfgdlaaDoor
open Go.RowKit Go.Shelf
/-- An iterator that keeps its state in the box U, for bodies that may leave the loop by a return. -/
def BoxStops {α : Type} (F : Fence) (n : Nat) (P : Program) (g : Nat) (lb : Array Value) (encs : α → Array Value) (Kp : World → World → Prop) (U : Nat) (S Sp : List α → Prop) (N : Nat) (w : World) : Prop :=
  ∀ (l : Nat) (J Jx : List α → World → Prop) (W : World), Below w.heap.size w W → (∀ s A k v, J s A → J s (A.setCell ⟨U, k, none⟩ v)) → (∀ s A B, J s A → A.grownBy B none → J s B) → (∀ s A B, Jx s A → A.grownBy B none → Jx s B) →
    (∀ pre x A, J pre A → pre.length < N → YieldAt F (n - 1) P l (encs x) A fun e B => (e = .returned (.bool true) ∧ J (pre ++ [x]) B ∧ Kp A B) ∨ (e = .returned (.bool false) ∧ Jx (pre ++ [x]) B)) →
    J [] W → CallsIn F n P g (#[.func (.yield l) #[] #[]] ++ lb) W fun e B => (∃ v, e = .returned v) ∧ ((∃ xs, S xs ∧ J xs B) ∨ (∃ pre, Sp pre ∧ Jx pre B))
/-- what a store into the box U leaves -/
theorem blk_setU {A : World} {U k : Nat} (j : Nat) (v : Value) (h : k ≠ U) : (A.setCell ⟨U, j, none⟩ v).heap[k]? = A.heap[k]? := Below.heap_setCell A ⟨U, j, none⟩ v k h
theorem blk_grown {A B : World} {k : Nat} {o : Obj} (hg : A.grownBy B none) (h : A.heap[k]? = some o) : B.heap[k]? = some o :=
  (hg.block k (Array.getElem?_eq_some_iff.1 h).1 (by simp)).trans h
variable {F : Fence} {n : Nat} {P : Program}
theorem range_boxL_round {α : Type} {ps : Array Tmp} {assign body : Code} {fn : FuncId} {tm : Array Value} {dw D : Nat} {R : LoopState → Loop} {encs : α → Array Value} {Kp : World → World → Prop} {N : Nat} {I L : List α → World → Prop}
    (hfn : F.fn fn) (hR : R = fun st => { state := st, pending := none, fn, tmps := tm, params := ps, assign, body, defers := dw }) (hps : ∀ x, (encs x).size = ps.size)
    (hKt : ∀ {A B C : World}, Kp A B → Kp B C → Kp A C) (hKb : ∀ (W : World) (l : Nat) (o o' : Obj), D ≤ l → W.heap[l]? = some o → o.isCells = false → o.isWalk = false → Kp W (W.putObj l o'))
    (hI : OwnFrom D I) (hL : OwnFrom D L)
    (Ax : α → Act → World → Prop) (hAx : ∀ x a', OwnFrom D (fun (_ : Unit) W => Ax x a' W))
    (hassign : ∀ (l : Nat) (pre : List α) (x : α) (W : World) (K : Act → World → Prop), I pre W → (∀ a' W', KeepsFrom D W W' → Kp W W' → I pre W' → Ax x a' W' → K a' W') →
      assign.wpIn (F.inRound l) (n - 1 - 1) P (Exit.then K (fun _ _ _ => False)) { tmps := (ps.zip (encs x)).foldl (fun t (p, v) => t.setIfInBounds p v) tm, defers := [] } W)
    (hbody : ∀ (l : Nat) (pre : List α) (x : α) (a' : Act) (W : World), I pre W → Ax x a' W → pre.length < N → body.wpIn (F.inRound l) (n - 1 - 1) P (ownPostG D Kp I (fun c xs W => c = .ret ∧ L xs W) (pre ++ [x]) W) a' W) :
    ∀ pre x A, (I pre A ∧ A.heap[D + 1]? = some (.loop (R .ready)) ∧ A.heap[D]? = some (.deferred (some []))) → pre.length < N →
      YieldAt F (n - 1 - 1) P (D + 1) (encs x) A fun e B => (e = .returned (.bool true) ∧ (I (pre ++ [x]) B ∧ B.heap[D + 1]? = some (.loop (R .ready)) ∧ B.heap[D]? = some (.deferred (some []))) ∧ Kp A B) ∨ (e = .returned (.bool false) ∧ (L (pre ++ [x]) B ∧ B.heap[D + 1]? = some (.loop { R .done with pending := some .ret }) ∧ B.heap[D]? = some (.deferred (some [])))) := by
  rintro pre x A ⟨hi, hl, hd⟩ hlen
  have hlt : D + 1 < A.heap.size := (Array.getElem?_eq_some_iff.1 hl).1
  have hy := run_yield (P := P) (args := encs x) hl (by rw [hR]; exact hps x)
  rw [hR] at hy
  refine ⟨fn, _, assign, body, hy, roundIn_of_wpIn hfn (hassign _ pre x A _ hi ?_)⟩
  clear hy
  intro a' Aa hkfa hkpa hia hax
  replace hl := hkfa.same _ _ (by omega) hl rfl
  replace hd := hkfa.same _ _ (Nat.le_refl _) hd rfl
  replace hlt : D + 1 < Aa.heap.size := (Array.getElem?_eq_some_iff.1 hl).1
  refine ⟨_, run_beginRound hl (by rw [hR]), ?_⟩
  obtain ⟨rb, hrb⟩ : ∃ rb : Loop, { R .ready with state := .busy } = rb := ⟨_, rfl⟩
  rw [hrb]
  have hBL : (Aa.putObj (D + 1) (.loop rb)).heap[D + 1]? = some (.loop rb) := World.putObj_heap_same hlt
  have hBD : (Aa.putObj (D + 1) (.loop rb)).heap[D]? = some (.deferred (some [])) := (World.putObj_heap_other (by omega)).trans hd
  have hAB : Kp A (Aa.putObj (D + 1) (.loop rb)) := hKt hkpa (hKb _ _ _ _ (by omega) hl rfl rfl)
  refine wpIn_mono (hbody _ pre x a' _ (hI.putObj _ hia (by omega) hl rfl) ((hAx x a').putObj (s := ()) _ hax (by omega) hl rfl) hlen) ?_
  rintro e a3 C hp
  cases e with
  | normal =>
    obtain ⟨k1, k2, k3⟩ := hp
    have hCL := k1.same _ _ (by omega) hBL rfl
    have hCD := k1.same _ _ (Nat.le_refl _) hBD rfl
    have hend := run_endRound (P := P) none hCL
    have hrr : ({ rb with state := if (none : Option Code).isNone then .ready else .done, pending := none } : Loop) = R .ready := by rw [← hrb, hR]; rfl
    rw [hrr] at hend
    exact ⟨_, _, hend, .inl ⟨rfl, ⟨hI.putObj _ k3 (by omega) hCL rfl, World.putObj_heap_same (Array.getElem?_eq_some_iff.1 hCL).1, (World.putObj_heap_other (by omega)).trans hCD⟩, hKt (hKt hAB k2) (hKb _ _ _ _ (by omega) hCL rfl rfl)⟩⟩
  | ret =>
    obtain ⟨k1, -, k3⟩ := hp
    have hCL := k1.same _ _ (by omega) hBL rfl
    have hCD := k1.same _ _ (Nat.le_refl _) hBD rfl
    have hend := run_endRound (P := P) (some .ret) hCL
    have hrr : ({ rb with state := if (some Code.ret : Option Code).isNone then .ready else .done, pending := some .ret } : Loop) = { R .done with pending := some .ret } := by rw [← hrb, hR]; rfl
    rw [hrr] at hend
    exact ⟨_, _, hend, .inr ⟨rfl, hL.putObj _ k3 (by omega) hCL rfl, World.putObj_heap_same (Array.getElem?_eq_some_iff.1 hCL).1, (World.putObj_heap_other (by omega)).trans hCD⟩⟩
  | exit id => exact absurd hp.2.1 (by simp)
  | goto t => exact absurd hp.2.1 (by simp)
  | panic ch => exact hp.elim
  | outgrown => exact hp.elim
set_option maxHeartbeats 400000 in
theorem range_boxL {α : Type} {g : Operand} {ps : Array Tmp} {assign body : Code} {Q : Exit → Act → World → Prop} {a : Act} {w : World}
    (hro : F.round = none) (h1 : 1 ≤ n) {gf : Nat} {lb : Array Value} (hg : a.eval g = .func (.func gf) #[] lb) (hFg : F.fn gf) (eg : ∀ args w, (callFunc gf args).run P w = .ok (.enter gf args) w)
    {encs : α → Array Value} {Kp : World → World → Prop} {U : Nat} {S Sp : List α → Prop} {N : Nat} {w0 : World} (hseq : BoxStops F (n - 1) P gf lb encs Kp U S Sp N w0) (hU : U < w.heap.size)
    (hKt : ∀ {A B C : World}, Kp A B → Kp B C → Kp A C) (hKb : ∀ (W : World) (l : Nat) (o o' : Obj), w.heap.size ≤ l → W.heap[l]? = some o → o.isCells = false → o.isWalk = false → Kp W (W.putObj l o')) (hb0 : Below w0.heap.size w0 w) (hps : ∀ x, (encs x).size = ps.size)
    (I L : List α → World → Prop) (hI : OwnFrom w.heap.size I) (hL : OwnFrom w.heap.size L) (hIU : ∀ s A k v, I s A → I s (A.setCell ⟨U, k, none⟩ v)) (h0 : I [] w)
    (Ax : α → Act → World → Prop) (hAx : ∀ x a', OwnFrom w.heap.size (fun (_ : Unit) W => Ax x a' W))
    (hassign : ∀ (l : Nat) (pre : List α) (x : α) (W : World) (K : Act → World → Prop), I pre W → (∀ a' W', KeepsFrom w.heap.size W W' → Kp W W' → I pre W' → Ax x a' W' → K a' W') →
      assign.wpIn (F.inRound l) (n - 1 - 1) P (Exit.then K (fun _ _ _ => False)) { tmps := (ps.zip (encs x)).foldl (fun t (p, v) => t.setIfInBounds p v) a.tmps, defers := [] } W)
    (hbody : ∀ (l : Nat) (pre : List α) (x : α) (a' : Act) (W : World), I pre W → Ax x a' W → pre.length < N → body.wpIn (F.inRound l) (n - 1 - 1) P (ownPostG w.heap.size Kp I (fun c xs W => c = .ret ∧ L xs W) (pre ++ [x]) W) a' W)
    (hdone : ∀ (D : Nat) (xs : List α) (W : World), w.heap.size ≤ D → S xs → I xs W → W.heap[D]? = some (.deferred (some [])) → Q .normal { a with defers := { target := .collected D, args := #[] } :: a.defers } W)
    (hstop : ∀ (D : Nat) (pre : List α) (W : World), w.heap.size ≤ D → Sp pre → L pre W → W.heap[D]? = some (.deferred (some [])) → Code.ret.wpIn F n P Q { a with defers := { target := .collected D, args := #[] } :: a.defers } W) :
    (Code.rangeFunc g ps assign body).wpIn F n P Q a w := by
  refine wpIn_rangeFunc ?_
  intro fn hfn
  rw [hro]
  obtain ⟨R, hR⟩ : ∃ R : LoopState → Loop, R = fun st => { state := st, pending := none, fn, tmps := a.tmps, params := ps, assign, body, defers := w.heap.size } := ⟨_, rfl⟩
  obtain ⟨D, hD⟩ : ∃ D, w.heap.size = D := ⟨_, rfl⟩
  obtain ⟨A0, hA0⟩ : ∃ A0, (w.alloc (.deferred (some []))).alloc (.loop (R .ready)) = A0 := ⟨_, rfl⟩
  have hA0L : A0.heap[D + 1]? = some (.loop (R .ready)) := by
    rw [← hA0, ← hD]
    have := World.alloc_heap_new (w.alloc (.deferred (some []))) (.loop (R .ready))
    rwa [World.size_alloc] at this
  have hA0D : A0.heap[D]? = some (.deferred (some [])) := by
    rw [← hA0, ← hD]; exact (Below.heap_alloc _ _ _ (by simp)).trans (World.alloc_heap_new w _)
  have hI0 : I [] A0 := by rw [← hA0]; exact hI.alloc _ (hI.alloc _ h0)
  have hbelow : Below w0.heap.size w0 A0 := by
    rw [← hA0]; exact hb0.trans ((((Below.refl _ w).alloc (Nat.le_refl _) _).alloc (by simp) _).mono hb0.size)
  have hrun : (Instr.enterLoop fn a.tmps ps assign body none).run P w = .ok (D + 1, [{ target := .collected D, args := #[] }]) A0 := by
    rw [← hA0, ← hD, hR]; exact run_enterLoop_outer _ _ _ _ _
  rw [hD] at hI hL hKb hU hAx hassign
  have hround := range_boxL_round (P := P) (F := F) (n := n) (R := R) (Kp := Kp) (N := N) (fn := fn) (tm := a.tmps) (dw := w.heap.size) (D := D) hfn hR hps (fun {A B C} h k => hKt (A := A) (B := B) (C := C) h k) hKb hI hL Ax hAx hassign (by rw [← hD]; exact hbody)
  have hcall := hseq (D + 1) (fun pre A => I pre A ∧ A.heap[D + 1]? = some (.loop (R .ready)) ∧ A.heap[D]? = some (.deferred (some []))) (fun pre A => L pre A ∧ A.heap[D + 1]? = some (.loop { R .done with pending := some .ret }) ∧ A.heap[D]? = some (.deferred (some []))) A0 hbelow
    (fun s A k v hs => ⟨hIU s A k v hs.1, (blk_setU k v (by omega)).trans hs.2.1, (blk_setU k v (by omega)).trans hs.2.2⟩)
    (fun s A B hs hgr => ⟨hI s A B none hs.1 hgr (fun r e => by cases e), blk_grown hgr hs.2.1, blk_grown hgr hs.2.2⟩)
    (fun s A B hs hgr => ⟨hL s A B none hs.1 hgr (fun r e => by cases e), blk_grown hgr hs.2.1, blk_grown hgr hs.2.2⟩)
    hround ⟨hI0, hA0L, hA0D⟩
  refine ⟨D + 1, [{ target := .collected D, args := #[] }], A0, { target := .fn (.func gf) lb, args := #[.func (.yield (D + 1)) #[] #[]] }, A0, gf, #[.func (.yield (D + 1)) #[] #[]] ++ lb, A0, hrun, ?_, ?_, ?_, fun _ => h1, ?_⟩
  · simp only [resolve, hg]; simp [go_sem]
  · intro f' hf'; simp [Target.leads] at hf'; subst hf'; exact hFg
  · simp [invoke, go_sem, eg]
  · refine hcall.mono ?_
    rintro e B ⟨⟨v, rfl⟩, ⟨xs, hS, hi, hl, hd⟩ | ⟨pre, hS, hi, hl, hd⟩⟩
    · have hel := run_endLoop (P := P) hl (by rw [hR]; simp)
      rw [hR] at hel
      exact ⟨none, _, hel, hdone D xs _ (by omega) hS (hI.putObj _ hi (by omega) hl rfl) ((World.putObj_heap_other (by omega)).trans hd)⟩
    · have hel := run_endLoop (P := P) hl (by rw [hR]; simp)
      rw [hR] at hel
      exact ⟨some .ret, _, hel, hstop D pre _ (by omega) hS (hL.putObj _ hi (by omega) hl rfl) ((World.putObj_heap_other (by omega)).trans hd)⟩
end Go.Proofs.YtfiglmbnjfgdlaaDoor
