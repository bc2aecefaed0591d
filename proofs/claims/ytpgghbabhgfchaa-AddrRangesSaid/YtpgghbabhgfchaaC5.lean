import Derived.Test.YtpgghbabhgfchaaC4
import Derived.Sort.CutIn
namespace Go.Proofs.Ytpgghbabhgfchaa
open Go.RowKit Go.Shelf
attribute [local go_sem] Oper.semAt_some
def mkD (D : Nat) : Deferred := { target := .collected D, args := #[] }
theorem leaves_marks {F : Fence} {n : Nat} {P : Program} {fn : Func} {tmps : Array Value} {R : Ending → World → Prop} {base : Nat} (Pr : World → Prop)
    (hpr : ∀ W D, Pr W → base ≤ D → W.heap[D]? = some (.deferred (some [])) → Pr (W.putObj D (.deferred none)))
    (hend : ∀ W, Pr W → LeavesIn F n P fn tmps R [] .returning W) : ∀ (Ds : List Nat) (W : World), Ds.Nodup → (∀ D ∈ Ds, base ≤ D ∧ W.heap[D]? = some (.deferred (some []))) → Pr W → LeavesInM F n P fn tmps R (Ds.map mkD) .returning W := by
  intro Ds
  induction Ds with
  | nil => exact fun W _ _ h => hend W h
  | cons D Ds ih =>
    intro W hn hm h
    obtain ⟨hb, hK⟩ := hm D (by simp)
    refine ⟨by simp, .inl ⟨D, _, rfl, run_takeDeferred hK, ?_⟩⟩
    refine ih _ (List.nodup_cons.1 hn).2 (fun D' hD' => ?_) (hpr W D h hb hK)
    have hne : D ≠ D' := fun e => (List.nodup_cons.1 hn).1 (e ▸ hD')
    exact ⟨(hm D' (by simp [hD'])).1, (World.putObj_heap_other (fun e => hne e.symm)).trans (hm D' (by simp [hD'])).2⟩
theorem stMg_from (w : World) (D D' Bm : Nat) (hwD : w.heap.size ≤ D') (hB : Bm < D') (b : List (Fin 64) → Nat → Bool) (Ds : List Nat) (hDs : ∀ d ∈ Ds, d < D') :
    OwnFrom D' (fun (pre : List (Fin 64)) W => StM w D Bm (b pre) W ∧ ∀ d ∈ Ds, W.heap[d]? = some (.deferred (some []))) := fun s A B row hs hg hr => by
  obtain ⟨⟨h1, h2, h3, h4⟩, h5⟩ := hs
  have hne : some Bm ≠ row := fun e => by have := (hr Bm e.symm).1; omega
  have hb := hg.block Bm h2 hne
  refine ⟨⟨fun k hk => ⟨?_, ?_⟩, Nat.lt_of_lt_of_le h2 hg.size, Nat.le_trans h3 hg.size, h4.grown hg h4.size (fun k e => by have := (hr k e).1; omega)⟩, fun d hd => ?_⟩
  · rw [World.cell?_of_block (a := ⟨Bm, k, none⟩) hb]; exact (h1 k hk).1
  · rw [World.frozen?_of_block (a := ⟨Bm, k, none⟩) hb]; exact (h1 k hk).2
  · have hk := h5 d hd
    exact (hg.block d (Array.getElem?_eq_some_iff.1 hk).1 (fun e => by have := (hr d e.symm).1; have := hDs d hd; omega)).trans hk
theorem stMg_set {w : World} {D Bm : Nat} {b : Nat → Bool} {W : World} (h : StM w D Bm b W) (x : Nat) (hw : w.heap.size ≤ Bm) : StM w D Bm (fun k => (b k || (x == k))) (W.setCell ⟨Bm, x, none⟩ (.bool true)) := by
  obtain ⟨h1, h2, h3, h4⟩ := h
  refine ⟨fun k hk => ⟨?_, ?_⟩, by simpa using h2, by simpa using h3, h4.setCell (p := ⟨Bm, x, none⟩) hw _⟩
  · by_cases e : x = k
    · subst e
      rw [World.cell?_setCell_same _ _ _ (h1 _ hk).1]
      simp
    · rw [World.cell?_setCell_other _ _ _ _ (by intro q; injection q with _ q2 _; exact e (by first | exact q2 | exact q2.symm)), (h1 k hk).1]
      simp [e]
  · have := (h1 k hk).2
    simpa [go_sem] using this
theorem StM.evD {w : World} {D Bm : Nat} {b : Nat → Bool} {W W' : World} (h : StM w D Bm b W) (e : Ev W W') : StM w D Bm b W' := by
  obtain ⟨h1, h2, h3, h4⟩ := h
  obtain ⟨c, f⟩ := bc e
  exact ⟨fun k hk => ⟨by rw [c _ _ h2]; exact (h1 k hk).1, by rw [f _ _ h2]; exact (h1 k hk).2⟩, Nat.lt_of_lt_of_le h2 e.sz, Nat.le_trans h3 e.sz, h4.trans (Below.mono e h4.size)⟩
theorem cvK_none (b : Nat → Bool) (n : Nat) (h : ∀ k, k < n → b k = false) : cvK b n = [] := by
  induction n with
  | zero => rfl
  | succ n ih =>
    unfold cvK
    rw [if_neg (by rw [h n (by omega)]; simp)]
    exact ih (fun k hk => h k (by omega))
theorem take_snocP (l : List (Int × Int)) (m : Nat) (h : m < l.length) : l.take (m + 1) = l.take m ++ [l.getD m (0, 0)] := by
  rw [List.take_succ_eq_append_getElem h]; simp [List.getD, h]
/-- the loop's relation -/
def IC (w : World) (A : Option Addr) (cap : Nat) (l : List (Int × Int)) (a : Act) (W : World) : Prop :=
  ∃ (m : Nat) (u6 u7 u8 u18 u19 u20 u21 u22 u23 u24 u25 u26 u27 u28 u29 u30 u31 u32 : Value) (Ds : List Nat),
    a = { tmps := #[.slice A l.length cap, undef, .slice none 0 0, .int .i64 0, .pointer (some ⟨w.heap.size, 0, none⟩), undef, u6, u7, u8, undef, undef, undef, .slice A l.length cap, .int .i64 l.length, .bool false, .slice A l.length cap, .int .i64 l.length, .int .i64 m, u18, u19, u20, u21, u22, u23, u24, u25, u26, u27, u28, u29, u30, u31, u32, undef, undef, undef, undef, undef, undef, undef, undef, undef, undef, undef, undef, undef, undef, undef], defers := Ds.map mkD } ∧
    m ≤ l.length ∧ (∀ j, j < m → okR (l.getD j (0, 0)) = true) ∧ Ds.Nodup ∧ (∀ d ∈ Ds, w.heap.size < d ∧ W.heap[d]? = some (.deferred (some []))) ∧ StM w w.heap.size w.heap.size (bL (l.take m)) W
end Go.Proofs.Ytpgghbabhgfchaa
