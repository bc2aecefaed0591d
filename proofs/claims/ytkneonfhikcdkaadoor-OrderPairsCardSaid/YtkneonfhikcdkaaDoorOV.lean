import Derived.Test.YtkneonfhikcdkaaDoorOU
import Derived.Test.YtkneonfhikcdkaaDoorOD
namespace Go.Proofs.YtkneonfhikcdkaaDoor
open Go.RowKit Go.Shelf
theorem Ev.new3 (w : World) (x y : Int) (t : TypeId) : Ev w (w.alloc (.cells #[.int .i64 x, .int .i64 y] t)) := (Ev.refl w).alloc _
/-- the frames of the parent -/
def fV (x o : Int) : List Int := (frL [(par x o, o + 1)]).map fun f => (f.1 : Int)
theorem fr_any {x o : Int} (hb : blkE x o = 0) (h5 : o ≠ 6) (l : List (Int × Int)) (hl : l = [(par x o, o), (par x o + sz o, o)] ∨ l = [(par x o, o + 1)]) (X W : World) (A : Option Addr) (n c : Nat) (hn : n = l.length) (e : Ev X W) (hr : RdP W A l) :
    Calls Tryd.prog 31 #[.slice A n c] W fun e w' => ∃ B d, e = .returned (.tuple #[.slice B (fV x o).length d, .int .i64 0]) ∧ RdI w' B (fV x o) ∧ Ev X w' := by
  obtain ⟨g1, g2, g3, g4, g5, g6, g7, g8⟩ := pairF hb h5
  have q1 : blkE (par x o) o = 0 := by
    by_cases h : bud x o < x
    · rw [(g6 h).1]; exact g1
    · rw [(g7 h).1]; exact hb
  have q2 : blkE (par x o + sz o) o = 0 := by
    by_cases h : bud x o < x
    · rw [(g6 h).1, ← (g6 h).2]; exact hb
    · rw [(g7 h).1, ← (g7 h).2]; exact g1
  have hp := (blkE_ok g4).2.2.1
  have hf : frL l = frL [(par x o, o + 1)] := by
    rcases hl with rfl | rfl
    · exact frL_pair _ _ hp g8
    · rfl
  have hc : chkL 0 0 l = (0, 0) := by
    rcases hl with rfl | rfl
    · exact chk_pair q1 q2
    · exact chk_one g4
  have hok : ∀ j, j < l.length → blkE (l.getD j (0, 0)).1 (l.getD j (0, 0)).2 = 0 := by
    rcases hl with rfl | rfl
    · intro j hj
      have hj' : j < 2 := hj
      rcases (show j = 0 ∨ j = 1 by omega) with rfl | rfl
      · exact q1
      · exact q2
    · intro j hj
      have hj' : j < 1 := hj
      obtain rfl : j = 0 := by omega
      exact g4
  have hN : (frL l).length ≤ 256 := by
    rw [hf]
    have := sz_bd (o + 1)
    simp [frL, frB, upto_length]
    omega
  subst hn
  refine (Frames_ok A c l W hr hc hok hN).mono fun e' w' hh => ?_
  obtain ⟨v, rfl, ho, hev⟩ := hh
  rw [hf] at ho
  have ho' : OwnI w' W.heap.size v (fV x o) := by
    unfold OwnI fV IV
    rw [List.map_map, List.length_map]
    exact ho
  have hl' : (fV x o).length ≤ 9223372036854775807 := by
    rw [hf] at hN
    unfold fV
    rw [List.length_map]
    omega
  obtain ⟨B, d, rfl, hri⟩ := RdI.of_own ho' hl'
  exact ⟨B, d, rfl, hri, e.step hev⟩
theorem RdP.two (X : World) (a b c d : Int) : RdP (X.alloc (.cells #[.int .i64 a, .int .i64 b, .int .i64 c, .int .i64 d] 28)) (some ⟨X.heap.size, 0, none⟩) [(a, b), (c, d)] :=
  ⟨by simp, fun j hj => by
    have hj' : j < 2 := hj
    rcases (show j = 0 ∨ j = 1 by omega) with rfl | rfl <;>
      exact ⟨X.heap.size, 0, rfl, by simp, by simp, by simp⟩⟩
theorem RdP.one (X : World) (a b : Int) : RdP (X.alloc (.cells #[.int .i64 a, .int .i64 b] 28)) (some ⟨X.heap.size, 0, none⟩) [(a, b)] :=
  ⟨by simp, fun j hj => by
    have hj' : j < 1 := hj
    obtain rfl : j = 0 := by omega
    exact ⟨X.heap.size, 0, rfl, by simp, by simp, by simp⟩⟩
/-- two boxes that may be written -/
def TwoB (W wc : World) (pa pb : Nat) (x y o : Int) : Prop := pa ≠ pb ∧ W.heap.size ≤ pa ∧ W.heap.size ≤ pb ∧ pa < wc.heap.size ∧ pb < wc.heap.size ∧ Bw2 wc pa x o ∧ Bw2 wc pb y o ∧ Ev W wc
theorem TwoB.a (W : World) (x y o : Int) : TwoB W ((W.alloc (.cells #[.int .i64 x, .int .i64 o] 28)).alloc (.cells #[.int .i64 y, .int .i64 o] 28)) W.heap.size (W.heap.size + 1) x y o := by
  have h1 := Bw2.new W x o 28
  have h2 := Bw2.new (W.alloc (.cells #[.int .i64 x, .int .i64 o] 28)) y o 28
  have hs : (W.alloc (.cells #[.int .i64 x, .int .i64 o] 28)).heap.size = W.heap.size + 1 := by simp
  rw [hs] at h2
  exact ⟨by omega, by omega, by omega, by simp; omega, by simp, h1.ev (by simp) ((Ev.refl _).alloc _), h2, ((Ev.refl W).alloc _).alloc _⟩
theorem TwoB.b (W : World) (x y o : Int) : TwoB W ((W.alloc (.cells #[.int .i64 y, .int .i64 o] 28)).alloc (.cells #[.int .i64 x, .int .i64 o] 28)) (W.heap.size + 1) W.heap.size x y o := by
  have h1 := Bw2.new W y o 28
  have h2 := Bw2.new (W.alloc (.cells #[.int .i64 y, .int .i64 o] 28)) x o 28
  have hs : (W.alloc (.cells #[.int .i64 y, .int .i64 o] 28)).heap.size = W.heap.size + 1 := by simp
  rw [hs] at h2
  exact ⟨by omega, by omega, by omega, by simp, by simp; omega, h2, h1.ev (by simp) ((Ev.refl _).alloc _), ((Ev.refl W).alloc _).alloc _⟩
theorem TwoB.drew {W wc : World} {pa pb : Nat} {x y o : Int} (h : TwoB W wc pa pb x y o) : TwoB W wc.drew pa pb x y o := ⟨h.1, h.2.1, h.2.2.1, h.2.2.2.1, h.2.2.2.2.1, h.2.2.2.2.2.1, h.2.2.2.2.2.2.1, Ev.drew h.2.2.2.2.2.2.2⟩
theorem Bw2.other {W : World} {b : Nat} {x y : Int} (h : Bw2 W b x y) {c i : Nat} (hc : c ≠ b) (v : Value) : Bw2 (W.setCell ⟨c, i, none⟩ v) b x y := by
  obtain ⟨⟨h1, h2⟩, h4, h5⟩ := h
  unfold Bw2
  simp [h1, h2, h4, h5, go_sem]
theorem Bw2.put {W : World} {b : Nat} {x y : Int} (h : Bw2 W b x y) (x' y' : Int) : Bw2 ((W.setCell ⟨b, 0, none⟩ (.int .i64 x')).setCell ⟨b, 1, none⟩ (.int .i64 y')) b x' y' := by
  obtain ⟨⟨h1, h2⟩, h4, h5⟩ := h
  unfold Bw2
  simp [h1, h2, h4, h5, go_sem]
/-- the two boxes, exchanged -/
def SwR (W we : World) (pa pb : Nat) (x y o : Int) : Prop := Bw2 we pa y o ∧ Bw2 we pb x o ∧ Ev W we
theorem SwR.drew {W we : World} {pa pb : Nat} {x y o : Int} (h : SwR W we pa pb x y o) : SwR W we.drew pa pb x y o := ⟨h.1, h.2.1, Ev.drew h.2.2⟩
theorem swapA {W wd : World} {pa pb : Nat} {x y o : Int} (n : pa ≠ pb) (h6 : Bw2 wd pa x o) (h7 : Bw2 wd pb y o) (e : Ev W wd) (z1 : W.heap.size ≤ pa) (z2 : W.heap.size ≤ pb) :
    SwR W ((((wd.setCell ⟨pa, 0, none⟩ (.int .i64 y)).setCell ⟨pa, 1, none⟩ (.int .i64 o)).setCell ⟨pb, 0, none⟩ (.int .i64 x)).setCell ⟨pb, 1, none⟩ (.int .i64 o)) pa pb x y o :=
  ⟨Bw2.other (Bw2.other (Bw2.put h6 y o) n.symm _) n.symm _, Bw2.put (Bw2.other (Bw2.other h7 n _) n _) x o, Ev.setC (Ev.setC (Ev.setC (Ev.setC e (p := ⟨pa, 0, none⟩) z1 _) (p := ⟨pa, 1, none⟩) z1 _) (p := ⟨pb, 0, none⟩) z2 _) (p := ⟨pb, 1, none⟩) z2 _⟩
theorem swapB {W wd : World} {pa pb : Nat} {x y o : Int} (n : pa ≠ pb) (h6 : Bw2 wd pa x o) (h7 : Bw2 wd pb y o) (e : Ev W wd) (z1 : W.heap.size ≤ pa) (z2 : W.heap.size ≤ pb) :
    SwR W ((((wd.setCell ⟨pb, 0, none⟩ (.int .i64 x)).setCell ⟨pb, 1, none⟩ (.int .i64 o)).setCell ⟨pa, 0, none⟩ (.int .i64 y)).setCell ⟨pa, 1, none⟩ (.int .i64 o)) pa pb x y o :=
  ⟨Bw2.put (Bw2.other (Bw2.other h6 n.symm _) n.symm _) y o, Bw2.other (Bw2.other (Bw2.put h7 x o) n _) n _, Ev.setC (Ev.setC (Ev.setC (Ev.setC e (p := ⟨pb, 0, none⟩) z2 _) (p := ⟨pb, 1, none⟩) z2 _) (p := ⟨pa, 0, none⟩) z1 _) (p := ⟨pa, 1, none⟩) z1 _⟩
end Go.Proofs.YtkneonfhikcdkaaDoor
