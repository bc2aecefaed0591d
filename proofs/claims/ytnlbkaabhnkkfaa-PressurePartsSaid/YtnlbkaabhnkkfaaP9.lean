import Derived.Test.YtnlbkaabhnkkfaaPB
import Derived.Laws.OwnMore
import Derived.WalkSmall
namespace Go.Proofs.Ytnlbkaabhnkkfaa
open Go.RowKit Go.Shelf
/-- spans as cells -/
def flatS : List (Int × Int) → List Value
  | [] => []
  | (f, t) :: r => .int .i64 f :: .int .i64 t :: flatS r
theorem flatS_len (s : List (Int × Int)) : (flatS s).length = s.length * 2 := by
  induction s with
  | nil => rfl
  | cons a s ih => obtain ⟨f, t⟩ := a; simp [flatS, ih]; omega
theorem flatS_app (s r : List (Int × Int)) : flatS (s ++ r) = flatS s ++ flatS r := by
  induction s with
  | nil => rfl
  | cons a s ih => obtain ⟨f, t⟩ := a; simp [flatS, ih]
theorem flatS_set (s : List (Int × Int)) (f t u : Int) : (flatS (s ++ [(f, t)])).set (s.length * 2 + 1) (.int .i64 u) = flatS (s ++ [(f, u)]) := by
  rw [flatS_app, flatS_app, List.set_append_right _ _ (by rw [flatS_len]; omega), flatS_len]
  rw [show s.length * 2 + 1 - s.length * 2 = 1 from by omega]
  rfl
theorem flatS_last (s : List (Int × Int)) (f t : Int) : (flatS (s ++ [(f, t)]))[s.length * 2 + 1]? = some (.int .i64 t) := by
  rw [flatS_app, List.getElem?_append_right (by rw [flatS_len]; omega), flatS_len]
  rw [show s.length * 2 + 1 - s.length * 2 = 1 from by omega]
  rfl
/-- the last span goes on to i -/
def setL (s : List (Int × Int)) (i : Int) : List (Int × Int) := s.dropLast ++ [((s.getLast?.getD (0, 0)).1, i)]
theorem setL_snoc (s : List (Int × Int)) (f t i : Int) : setL (s ++ [(f, t)]) i = s ++ [(f, i)] := by simp [setL]
theorem setL_len (s : List (Int × Int)) (i : Int) (h : s ≠ []) : (setL s i).length = s.length := by
  have : 0 < s.length := List.length_pos_iff.2 h
  simp [setL]; omega
/-- one number more -/
def stp (st : List (Int × Int) × Bool) (x : Nat × Bool) : List (Int × Int) × Bool :=
  (match x.2, st.2 with
   | false, _ => st.1
   | true, false => st.1 ++ [((x.1 : Int), (x.1 : Int))]
   | true, true => setL st.1 x.1, x.2)
def spF (l : List (Nat × Bool)) : List (Int × Int) × Bool := l.foldl stp ([], false)
theorem spF_snoc (l : List (Nat × Bool)) (x : Nat × Bool) : spF (l ++ [x]) = stp (spF l) x := by simp [spF]
theorem stp_inv (st : List (Int × Int) × Bool) (x : Nat × Bool) (h : st.2 = true → st.1 ≠ []) : (stp st x).2 = true → (stp st x).1 ≠ [] := by
  obtain ⟨s, bf⟩ := st
  obtain ⟨i, aw⟩ := x
  cases aw <;> cases bf <;> simp [stp, setL]
theorem foldl_inv (l : List (Nat × Bool)) (st : List (Int × Int) × Bool) (h : st.2 = true → st.1 ≠ []) : (l.foldl stp st).2 = true → (l.foldl stp st).1 ≠ [] := by
  induction l generalizing st with
  | nil => exact h
  | cons x l ih => exact ih _ (stp_inv st x h)
theorem spF_inv (l : List (Nat × Bool)) : (spF l).2 = true → (spF l).1 ≠ [] := foldl_inv l _ (by simp)
theorem stp_len (st : List (Int × Int) × Bool) (x : Nat × Bool) (h : st.2 = true → st.1 ≠ []) : (stp st x).1.length ≤ st.1.length + 1 := by
  obtain ⟨s, bf⟩ := st
  obtain ⟨i, aw⟩ := x
  cases aw
  · simp [stp]
  · cases bf
    · simp [stp]
    · simp only [stp]
      rw [setL_len _ _ (h rfl)]
      exact Nat.le_succ _
theorem foldl_len (l : List (Nat × Bool)) (st : List (Int × Int) × Bool) (h : st.2 = true → st.1 ≠ []) : (l.foldl stp st).1.length ≤ st.1.length + l.length := by
  induction l generalizing st with
  | nil => simp
  | cons x l ih =>
    have h1 := ih _ (stp_inv st x h)
    have h2 := stp_len st x h
    simp only [List.foldl_cons, List.length_cons]
    omega
theorem spF_len (l : List (Nat × Bool)) : (spF l).1.length ≤ l.length := by
  have := foldl_len l ([], false) (by simp)
  simpa [spF] using this
theorem snoc_of {s : List (Int × Int)} (h : s ≠ []) : ∃ r f t, s = r ++ [(f, t)] := by
  obtain ⟨r, a, e⟩ := List.eq_nil_or_concat s |>.resolve_left h
  exact ⟨r, a.1, a.2, by rw [e]; simp⟩
theorem KpX.mono {D : Nat} {X Y : Nat → Prop} {A B : World} (h : KpX D X A B) (hxy : ∀ k, X k → Y k) : KpX D Y A B := ⟨h.1, fun k h1 h2 => h.2 k h1 (fun hx => h2 (hxy k hx))⟩
theorem KpX.setCell {D : Nat} {X : Nat → Prop} {A B : World} (h : KpX D X A B) {p : Addr} (v : Value) (hp : X p.block ∨ D ≤ p.block) : KpX D X A (B.setCell p v) := by
  refine ⟨?_, fun k h1 h2 => ?_⟩
  · have := h.1
    simpa using this
  · rw [Below.heap_setCell _ _ _ _ (fun e => by subst e; rcases hp with hp | hp; exact h2 hp; omega)]
    exact h.2 k h1 h2
theorem info51 : (Try.prog.info? 51).map (fun i => (i.zero, i.size, i.bytes)) = some (some (.agg #[.int .i64 0, .int .i64 0]), 2, 16) := by kernel_rfl
/-- what the closure's boxes and the row hold -/
def StS (w : World) (D Bb Bs : Nat) (st : List (Int × Int) × Bool) (W : World) : Prop :=
  (∃ v, Boxed W Bs 38 v ∧ W.ownsRow D 51 2 v st.1.length (flatS st.1)) ∧ Boxed W Bb 4 (.bool st.2) ∧ D ≤ W.heap.size ∧ Below w.heap.size w W
set_option maxHeartbeats 1000000 in
theorem add_f (w W : World) (D Bb Bs : Nat) (i : Nat) (st : List (Int × Int) × Bool) (h : StS w D Bb Bs st W) (hbs : Bb ≠ Bs) (hb : w.heap.size ≤ Bb) :
    Calls Try.prog 42 #[.int .i64 (i : Int), .bool false, .pointer (some ⟨Bb, 0, none⟩), .pointer (some ⟨Bs, 0, none⟩)] W fun e W' => (∃ v, e = .returned v) ∧ StS w D Bb Bs (stp st (i, false)) W' ∧ KeepsOthers W W' ∧ KpX D (fun k => k = Bb ∨ k = Bs) W W' := by
  obtain ⟨⟨v, hv, hrow⟩, hB, hD, hw⟩ := h
  have c0 := hB.cell
  have f0 := hB.frozen
  have HF : Hid (StS w D Bb Bs (stp st (i, false)) (W.setCell ⟨Bb, 0, none⟩ (.bool false)) ∧ KeepsOthers W (W.setCell ⟨Bb, 0, none⟩ (.bool false)) ∧ KpX D (fun k => k = Bb ∨ k = Bs) W (W.setCell ⟨Bb, 0, none⟩ (.bool false))) :=
    Lib.hid ⟨⟨⟨v, hv.kept (grownBy_setCell' W Bb _) (by simpa using fun e => hbs e.symm), hrow.kept (grownBy_setCell' W Bb _) (.inr (hB.not_row (by decide) hrow).symm)⟩, hB.set _, by simpa using hD, hw.setCell (p := ⟨Bb, 0, none⟩) hb _⟩, KeepsOthers.setCell _ _ _, (KpX.refl _ _ _).setCell _ (.inl (.inl rfl))⟩
  clear hv hrow hB hD hw
  go_enter Try.func42, Try.ntmps42
  go_wp2_with fail
  go_end0
  exact ⟨⟨_, rfl⟩, HF.out⟩
set_option maxHeartbeats 1000000 in
theorem add_tt (w W : World) (D Bb Bs : Nat) (i : Nat) (s : List (Int × Int)) (h : StS w D Bb Bs (s, true) W) (hne : s ≠ []) (hlen : s.length ≤ 400) (hbs : Bb ≠ Bs) (hb : w.heap.size ≤ Bb) (hwD : w.heap.size ≤ D) :
    Calls Try.prog 42 #[.int .i64 (i : Int), .bool true, .pointer (some ⟨Bb, 0, none⟩), .pointer (some ⟨Bs, 0, none⟩)] W fun e W' => (∃ v, e = .returned v) ∧ StS w D Bb Bs (stp (s, true) (i, true)) W' ∧ KeepsOthers W W' ∧ KpX D (fun k => k = Bb ∨ k = Bs) W W' := by
  obtain ⟨⟨v, hv, hrow⟩, hB, hD, hw⟩ := h
  obtain ⟨r, f, t, rfl⟩ := snoc_of hne
  simp only [List.length_append, List.length_singleton] at hrow hlen
  obtain ⟨g, cap, rfl⟩ := ownsRow_succ hrow
  have hg := hrow.lt g rfl
  have c0 := hB.cell
  have f0 := hB.frozen
  have c1 := hv.cell
  have c2 := hrow.cellAt (r.length * 2 + 1) (by omega)
  rw [flatS_last] at c2
  have f2 := hrow.frozenAt (r.length * 2 + 1)
  obtain ⟨s1, s2⟩ := hrow.stored (r.length * 2 + 1) (.int .i64 (i : Int))
  rw [flatS_set] at s1
  have n1 := hB.not_row (by decide) hrow
  have n2 := hv.not_row (by decide) hrow
  have e1 : stp (r ++ [(f, t)], true) (i, true) = (r ++ [(f, (i : Int))], true) := by simp [stp, setL_snoc]
  rw [e1]
  have hB1 : Boxed (W.setCell ⟨g, r.length * 2 + 1, none⟩ (.int .i64 (i : Int))) Bb 4 (.bool true) := hB.kept s2 n1
  have hw1 := hw.setCell (p := ⟨g, r.length * 2 + 1, none⟩) (by simp only []; omega) (.int .i64 (i : Int))
  have c0' := hB1.cell
  have f0' := hB1.frozen
  have HF : Hid (StS w D Bb Bs (r ++ [(f, (i : Int))], true) ((W.setCell ⟨g, r.length * 2 + 1, none⟩ (.int .i64 (i : Int))).setCell ⟨Bb, 0, none⟩ (.bool true)) ∧ KeepsOthers W ((W.setCell ⟨g, r.length * 2 + 1, none⟩ (.int .i64 (i : Int))).setCell ⟨Bb, 0, none⟩ (.bool true)) ∧ KpX D (fun k => k = Bb ∨ k = Bs) W ((W.setCell ⟨g, r.length * 2 + 1, none⟩ (.int .i64 (i : Int))).setCell ⟨Bb, 0, none⟩ (.bool true))) := Lib.hid ⟨⟨⟨_, (hv.kept s2 n2).kept (grownBy_setCell' _ Bb _) (by simpa using fun e => hbs e.symm), by
      have := s1.kept (grownBy_setCell' _ Bb (.bool true)) (.inr (hB1.not_row (by decide) s1).symm)
      simpa using this⟩, hB1.set _, by simpa using hD, hw1.setCell (p := ⟨Bb, 0, none⟩) hb _⟩, (KeepsOthers.setCell _ _ _).trans (KeepsOthers.setCell _ _ _), ((KpX.refl _ _ _).setCell _ (.inr (by simp only []; omega))).setCell _ (.inl (.inl rfl))⟩
  have l1 : 0 ≤ (r.length : Int) := by omega
  have l2 : (r.length : Int) ≤ 400 := by omega
  clear hv hrow hB hD hw hB1 hw1 s1 s2 e1 n1 n2 hne hg
  go_enter Try.func42, Try.ntmps42
  go_wp2_with fail
  go_end0
  exact ⟨⟨_, rfl⟩, HF.out⟩
end Go.Proofs.Ytnlbkaabhnkkfaa
