import Derived.Test.YtnlbkaabhnkkfaaP9
namespace Go.Proofs.Ytnlbkaabhnkkfaa
open Go.RowKit Go.Shelf
theorem tf_out {w W w4 : World} {D Bb Bs g cap : Nat} {v : Value} {i : Int} {s : List (Int × Int)} {tmp : Obj} (hv : Boxed W Bs 38 v) (hrow : W.ownsRow D 51 2 v s.length (flatS s)) (hB : Boxed W Bb 4 (.bool false)) (hD : D ≤ W.heap.size) (hw : Below w.heap.size w W)
    (hbs : Bb ≠ Bs) (hb : w.heap.size ≤ Bb) (hs : w.heap.size ≤ Bs) (hwD : w.heap.size ≤ D)
    (hown4 : w4.ownsRow D 51 2 (.slice (some ⟨g, 0, none⟩) (s.length + 1) cap) (s.length + 1) (flatS s ++ [.int .i64 i, .int .i64 0])) (hg4 : (W.alloc tmp).grownBy w4 v.ownBlock) :
    (w4.cell? ⟨Bs, 0, none⟩ = some v ∧ w4.frozen? ⟨Bs, 0, none⟩ = false ∧ w4.cell? ⟨Bb, 0, none⟩ = some (.bool false) ∧ w4.frozen? ⟨Bb, 0, none⟩ = false) ∧
    ((w4.setCell ⟨Bs, 0, none⟩ (.slice (some ⟨g, 0, none⟩) (s.length + 1) cap)).cell? ⟨Bs, 0, none⟩ = some (.slice (some ⟨g, 0, none⟩) (s.length + 1) cap) ∧ (w4.setCell ⟨Bs, 0, none⟩ (.slice (some ⟨g, 0, none⟩) (s.length + 1) cap)).cell? ⟨g, s.length * 2 + 1, none⟩ = some (.int .i64 0) ∧ w4.frozen? ⟨g, s.length * 2 + 1, none⟩ = false ∧ (w4.setCell ⟨Bs, 0, none⟩ (.slice (some ⟨g, 0, none⟩) (s.length + 1) cap)).frozen? ⟨g, s.length * 2 + 1, none⟩ = false) ∧
    (((w4.setCell ⟨Bs, 0, none⟩ (.slice (some ⟨g, 0, none⟩) (s.length + 1) cap)).setCell ⟨g, s.length * 2 + 1, none⟩ (.int .i64 i)).cell? ⟨Bb, 0, none⟩ = some (.bool false)) ∧
    (StS w D Bb Bs (s ++ [(i, i)], true) (((w4.setCell ⟨Bs, 0, none⟩ (.slice (some ⟨g, 0, none⟩) (s.length + 1) cap)).setCell ⟨g, s.length * 2 + 1, none⟩ (.int .i64 i)).setCell ⟨Bb, 0, none⟩ (.bool true)) ∧
      KeepsOthers W (((w4.setCell ⟨Bs, 0, none⟩ (.slice (some ⟨g, 0, none⟩) (s.length + 1) cap)).setCell ⟨g, s.length * 2 + 1, none⟩ (.int .i64 i)).setCell ⟨Bb, 0, none⟩ (.bool true)) ∧
      KpX D (fun k => k = Bb ∨ k = Bs) W (((w4.setCell ⟨Bs, 0, none⟩ (.slice (some ⟨g, 0, none⟩) (s.length + 1) cap)).setCell ⟨g, s.length * 2 + 1, none⟩ (.int .i64 i)).setCell ⟨Bb, 0, none⟩ (.bool true))) := by
  obtain ⟨hv1, hv2, hr2, hk2, hb2, hB2⟩ := appX (w := w) hv (by decide) hrow hD hs hwD hw hown4 hg4
  have hB1 : Boxed w4 Bb 4 (.bool false) := (hB.alloc tmp).kept hg4 (hB.not_row (by decide) hrow)
  have hB3 : Boxed (w4.setCell ⟨Bs, 0, none⟩ (.slice (some ⟨g, 0, none⟩) (s.length + 1) cap)) Bb 4 (.bool false) := hB1.other hbs _
  have hg := hr2.lt g rfl
  have hfl : flatS s ++ [.int .i64 i, .int .i64 0] = flatS (s ++ [(i, 0)]) := by rw [flatS_app]; rfl
  rw [hfl] at hr2 hown4
  have d4 := hr2.cellAt (s.length * 2 + 1) (by omega)
  rw [flatS_last] at d4
  have d5 := hr2.frozenAt (s.length * 2 + 1)
  obtain ⟨s1, s2⟩ := hr2.stored (s.length * 2 + 1) (.int .i64 i)
  rw [flatS_set] at s1
  have n1 := hB3.not_row (by decide) hr2
  have n2 := hv2.not_row (by decide) hr2
  have hB4 := hB3.kept s2 n1
  refine ⟨⟨hv1.cell, hv1.frozen, hB1.cell, hB1.frozen⟩, ⟨hv2.cell, d4, hown4.frozenAt _, d5⟩, hB4.cell, ⟨⟨_, (hv2.kept s2 n2).kept (grownBy_setCell' _ Bb _) (by simpa using fun e => hbs e.symm), ?_⟩, hB4.set _, by have := hb2.1; simp at this ⊢; omega, (hB2.setCell (p := ⟨g, s.length * 2 + 1, none⟩) (by simp only []; omega) _).setCell (p := ⟨Bb, 0, none⟩) hb _⟩, (hk2.trans (KeepsOthers.setCell _ _ _)).trans (KeepsOthers.setCell _ _ _), ((hb2.mono (fun k hk => .inr hk)).setCell _ (.inr (by simp only []; omega))).setCell _ (.inl (.inl rfl))⟩
  have := s1.kept (grownBy_setCell' _ Bb (.bool true)) (.inr (hB4.not_row (by decide) s1).symm)
  simpa using this
set_option maxHeartbeats 2000000 in
theorem add_tf (w W : World) (D Bb Bs : Nat) (i : Nat) (s : List (Int × Int)) (h : StS w D Bb Bs (s, false) W) (hlen : s.length ≤ 400) (hbs : Bb ≠ Bs) (hb : w.heap.size ≤ Bb) (hs : w.heap.size ≤ Bs) (hwD : w.heap.size ≤ D) :
    Calls Try.prog 42 #[.int .i64 (i : Int), .bool true, .pointer (some ⟨Bb, 0, none⟩), .pointer (some ⟨Bs, 0, none⟩)] W fun e W' => (∃ v, e = .returned v) ∧ StS w D Bb Bs (stp (s, false) (i, true)) W' ∧ KeepsOthers W W' ∧ KpX D (fun k => k = Bb ∨ k = Bs) W W' := by
  obtain ⟨i0, hi0, hz0, hz1, hz2⟩ := info_parts info51
  obtain ⟨⟨v, hv, hrow⟩, hB, hD, hw⟩ := h
  have c0 := hB.cell
  have f0 := hB.frozen
  have c1 := hv.cell
  have e1 : stp (s, false) (i, true) = (s ++ [((i : Int), (i : Int))], true) := rfl
  rw [e1]
  have HV := Lib.hid hv
  have HROW := Lib.hid hrow
  have HB := Lib.hid hB
  have HD := Lib.hid hD
  have HW := Lib.hid hw
  have H3 : Hid (s.length + 1 ≤ maxLen) := Lib.hid (by unfold maxLen; omega)
  have H4 : Hid ((s.length + 1) * 16 ≤ 140737488355328) := Lib.hid (by omega)
  have H5 : Hid (∀ o, D ≤ (W.alloc o).heap.size) := Lib.hid (by intro o; simp; omega)
  have l1 : 0 ≤ (s.length : Int) := by omega
  have l2 : (s.length : Int) ≤ 400 := by omega
  clear hv hrow hB hD hw e1
  go_enter Try.func42, Try.ntmps42
  go_wp2_with (at_builtin; go_loud (refine wpList_append_own _ rfl (.tmp 11) (.tmp 14) 38 rfl D 51 i0 (.agg #[.int .i64 0, .int .i64 0]) 2 16 Try.underlying38 hi0 hz0 hz1 hz2 rfl (by decide) v s.length (flatS s) rfl (HROW.out.alloc _) ⟨W.heap.size, 0, none⟩ 1 1 [.int .i64 (i : Int), .int .i64 0] rfl rfl (cell_two_new _ _ _ _) (by simp [Value.oneCell']) H3.out H4.out (H5.out _) ?_); intro v1 w4 hown4 hg4 _; obtain ⟨g, cap, rfl⟩ := ownsRow_succ hown4; obtain ⟨⟨d1, d2, d3, d4⟩, ⟨d5, d6, d7, d8⟩, d9, hF⟩ := tf_out (w := w) HV.out HROW.out HB.out HD.out HW.out hbs hb hs hwD hown4 hg4; have HF := Lib.hid hF; clear hF hown4 hg4)
  go_end0
  exact ⟨⟨_, rfl⟩, HF.out⟩
theorem add_any (w W : World) (D Bb Bs : Nat) (x : Nat × Bool) (st : List (Int × Int) × Bool) (h : StS w D Bb Bs st W) (hi : st.2 = true → st.1 ≠ []) (hlen : st.1.length ≤ 400) (hbs : Bb ≠ Bs) (hb : w.heap.size ≤ Bb) (hs : w.heap.size ≤ Bs) (hwD : w.heap.size ≤ D) :
    Calls Try.prog 42 #[.int .i64 (x.1 : Int), .bool x.2, .pointer (some ⟨Bb, 0, none⟩), .pointer (some ⟨Bs, 0, none⟩)] W fun e W' => (∃ v, e = .returned v) ∧ StS w D Bb Bs (stp st x) W' ∧ KeepsOthers W W' ∧ KpX D (fun k => k = Bb ∨ k = Bs) W W' := by
  obtain ⟨i, aw⟩ := x
  obtain ⟨s, bf⟩ := st
  cases aw
  · exact add_f w W D Bb Bs i (s, bf) h hbs hb
  · cases bf
    · exact add_tf w W D Bb Bs i s h hlen hbs hb hs hwD
    · exact add_tt w W D Bb Bs i s h (hi rfl) hlen hbs hb hwD
end Go.Proofs.Ytnlbkaabhnkkfaa
