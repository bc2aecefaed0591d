import Derived.Test.YtnlbkaabhnkkfaaPA
namespace Go.Proofs.Ytnlbkaabhnkkfaa
open Go.RowKit Go.Shelf
attribute [local go_sem] Oper.semAt_some
/-- 'out = append(out, ..)' where the box lies below D and the rows at or beyond it -/
theorem appX {w W w1 : World} {D B : Nat} {t e : TypeId} {size : Nat} {v v' : Value} {k m : Nat} {xs ys : List Value} {tmp : Obj}
    (hv : Boxed W B t v) (hte : t ≠ e) (hrow : W.ownsRow D e size v k xs) (hD : D ≤ W.heap.size) (hwB : w.heap.size ≤ B) (hwD : w.heap.size ≤ D) (hB : Below w.heap.size w W)
    (hown' : w1.ownsRow D e size v' m ys) (hgrow : (W.alloc tmp).grownBy w1 v.ownBlock) :
    Boxed w1 B t v ∧ Boxed (w1.setCell ⟨B, 0, none⟩ v') B t v' ∧ (w1.setCell ⟨B, 0, none⟩ v').ownsRow D e size v' m ys ∧ KeepsOthers W (w1.setCell ⟨B, 0, none⟩ v') ∧ KpX D (fun k => k = B) W (w1.setCell ⟨B, 0, none⟩ v') ∧ Below w.heap.size w (w1.setCell ⟨B, 0, none⟩ v') := by
  have hv1 : Boxed w1 B t v := (hv.alloc tmp).kept hgrow (hv.not_row hte hrow)
  have hge : ∀ j, v.ownBlock = some j → D ≤ j := by
    intro j ej
    rcases hrow.2 with ⟨rfl, _⟩ | ⟨g, cap, cur, rfl, hb, _, _⟩
    · simp [Value.ownBlock] at ej
    · obtain rfl : g = j := by simpa [Value.ownBlock] using ej
      exact hb
  refine ⟨hv1, hv1.set v', hown'.kept (grownBy_setCell' w1 B v') (.inr (hv1.not_row hte hown').symm), ?_, ?_, ?_⟩
  · refine ((KeepsOthers.alloc W tmp).trans (KeepsOthers.of_grownBy hgrow fun j o ej hj => ?_)).trans (KeepsOthers.setCell _ _ _)
    rcases (hrow.alloc tmp).2 with ⟨rfl, _⟩ | ⟨g, cap, cur, rfl, _, hgb, _⟩
    · simp [Value.ownBlock] at ej
    · obtain rfl : g = j := by simpa [Value.ownBlock] using ej
      rw [hgb] at hj; cases hj; rfl
  · have hs := hgrow.size
    have hs2 := (grownBy_setCell' w1 B v').size
    simp at hs
    refine ⟨by omega, fun j h1 h2 => ?_⟩
    rw [(grownBy_setCell' w1 B v').block j (by omega) (fun e => h2 (by cases e; rfl)), hgrow.block j (by simp; omega) (fun e => by have := hge j e.symm; omega)]
    exact Below.heap_alloc W tmp j (by omega)
  · refine ((hB.alloc hB.size tmp).grown hgrow (by have := hB.size; simp; omega) fun j ej => ?_).setCell (p := ⟨B, 0, none⟩) hwB v'
    have := hge j ej
    omega
theorem runV_upto (b c : Int) (l : List Int) : runV b c false l = upto (fun j => gS b c l (j + 1)) l.length := by
  have key : ∀ (r pre : List Int), runV b c (gS b c (pre ++ r) pre.length) r = (List.range r.length).map (fun j => gS b c (pre ++ r) (pre.length + j + 1)) := by
    intro r
    induction r with
    | nil => intro pre; rfl
    | cons x r ih =>
      intro pre
      have hx : (pre ++ x :: r).getD pre.length 0 = x := by simp [List.getD]
      have e1 : nxV b c (gS b c (pre ++ x :: r) pre.length) x = gS b c (pre ++ x :: r) (pre.length + 1) := by
        show _ = nxV b c (gS b c (pre ++ x :: r) pre.length) ((pre ++ x :: r).getD pre.length 0)
        rw [hx]
      have h := ih (pre ++ [x])
      rw [List.append_assoc, List.singleton_append] at h
      simp only [List.length_append, List.length_singleton] at h
      rw [runV, e1, h, List.length_cons, List.range_succ_eq_map, List.map_cons, List.map_map]
      congr 1
      apply List.map_congr_left
      intro j _
      show gS _ _ _ _ = gS _ _ _ _
      congr 1
      (try simp only [Function.comp])
      omega
  have h := key l []
  simp only [List.nil_append, List.length_nil, Nat.zero_add] at h
  exact h
set_option maxRecDepth 100000 in
set_option maxHeartbeats 4000000 in
theorem Run_any (a b c : Int) (A : Option Addr) (cap : Nat) (l : List Int) (w : World) (hr : RdI w A l) :
    Calls Try.prog 19 #[mk a b c, .slice A l.length cap] w fun e w' => ∃ v, e = .returned (.tuple #[v, .int .i64 (asE a b c l)]) ∧ OwnB w' w.heap.size v (rnV a b c l) ∧ Ev w w' := by
  have H : Hid (∀ W, Ev w W → Calls Try.prog 35 #[mk a b c, .slice A l.length cap] W fun e w' => e = .returned (.int .i64 (asE a b c l)) ∧ Ev W w') := Lib.hid fun W e => chk_any a b c A cap l W (hr.ev e)
  have HB : Hid (∀ W, Ev (w.alloc (mb a b c)) W → (W.cell? ⟨w.heap.size, 0, none⟩ = some (.int .i64 a) ∧ W.cell? ⟨w.heap.size, 1, none⟩ = some (.int .i64 b) ∧ W.cell? ⟨w.heap.size, 2, none⟩ = some (.int .i64 c)) ∧ Ev w W) := Lib.hid fun W e => ⟨by refine ⟨?_, ?_, ?_⟩ <;> (rw [e.cell (by simp)]; simp), ((Ev.refl w).alloc _).step e⟩
  have HA := Lib.hid ((Ev.refl w).alloc (mb a b c))
  have hlen := hr.1
  by_cases h : asE a b c l = 0
  · have hR : rnV a b c l = upto (fun j => gS b c l (j + 1)) l.length := by unfold rnV; rw [if_pos h]; exact runV_upto b c l
    rw [hR, h]
    rw [h] at H
    have hm := mkE_ok (asE_ok h).1
    have hl4 := (hsE_ok (asE_ok h).2).1
    obtain ⟨i0, hi0, hz0, hz1, hz2⟩ := info_parts info4
    have HRD := Lib.hid hr
    have HST := Lib.hid fun W => states_any a b c A l.length cap W
    clear h hR hr
    refine (callsIn_wide (n := 9)).1 (callsIn_of_wp_marks Try.func19 rfl trivial ?_ rfl)
    simp only [Try.ntmps19, List.size_toArray, List.length_cons, List.length_nil, Nat.reduceAdd, Nat.reduceSub, Array.replicate_succ, Array.replicate_zero, List.push_toArray, List.append_toArray, List.nil_append, List.cons_append]
    gi_wp2_with fail
    refine ⟨trivial, (callsIn_wide.2 (H.out _ HA.out)).mono ?_⟩
    rintro e w1 ⟨rfl, hev⟩
    obtain ⟨⟨x0, x1, x2⟩, hE⟩ := HB.out _ hev
    have hE2 := hE.alloc (.cells #[.slice none 0 0] 35)
    have y : (w1.alloc (.cells #[.slice none 0 0] 35)).cell? ⟨w.heap.size, 0, none⟩ = some (.int .i64 a) ∧ (w1.alloc (.cells #[.slice none 0 0] 35)).cell? ⟨w.heap.size, 1, none⟩ = some (.int .i64 b) ∧ (w1.alloc (.cells #[.slice none 0 0] 35)).cell? ⟨w.heap.size, 2, none⟩ = some (.int .i64 c) := (HB.out _ (hev.alloc _)).1
    obtain ⟨y0, y1, y2⟩ := y
    gi_wp2_with fail
    refine ⟨trivial, (callsIn_wide.2 (HST.out _)).mono ?_⟩
    rintro e w2 ⟨rfl, rfl⟩
    gi_wp2_with fail
    obtain ⟨W0, hW0⟩ : ∃ W0, W0 = (((w1.alloc (.cells #[.slice none 0 0] 35)).alloc (mb a b c)).alloc (.cells #[.slice A l.length cap] 33)) := ⟨_, rfl⟩
    have z0 : w.heap.size < w1.heap.size := by have := hev.sz; simp at this; omega
    have z1 : w1.heap.size + 1 + 1 < W0.heap.size := by rw [hW0]; simp
    have bO : Boxed W0 w1.heap.size 35 (.slice none 0 0) := by rw [hW0]; exact ((Boxed.new _ _ _).alloc _).alloc _
    have hh : W0.cell? ⟨w1.heap.size + 1 + 1, 0, none⟩ = some (.slice A l.length cap) := by
      rw [hW0]
      have := (Boxed.new ((w1.alloc (.cells #[.slice none 0 0] 35)).alloc (mb a b c)) 33 (.slice A l.length cap)).cell
      simpa using this
    have hm0 : W0.cell? ⟨w1.heap.size + 1, 0, none⟩ = some (.int .i64 a) ∧ W0.cell? ⟨w1.heap.size + 1, 1, none⟩ = some (.int .i64 b) ∧ W0.cell? ⟨w1.heap.size + 1, 2, none⟩ = some (.int .i64 c) := by
      rw [hW0]
      have hsz : (w1.alloc (.cells #[.slice none 0 0] 35)).heap.size = w1.heap.size + 1 := by simp
      rw [← hsz]
      refine ⟨?_, ?_, ?_⟩ <;> (rw [cellA _ _ _ _ (by simp)]; simp)
    have hE0 : Ev w W0 := by rw [hW0]; exact ((hE.alloc _).alloc _).alloc _
    have hA0 : ∀ j, j < l.length → ∃ bl o, A = some ⟨bl, o, none⟩ ∧ bl < W0.heap.size ∧ ¬ bl = w1.heap.size ∧ W0.cell? ⟨bl, o + j, none⟩ = some (.int .i64 (l.getD j 0)) := by
      intro j hj
      obtain ⟨bl, o, h1, h2, h3⟩ := HRD.out.2 j hj
      exact ⟨bl, o, h1, by omega, by omega, by rw [hE0.cell (p := ⟨bl, o + j, none⟩) h2]; exact h3⟩
    rw [← hW0]
    have hwD := hE0.sz
    clear hW0 x0 x1 x2 y0 y1 y2 hE2 hE hev HRD HST H HB HA
    refine wpIn_rangeFunc_ownG rfl (by omega) (gf := 46) (lb := #[.pointer (some ⟨w1.heap.size + 1 + 1, 0, none⟩), .pointer (some ⟨w1.heap.size + 1, 0, none⟩)]) rfl trivial (enters_of Try.func46 (by kernel_rfl) rfl)
      (it_stops 8 W0.heap.size (fun k => k = w1.heap.size) (by omega) a b c l (w1.heap.size + 1 + 1) (w1.heap.size + 1) A cap W0 hm.2.1 hm.2.2.1 hlen (Nat.le_refl _) (by omega) (by omega) (by omega) (by omega) hA0 hh hm0) (fun h k => h.trans k) (KpX.putObj (Nat.le_refl _)) (Below.refl _ _) (fun _ => rfl)
      (fun (pre : List (Nat × Bool)) W => ((∃ v, Boxed W w1.heap.size 35 v ∧ W.ownsRow W0.heap.size 4 1 v pre.length (pre.map fun x => Value.bool x.2) ∧ True) ∧ W0.heap.size ≤ W.heap.size) ∧ Below w.heap.size w W)
      (fun _ _ _ => False)
      (OwnFrom.and (OwnFrom.and (Own.from (holdsRow_own W0.heap.size w1.heap.size 35 4 1 (fun pre : List (Nat × Bool) => pre.length) (fun pre : List (Nat × Bool) => pre.map fun x => Value.bool x.2) (fun _ _ => True)) _) (fun s A B row hs hg _ => Nat.le_trans hs hg.size)) (ownFrom_below (Nat.le_refl _) hwD))
      (fun _ _ _ _ _ hs _ _ => hs)
      ⟨⟨⟨_, bO, World.ownsRow_nil _ _ _ _, trivial⟩, Nat.le_refl _⟩, hE0⟩
      (fun (x : Nat × Bool) => { tmps := #[mk a b c, .slice A l.length cap, .pointer (some ⟨w.heap.size, 0, none⟩), undef, .slice none 0 0, .int .i64 0, .int .i64 0, .pointer (some ⟨w1.heap.size, 0, none⟩), undef, .bool x.2, .agg #[.int .i64 a, .int .i64 b, .int .i64 c], .slice A l.length cap, .int .i64 0, .int .i64 0, .bool false, undef, .agg #[.int .i64 a, .int .i64 b, .int .i64 c], .slice A l.length cap, .func (.func 46) #[] #[.pointer (some ⟨w1.heap.size + 1 + 1, 0, none⟩), .pointer (some ⟨w1.heap.size + 1, 0, none⟩)], .int .i64 (x.1 : Int), .bool x.2, undef, undef, undef, undef, undef], defers := [] }) ?assign ?body ?done ?stop
    case assign =>
      intro lp x W K hK
      gi_wp2
      exact hK
    case body =>
      rintro lp pre x W ⟨⟨⟨v, hv, hrow, -⟩, hW⟩, hB⟩ hlt
      have hc := hv.cell
      gi_wp2_with (gi_at_builtin; refine wpListIn_append_own _ rfl _ _ 35 rfl W0.heap.size 4 i0 (.bool false) 1 1 Try.underlying35 hi0 hz0 hz1 hz2 rfl (by decide) _ _ _ rfl (hrow.alloc _) ⟨W.heap.size, 0, none⟩ 1 1 [.bool x.2] rfl rfl (cell_one_new _ _ _) (by simp [Value.oneCell']) (by unfold maxLen; omega) (by omega) (by simp; omega) ?_; intro v' w1' hown' hgrow _; obtain ⟨g', cap', rfl⟩ := ownsRow_succ hown'; obtain ⟨hv1, hv2, hr2, hk2, hb2, hB2⟩ := appX (w := w) hv (by decide) hrow hW (by omega) (by omega) hB hown' hgrow; have hc1 := hv1.cell; have hf1 := hv1.frozen)
      exact ⟨hk2.from _, hb2, ⟨⟨_, hv2, by simpa using hr2, trivial⟩, Nat.le_trans hW hb2.1⟩, hB2⟩
    case done =>
      rintro D ys W hD rfl ⟨⟨⟨v, hv, hrow, -⟩, hW⟩, hB⟩ hK
      have hc := hv.cell
      gi_wp2
      refine ⟨by simp, .inl ⟨_, _, rfl, run_takeDeferred hK, ?_⟩⟩
      refine ⟨.tuple #[v, .int .i64 0], by simp [results, Try.results19, go_sem], v, rfl, ?_, hB.trans (belowK_b (w := w) (Nat.le_refl _) W D _ _ (by omega) hK rfl rfl)⟩
      have h1 := own_weaken (ownsRow_putObj hrow (.deferred none) hK rfl) hwD
      have e1 : ((upto (fun j => (j, gS b c l (j + 1))) l.length).map fun x => Value.bool x.2) = (upto (fun j => gS b c l (j + 1)) l.length).map Value.bool := by unfold upto; rw [List.map_map, List.map_map]; rfl
      rw [e1, upto_length] at h1
      unfold OwnB
      rw [upto_length]
      exact h1
    case stop =>
      rintro D c' pre W _ _ h _
      exact h.elim
  · have e : rnV a b c l = [] := by unfold rnV; rw [if_neg h]
    have h' : (asE a b c l != 0) = true := by simpa using h
    rw [e]
    clear e h hr
    generalize asE a b c l = er at *
    go_enter Try.func19, Try.ntmps19
    go_wp2_with fail
    refine (H.out _ HA.out).mono ?_
    rintro e w1 ⟨rfl, hev⟩
    have hf := HA.out.step hev
    clear hev
    go_wp2_with fail
    go_ret2
    exact ⟨_, rfl, World.ownsRow_nil _ _ _ _, hf⟩
end Go.Proofs.Ytnlbkaabhnkkfaa
