import Derived.Test.YtpgghbabhgfchaaA3
import Derived.Sort.CutIn
namespace Go.Proofs.Ytpgghbabhgfchaa
open Go.RowKit Go.Shelf
attribute [local go_sem] Oper.semAt_some
def OwnP (w : World) (base : Nat) (v : Value) (L : List (Int × Int)) : Prop := w.ownsRow base 30 2 v L.length (flatS L)
theorem cellA (w : World) (o : Obj) (b i : Nat) (h : b < w.heap.size) : (w.alloc o).cell? ⟨b, i, none⟩ = w.cell? ⟨b, i, none⟩ := (bc (al1 w o)).1 b i h
set_option maxRecDepth 100000 in
set_option maxHeartbeats 4000000 in
theorem Pieces_ok (f t : Nat) (hft : f ≤ t) (ht : t < 64) (w : World) :
    Calls Try.prog 17 #[rg f t] w fun e w' => ∃ v, e = .returned (.tuple #[v, .int .i64 0]) ∧ OwnP w' w.heap.size v (pcF (upto (pgN f) (t - f + 1))) ∧ Ev w w' := by
  have H : Hid (∀ W, Ev w W → Calls Try.prog 19 #[rg f t] W fun e w' => e = .returned (.int .i64 0) ∧ Ev W w') := Lib.hid fun W _ => check_ok f t W (by omega)
  have HB : Hid (∀ W, Ev (w.alloc (.cells #[.int .i64 f, .int .i64 t] 30)) W → (W.cell? ⟨w.heap.size, 0, none⟩ = some (.int .i64 f) ∧ W.cell? ⟨w.heap.size, 1, none⟩ = some (.int .i64 t)) ∧ Ev w W) := Lib.hid fun W e => ⟨by refine ⟨?_, ?_⟩ <;> (rw [e.cell (by simp)]; simp), ((Ev.refl w).alloc _).step e⟩
  have HA := Lib.hid ((Ev.refl w).alloc (.cells #[.int .i64 f, .int .i64 t] 30))
  obtain ⟨i0, hi0, hz0, hz1, hz2⟩ := info_parts info30
  have HST := Lib.hid fun W => pages_any f t W
  have HLF : Hid (∀ (x : Fin 64) W, Calls Try.prog 31 #[.int .i64 (x.1 : Int)] W fun e w' => e = .returned (.int .i64 ((x.1 : Int) / 8)) ∧ W = w') := Lib.hid fun x W => leafOf_any _ W (by omega) (by have := x.2; omega)
  refine (callsIn_wide (n := 9)).1 (callsIn_of_wp_marks Try.func17 rfl trivial ?_ rfl)
  simp only [Try.ntmps17, List.size_toArray, List.length_cons, List.length_nil, Nat.reduceAdd, Nat.reduceSub, Array.replicate_succ, Array.replicate_zero, List.push_toArray, List.append_toArray, List.nil_append, List.cons_append]
  gi_wp2_with fail
  refine ⟨trivial, (callsIn_wide.2 (H.out _ HA.out)).mono ?_⟩
  rintro e w1 ⟨rfl, hev⟩
  obtain ⟨⟨x0, x1⟩, hE⟩ := HB.out _ hev
  have y : (w1.alloc (.cells #[.slice none 0 0] 31)).cell? ⟨w.heap.size, 0, none⟩ = some (.int .i64 f) ∧ (w1.alloc (.cells #[.slice none 0 0] 31)).cell? ⟨w.heap.size, 1, none⟩ = some (.int .i64 t) := (HB.out _ (hev.alloc _)).1
  obtain ⟨y0, y1⟩ := y
  gi_wp2_with fail
  refine ⟨trivial, (callsIn_wide.2 (HST.out _)).mono ?_⟩
  rintro e w2 ⟨rfl, rfl⟩
  gi_wp2_with fail
  obtain ⟨W0, hW0⟩ : ∃ W0, W0 = (w1.alloc (.cells #[.slice none 0 0] 31)).alloc (.cells #[.int .i64 f, .int .i64 t] 30) := ⟨_, rfl⟩
  have z0 : w.heap.size < w1.heap.size := by have := hev.sz; simp at this; omega
  have z1 : w1.heap.size + 1 < W0.heap.size := by rw [hW0]; simp
  have bO : Boxed W0 w1.heap.size 31 (.slice none 0 0) := by rw [hW0]; exact (Boxed.new _ _ _).alloc _
  have hm0 : W0.cell? ⟨w1.heap.size + 1, 0, none⟩ = some (.int .i64 f) ∧ W0.cell? ⟨w1.heap.size + 1, 1, none⟩ = some (.int .i64 t) := by
    rw [hW0]
    have hsz : (w1.alloc (.cells #[.slice none 0 0] 31)).heap.size = w1.heap.size + 1 := by simp
    rw [← hsz]
    exact ⟨by simp, by simp⟩
  have hE0 : Ev w W0 := by rw [hW0]; exact (hE.alloc _).alloc _
  rw [← hW0]
  have hwD := hE0.sz
  clear hW0 x0 x1 y0 y1 hE hev HST H HB HA
  refine wpIn_rangeFunc_ownG rfl (by omega) (gf := 33) (lb := #[.pointer (some ⟨w1.heap.size + 1, 0, none⟩)]) rfl trivial (enters_of Try.func33 (by kernel_rfl) rfl)
    (it_stops 8 W0.heap.size (fun k => k = w1.heap.size) (by omega) f t hft ht (w1.heap.size + 1) W0 (Nat.le_refl _) (by omega) (by omega) hm0) (fun h k => h.trans k) (KpX.putObj (Nat.le_refl _)) (Below.refl _ _) (fun _ => rfl)
    (fun (pre : List (Fin 64)) W => StP w W0.heap.size w1.heap.size (pcF pre) W)
    (fun _ _ _ => False)
    (stP_from _ _ _ _ hwD)
    (fun _ _ _ _ _ hs _ _ => hs)
    ⟨⟨_, bO, World.ownsRow_nil _ _ _ _⟩, Nat.le_refl _, hE0⟩
    (fun (x : Fin 64) => { tmps := #[rg f t, .pointer (some ⟨w.heap.size, 0, none⟩), .slice none 0 0, .int .i64 0, .int .i64 0, .pointer (some ⟨w1.heap.size, 0, none⟩), .int .i64 (x.1 : Int), undef, .agg #[.int .i64 f, .int .i64 t], .int .i64 0, .int .i64 0, .bool false, undef, .agg #[.int .i64 f, .int .i64 t], .func (.func 33) #[] #[.pointer (some ⟨w1.heap.size + 1, 0, none⟩)], .int .i64 (x.1 : Int), undef, undef, undef, undef, undef, undef, undef, undef, undef, undef, undef, undef, undef, undef, undef, undef, undef, undef, undef, undef, undef, undef, undef, undef, undef, undef, undef, undef], defers := [] }) ?assign ?body ?done ?stop
  case assign =>
    intro lp x W K hK
    gi_wp2
    exact hK
  case body =>
    rintro lp pre x W ⟨⟨v, hv, hrow⟩, hW, hB⟩ hlt
    have hlen := (pcF_bd pre).2
    have hbd := (pcF_bd pre).1
    have hx := x.2
    have hp := pcF_snoc pre x
    have hc := hv.cell
    rcases List.eq_nil_or_concat (pcF pre) with hs | ⟨r, ⟨a, b⟩, hs⟩
    · rw [hs] at hrow
      rw [hs, pst_nil] at hp
      have HP := Lib.hid hp
      clear hp
      have hform : ∃ A cap, v = .slice A 0 cap := by
        rcases hrow.2 with ⟨h1, _⟩ | ⟨g, cap, cur, h1, _⟩
        · exact ⟨_, _, h1⟩
        · exact ⟨_, _, h1⟩
      obtain ⟨A0, cap0, hform⟩ := hform
      have HV := Lib.hid hform
      have HC := Lib.hid hc
      have hcL := hc
      rw [hform] at hcL
      clear hbd hform hc
      have H3 : Hid (([] : List (Int × Int)).length + 1 ≤ maxLen) := Lib.hid (by unfold maxLen; simp)
      have H4 : Hid ((([] : List (Int × Int)).length + 1) * 16 ≤ 140737488355328) := Lib.hid (by simp)
      gi_upto_region 10 with fail
      refine ⟨trivial, ?_⟩
      gi_upto_region 10 with fail
      refine ⟨trivial, ?_⟩
      gi_upto_region 10 with fail
      rw [← HV.out]
      have hc := HC.out
      clear hcL
      gi_wp2_with (gi_at_builtin; go_loud (refine wpListIn_append_own _ rfl _ _ 31 rfl W0.heap.size 30 i0 (.agg #[.int .i64 0, .int .i64 0]) 2 16 Try.underlying31 hi0 hz0 hz1 hz2 rfl (by decide) _ _ _ rfl (hrow.alloc _) ⟨W.heap.size, 0, none⟩ 1 1 [.int .i64 (x.1 : Int), .int .i64 (x.1 : Int)] rfl rfl (cell_two_new _ _ _ _) (by simp [Value.oneCell']) H3.out H4.out (by simp; omega) ?_); intro v' w1' hown' hgrow _; obtain ⟨g', cap', rfl⟩ := ownsRow_succ hown'; obtain ⟨hv1, hv2, hr2, hk2, hb2, hB2⟩ := appX (w := w) hv (by decide) hrow hW (by omega) (by omega) hB hown' hgrow; have hc1 := hv1.cell; have hf1 := hv1.frozen)
      exact ⟨hk2.from _, hb2, by show StP _ _ _ (pcF (pre ++ [x])) _; rw [HP.out]; exact ⟨⟨_, hv2, by simpa [flatS] using hr2⟩, Nat.le_trans hW hb2.1, hB2⟩⟩
    · rw [List.concat_eq_append] at hs
      rw [hs] at hrow hlen
      rw [hs, pst_one] at hp
      have hb := hbd (a, b) (by rw [hs]; simp)
      simp only at hb
      clear hbd hs
      simp only [List.length_append, List.length_singleton] at hrow hlen
      obtain ⟨g, cap, hveq⟩ := ownsRow_succ hrow
      have hg := hrow.lt g (by rw [hveq]; rfl)
      have HV := Lib.hid hveq
      have HC := Lib.hid hc
      have hcL := hc
      rw [hveq] at hcL
      clear hc
      have c2 : W.cell? ⟨g, r.length * 2 + 1, none⟩ = some (.int .i64 b) := by
        have hr' := hrow
        rw [hveq] at hr'
        have c2 := hr'.cellAt (r.length * 2 + 1) (by omega)
        rw [flatS_last] at c2
        exact c2
      have f2 : W.frozen? ⟨g, r.length * 2 + 1, none⟩ = false := by
        have hr' := hrow
        rw [hveq] at hr'
        exact hr'.frozenAt (r.length * 2 + 1)
      have LB := Lib.hid (leafOf_any b W hb.1 (by omega))
      have LX := Lib.hid (HLF.out x W)
      have l1 : 0 ≤ (r.length : Int) := by omega
      have l2 : (r.length : Int) ≤ 400 := by omega
      by_cases hbx : b / 8 = (x.1 : Int) / 8
      · rw [if_pos hbx] at hp
        have HP := Lib.hid hp
        clear hp
        have hrow2 := hrow
        rw [hveq] at hrow2
        obtain ⟨s1, s2⟩ := hrow2.stored (r.length * 2 + 1) (.int .i64 (x.1 : Int))
        rw [flatS_set] at s1
        have n2 : some w1.heap.size ≠ some g := by
          have := hv.not_row (by decide) hrow
          rw [hveq] at this
          simpa [Value.ownBlock] using this
        have HF : Hid (KeepsOthers W (W.setCell ⟨g, r.length * 2 + 1, none⟩ (.int .i64 (x.1 : Int))) ∧ KpX W0.heap.size (fun k => k = w1.heap.size) W (W.setCell ⟨g, r.length * 2 + 1, none⟩ (.int .i64 (x.1 : Int))) ∧ StP w W0.heap.size w1.heap.size (r ++ [(a, (x.1 : Int))]) (W.setCell ⟨g, r.length * 2 + 1, none⟩ (.int .i64 (x.1 : Int)))) := Lib.hid ⟨KeepsOthers.setCell _ _ _, (KpX.refl _ _ _).setCell _ (.inr (by simp only []; omega)), ⟨_, hv.kept s2 n2, by rw [hveq]; simpa using s1⟩, by simpa using hW, hB.setCell (p := ⟨g, r.length * 2 + 1, none⟩) (by simp only []; omega) _⟩
        clear s1 s2 n2 hrow hrow2 hv hB hveq
        rw [hbx] at LB
        clear hbx
        gi_wp2_with fail
        refine ⟨trivial, (CallsIn.inRound lp (callsIn_wide.2 LB.out)).mono ?_⟩
        rintro e W' ⟨rfl, rfl⟩
        gi_wp2_with fail
        refine ⟨trivial, (CallsIn.inRound lp (callsIn_wide.2 LX.out)).mono ?_⟩
        rintro e W' ⟨rfl, rfl⟩
        gi_wp2
        exact ⟨HF.out.1.from _, HF.out.2.1, by show StP _ _ _ (pcF (pre ++ [x])) _; rw [HP.out]; exact HF.out.2.2⟩
      · rw [if_neg hbx] at hp
        have HP := Lib.hid hp
        have hbx' : (b / 8 == (x.1 : Int) / 8) = false := by simpa using hbx
        have H3 : Hid (r.length + 1 + 1 ≤ maxLen) := Lib.hid (by unfold maxLen; omega)
        have H4 : Hid ((r.length + 1 + 1) * 16 ≤ 140737488355328) := Lib.hid (by omega)
        clear hp hbx hveq
        gi_wp2_with fail
        refine ⟨trivial, (CallsIn.inRound lp (callsIn_wide.2 LB.out)).mono ?_⟩
        rintro e W' ⟨rfl, rfl⟩
        gi_wp2_with fail
        refine ⟨trivial, (CallsIn.inRound lp (callsIn_wide.2 LX.out)).mono ?_⟩
        rintro e W' ⟨rfl, rfl⟩
        gi_upto_region 10 with fail
        rw [← HV.out]
        have hc := HC.out
        clear hcL
        gi_wp2_with (gi_at_builtin; go_loud (refine wpListIn_append_own _ rfl _ _ 31 rfl W0.heap.size 30 i0 (.agg #[.int .i64 0, .int .i64 0]) 2 16 Try.underlying31 hi0 hz0 hz1 hz2 rfl (by decide) _ _ _ rfl (hrow.alloc _) ⟨W.heap.size, 0, none⟩ 1 1 [.int .i64 (x.1 : Int), .int .i64 (x.1 : Int)] rfl rfl (cell_two_new _ _ _ _) (by simp [Value.oneCell']) H3.out H4.out (by simp; omega) ?_); intro v' w1' hown' hgrow _; obtain ⟨g', cap', rfl⟩ := ownsRow_succ hown'; obtain ⟨hv1, hv2, hr2, hk2, hb2, hB2⟩ := appX (w := w) hv (by decide) hrow hW (by omega) (by omega) hB hown' hgrow; have hc1 := hv1.cell; have hf1 := hv1.frozen)
        exact ⟨hk2.from _, hb2, by show StP _ _ _ (pcF (pre ++ [x])) _; rw [HP.out]; exact ⟨⟨_, hv2, by simpa [flatS, flatS_app] using hr2⟩, Nat.le_trans hW hb2.1, hB2⟩⟩
  case done =>
    rintro D ys W hD rfl ⟨⟨v, hv, hrow⟩, hW, hB⟩ hK
    have hc := hv.cell
    gi_wp2
    refine ⟨by simp, .inl ⟨_, _, rfl, run_takeDeferred hK, ?_⟩⟩
    exact ⟨.tuple #[v, .int .i64 0], by simp [results, Try.results17, go_sem], v, rfl, own_weaken (ownsRow_putObj hrow (.deferred none) hK rfl) hwD, hB.trans (belowK_b (w := w) (Nat.le_refl _) W D _ _ (by omega) hK rfl rfl)⟩
  case stop =>
    rintro D c' pre W _ _ h _
    exact h.elim
end Go.Proofs.Ytpgghbabhgfchaa
