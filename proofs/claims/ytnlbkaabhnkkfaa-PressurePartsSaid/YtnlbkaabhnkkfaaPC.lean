import Derived.Test.YtnlbkaabhnkkfaaP9b
namespace Go.Proofs.Ytnlbkaabhnkkfaa
open Go.RowKit Go.Shelf
attribute [local go_sem] Oper.semAt_some
def OwnP (w : World) (base : Nat) (v : Value) (L : List (Int × Int)) : Prop := w.ownsRow base 51 2 v L.length (flatS L)
/-- the spans of a history -/
def spV (a b c : Int) (l : List Int) : List (Int × Int) := if asE a b c l = 0 then (spF (upto (fun j => (j, gS b c l (j + 1))) l.length)).1 else []
theorem stS_from (w : World) (D D' Bb Bs Bf : Nat) (fv : Value) (hwD : w.heap.size ≤ D') : OwnFrom D' (fun (pre : List (Nat × Bool)) W => StS w D Bb Bs (spF pre) W ∧ Boxed W Bf 64 fv) := fun s A B row hs hg hr => by
  obtain ⟨⟨⟨v, hv, hrow⟩, hB, hD, hw⟩, hf⟩ := hs
  have hne : ∀ {k : Nat} {t : TypeId} {u : Value}, Boxed A k t u → some k ≠ row := fun {k t u} hb e => by
    obtain ⟨_, o, ho, hc⟩ := hr k e.symm
    rw [show A.heap[k]? = _ from hb] at ho
    cases ho
    cases hc
  refine ⟨⟨⟨v, hv.kept hg (hne hv), hrow.kept hg ?_⟩, hB.kept hg (hne hB), Nat.le_trans hD hg.size, ?_⟩, hf.kept hg (hne hf)⟩
  · rcases hrow.2 with ⟨rfl, _⟩ | ⟨g, cap, cur, rfl, _, hgb, _⟩
    · exact .inl rfl
    · refine .inr fun e' => ?_
      obtain ⟨_, o, ho, hc⟩ := hr g (by simpa [Value.ownBlock] using e'.symm)
      rw [hgb] at ho
      cases ho
      cases hc
  · exact hw.grown hg hw.size (fun k e => by have := (hr k e).1; omega)
set_option maxRecDepth 100000 in
set_option maxHeartbeats 4000000 in
theorem Spans_any (a b c : Int) (A : Option Addr) (cap : Nat) (l : List Int) (w : World) (hr : RdI w A l) :
    Calls Try.prog 21 #[mk a b c, .slice A l.length cap] w fun e w' => ∃ v, e = .returned (.tuple #[v, .int .i64 (asE a b c l)]) ∧ OwnP w' w.heap.size v (spV a b c l) ∧ Ev w w' := by
  have H : Hid (∀ W, Ev w W → Calls Try.prog 35 #[mk a b c, .slice A l.length cap] W fun e w' => e = .returned (.int .i64 (asE a b c l)) ∧ Ev W w') := Lib.hid fun W e => chk_any a b c A cap l W (hr.ev e)
  have HB : Hid (∀ W, Ev (w.alloc (mb a b c)) W → (W.cell? ⟨w.heap.size, 0, none⟩ = some (.int .i64 a) ∧ W.cell? ⟨w.heap.size, 1, none⟩ = some (.int .i64 b) ∧ W.cell? ⟨w.heap.size, 2, none⟩ = some (.int .i64 c)) ∧ Ev w W) := Lib.hid fun W e => ⟨by refine ⟨?_, ?_, ?_⟩ <;> (rw [e.cell (by simp)]; simp), ((Ev.refl w).alloc _).step e⟩
  have HA := Lib.hid ((Ev.refl w).alloc (mb a b c))
  have hlen := hr.1
  by_cases h : asE a b c l = 0
  · have hR : spV a b c l = (spF (upto (fun j => (j, gS b c l (j + 1))) l.length)).1 := by unfold spV; rw [if_pos h]
    rw [hR, h]
    rw [h] at H
    have hm := mkE_ok (asE_ok h).1
    have hl4 := (hsE_ok (asE_ok h).2).1
    have HRD := Lib.hid hr
    have HST := Lib.hid fun W => states_any a b c A l.length cap W
    clear h hR hr
    refine (callsIn_wide (n := 9)).1 (callsIn_of_wp_marks Try.func21 rfl trivial ?_ rfl)
    simp only [Try.ntmps21, List.size_toArray, List.length_cons, List.length_nil, Nat.reduceAdd, Nat.reduceSub, Array.replicate_succ, Array.replicate_zero, List.push_toArray, List.append_toArray, List.nil_append, List.cons_append]
    gi_wp2_with fail
    refine ⟨trivial, (callsIn_wide.2 (H.out _ HA.out)).mono ?_⟩
    rintro e w1 ⟨rfl, hev⟩
    obtain ⟨⟨x0, x1, x2⟩, hE⟩ := HB.out _ hev
    have HCE : Hid (∀ o1 o2 o3, ((((w1.alloc o1).alloc o2).alloc o3).cell? ⟨w.heap.size, 0, none⟩ = some (.int .i64 a) ∧ (((w1.alloc o1).alloc o2).alloc o3).cell? ⟨w.heap.size, 1, none⟩ = some (.int .i64 b) ∧ (((w1.alloc o1).alloc o2).alloc o3).cell? ⟨w.heap.size, 2, none⟩ = some (.int .i64 c))) := Lib.hid fun o1 o2 o3 => (HB.out _ (((hev.alloc _).alloc _).alloc _)).1
    have y := HCE.out (.cells #[.slice none 0 0] 38) (.cells #[.bool false] 4) (.cells #[.func (.func 42) #[] #[.pointer (some ⟨w1.heap.size + 1, 0, none⟩), .pointer (some ⟨w1.heap.size, 0, none⟩)]] 64)
    obtain ⟨y0, y1, y2⟩ := y
    gi_wp2_with fail
    refine ⟨trivial, (callsIn_wide.2 (HST.out _)).mono ?_⟩
    rintro e w2 ⟨rfl, rfl⟩
    gi_wp2_with fail
    obtain ⟨fv, hfv⟩ : ∃ fv, fv = Value.func (.func 42) #[] #[.pointer (some ⟨w1.heap.size + 1, 0, none⟩), .pointer (some ⟨w1.heap.size, 0, none⟩)] := ⟨_, rfl⟩
    obtain ⟨W0, hW0⟩ : ∃ W0, W0 = (((((w1.alloc (.cells #[.slice none 0 0] 38)).alloc (.cells #[.bool false] 4)).alloc (.cells #[.func (.func 42) #[] #[.pointer (some ⟨w1.heap.size + 1, 0, none⟩), .pointer (some ⟨w1.heap.size, 0, none⟩)]] 64)).alloc (mb a b c)).alloc (.cells #[.slice A l.length cap] 33)) := ⟨_, rfl⟩
    have z0 : w.heap.size < w1.heap.size := by have := hev.sz; simp at this; omega
    have z1 : w1.heap.size + 1 + 1 + 1 + 1 < W0.heap.size := by rw [hW0]; simp
    have bO : Boxed W0 w1.heap.size 38 (.slice none 0 0) := by rw [hW0]; exact ((((Boxed.new _ _ _).alloc _).alloc _).alloc _).alloc _
    have bB : Boxed W0 (w1.heap.size + 1) 4 (.bool false) := by
      rw [hW0]
      have := Boxed.new (w1.alloc (.cells #[.slice none 0 0] 38)) 4 (.bool false)
      rw [World.size_alloc] at this
      exact ((this.alloc _).alloc _).alloc _
    have bF : Boxed W0 (w1.heap.size + 1 + 1) 64 fv := by
      rw [hW0, hfv]
      have := Boxed.new ((w1.alloc (.cells #[.slice none 0 0] 38)).alloc (.cells #[.bool false] 4)) 64 (.func (.func 42) #[] #[.pointer (some ⟨w1.heap.size + 1, 0, none⟩), .pointer (some ⟨w1.heap.size, 0, none⟩)])
      rw [World.size_alloc, World.size_alloc] at this
      exact (this.alloc _).alloc _
    have hm0 : W0.cell? ⟨w1.heap.size + 1 + 1 + 1, 0, none⟩ = some (.int .i64 a) ∧ W0.cell? ⟨w1.heap.size + 1 + 1 + 1, 1, none⟩ = some (.int .i64 b) ∧ W0.cell? ⟨w1.heap.size + 1 + 1 + 1, 2, none⟩ = some (.int .i64 c) := by
      rw [hW0]
      generalize hX : ((w1.alloc (.cells #[.slice none 0 0] 38)).alloc (.cells #[.bool false] 4)).alloc (.cells #[.func (.func 42) #[] #[.pointer (some ⟨w1.heap.size + 1, 0, none⟩), .pointer (some ⟨w1.heap.size, 0, none⟩)]] 64) = X
      have hsz : X.heap.size = w1.heap.size + 1 + 1 + 1 := by rw [← hX]; simp
      rw [← hsz]
      refine ⟨?_, ?_, ?_⟩ <;> (rw [cellA _ _ _ _ (by simp)]; simp)
    have hh : W0.cell? ⟨w1.heap.size + 1 + 1 + 1 + 1, 0, none⟩ = some (.slice A l.length cap) := by
      rw [hW0]
      generalize hX : (((w1.alloc (.cells #[.slice none 0 0] 38)).alloc (.cells #[.bool false] 4)).alloc (.cells #[.func (.func 42) #[] #[.pointer (some ⟨w1.heap.size + 1, 0, none⟩), .pointer (some ⟨w1.heap.size, 0, none⟩)]] 64)).alloc (mb a b c) = X
      have hsz : X.heap.size = w1.heap.size + 1 + 1 + 1 + 1 := by rw [← hX]; simp
      rw [← hsz]
      exact (Boxed.new X 33 (.slice A l.length cap)).cell
    have hE0 : Ev w W0 := by rw [hW0]; exact ((((hE.alloc _).alloc _).alloc _).alloc _).alloc _
    have hA0 : ∀ j, j < l.length → ∃ bl o, A = some ⟨bl, o, none⟩ ∧ bl < W0.heap.size ∧ ¬ (bl = w1.heap.size + 1 ∨ bl = w1.heap.size) ∧ W0.cell? ⟨bl, o + j, none⟩ = some (.int .i64 (l.getD j 0)) := by
      intro j hj
      obtain ⟨bl, o, h1, h2, h3⟩ := HRD.out.2 j hj
      exact ⟨bl, o, h1, by omega, by omega, by rw [hE0.cell (p := ⟨bl, o + j, none⟩) h2]; exact h3⟩
    rw [← hW0, ← hfv]
    have hwD := hE0.sz
    have HFV := Lib.hid hfv
    clear hW0 x0 x1 x2 y0 y1 y2 hE hev HRD HST H HB HA HCE hfv
    refine wpIn_rangeFunc_ownG rfl (by omega) (gf := 46) (lb := #[.pointer (some ⟨w1.heap.size + 1 + 1 + 1 + 1, 0, none⟩), .pointer (some ⟨w1.heap.size + 1 + 1 + 1, 0, none⟩)]) rfl trivial (enters_of Try.func46 (by kernel_rfl) rfl)
      (it_stops 8 W0.heap.size (fun k => k = w1.heap.size + 1 ∨ k = w1.heap.size) (by omega) a b c l (w1.heap.size + 1 + 1 + 1 + 1) (w1.heap.size + 1 + 1 + 1) A cap W0 hm.2.1 hm.2.2.1 hlen (Nat.le_refl _) (by omega) (by omega) (by omega) (by omega) hA0 hh hm0) (fun h k => h.trans k) (KpX.putObj (Nat.le_refl _)) (Below.refl _ _) (fun _ => rfl)
      (fun (pre : List (Nat × Bool)) W => StS w W0.heap.size (w1.heap.size + 1) w1.heap.size (spF pre) W ∧ Boxed W (w1.heap.size + 1 + 1) 64 fv)
      (fun _ _ _ => False)
      (stS_from _ _ _ _ _ _ _ hwD)
      (fun _ _ _ _ _ hs _ _ => hs)
      ⟨⟨⟨_, bO, World.ownsRow_nil _ _ _ _⟩, bB, Nat.le_refl _, hE0⟩, bF⟩
      (fun (x : Nat × Bool) => { tmps := #[mk a b c, .slice A l.length cap, .pointer (some ⟨w.heap.size, 0, none⟩), undef, .slice none 0 0, .int .i64 0, .int .i64 0, .pointer (some ⟨w1.heap.size, 0, none⟩), .pointer (some ⟨w1.heap.size + 1, 0, none⟩), .pointer (some ⟨w1.heap.size + 1 + 1, 0, none⟩), .int .i64 (x.1 : Int), .bool x.2, .agg #[.int .i64 a, .int .i64 b, .int .i64 c], .slice A l.length cap, .int .i64 0, .int .i64 0, .bool false, undef, fv, .agg #[.int .i64 a, .int .i64 b, .int .i64 c], .slice A l.length cap, .func (.func 46) #[] #[.pointer (some ⟨w1.heap.size + 1 + 1 + 1 + 1, 0, none⟩), .pointer (some ⟨w1.heap.size + 1 + 1 + 1, 0, none⟩)], .int .i64 (x.1 : Int), .bool x.2, undef, undef, undef, undef, undef], defers := [] }) ?assign ?body ?done ?stop
    case assign =>
      intro lp x W K hK
      gi_wp2
      exact hK
    case body =>
      rintro lp pre x W ⟨hS, hF⟩ hlt
      have HADD := Lib.hid (add_any w W W0.heap.size (w1.heap.size + 1) w1.heap.size x (spF pre) hS (spF_inv pre) (by have := spF_len pre; omega) (by omega) (by omega) (by omega) hwD)
      have HB := Lib.hid hF
      rw [HFV.out] at hF
      have hc := hF.cell
      clear hS hF
      gi_wp2_with fail
      refine ⟨trivial, (CallsIn.inRound lp (callsIn_wide.2 HADD.out)).mono ?_⟩
      rintro e W2 ⟨⟨v, rfl⟩, hS, hk, hp⟩
      have HS := Lib.hid hS
      have HK := Lib.hid hk
      have HP := Lib.hid hp
      clear hS hk hp hc
      gi_wp2
      exact ⟨HK.out.from _, HP.out, by rw [spF_snoc]; exact HS.out, (HP.out.2 _ (by omega) (by omega)).trans HB.out⟩
    case done =>
      rintro D ys W hD rfl ⟨⟨⟨v, hv, hrow⟩, hB, hW, hw⟩, hF⟩ hK
      have hc := hv.cell
      gi_wp2
      refine ⟨by simp, .inl ⟨_, _, rfl, run_takeDeferred hK, ?_⟩⟩
      exact ⟨.tuple #[v, .int .i64 0], by simp [results, Try.results21, go_sem], v, rfl, own_weaken (ownsRow_putObj hrow (.deferred none) hK rfl) hwD, hw.trans (belowK_b (w := w) (Nat.le_refl _) W D _ _ (by omega) hK rfl rfl)⟩
    case stop =>
      rintro D c' pre W _ _ h _
      exact h.elim
  · have e : spV a b c l = [] := by unfold spV; rw [if_neg h]
    have h' : (asE a b c l != 0) = true := by simpa using h
    rw [e]
    clear e h hr
    generalize asE a b c l = er at *
    go_enter Try.func21, Try.ntmps21
    go_wp2_with fail
    refine (H.out _ HA.out).mono ?_
    rintro e w1 ⟨rfl, hev⟩
    have hf := HA.out.step hev
    clear hev
    go_wp2_with fail
    go_ret2
    exact ⟨_, rfl, World.ownsRow_nil _ _ _ _, hf⟩
end Go.Proofs.Ytnlbkaabhnkkfaa
