import Derived.Test.YtabojlbodjfphaaS5
import Derived.Sort.CutIn
import Derived.Stop.RegionWithIn
namespace Go.Proofs.Ytabojlbodjfphaa
open Go.RowKit Go.Shelf
attribute [local go_sem] Oper.semAt_some
/-- the number without its lowest bit -/
def clr (v : Nat) : Nat := v &&& (v - 1)
/-- the lowest bit -/
def tz (v : Nat) : Nat := Lib.trailingZeros8 v
def plF (v : Nat) : List (Fin 8) := (List.finRange 8).filter fun p => decide (v / 2 ^ p.1 % 2 = 1)
theorem itF : ∀ v : Fin 256, v.1 ≠ 0 → clr v.1 < v.1 ∧ tz v.1 < 8 ∧ (plF v.1).map (·.1) = tz v.1 :: (plF (clr v.1)).map (·.1) ∧ bits BinOp.and IntKind.u8 (v.1 : Int) ((v.1 : Int) - 1) = (clr v.1 : Int) := by decide +kernel
theorem plF0 : plF 0 = [] := by decide +kernel
theorem map_inj_fin {k : Nat} : ∀ {a b : List (Fin k)}, a.map (·.1) = b.map (·.1) → a = b
  | [], [], _ => rfl
  | x :: a, y :: b, h => by
    simp only [List.map_cons, List.cons.injEq] at h
    rw [Fin.ext h.1, map_inj_fin h.2]
  | [], _ :: _, h => by simp at h
  | _ :: _, [], h => by simp at h
theorem plF_len (v : Nat) : (plF v).length ≤ 8 := by
  have := List.length_filter_le (fun p : Fin 8 => decide (v / 2 ^ p.1 % 2 = 1)) (List.finRange 8)
  simpa [plF] using this
theorem plF_cons {v : Nat} (h : v < 256) (h0 : v ≠ 0) (ht : tz v < 8) : plF v = ⟨tz v, ht⟩ :: plF (clr v) := by
  have := (itF ⟨v, h⟩ h0).2.2.1
  simp only at this
  rcases hl : plF v with _ | ⟨a, l⟩
  · rw [hl] at this; simp at this
  · rw [hl] at this
    simp only [List.map_cons, List.cons.injEq] at this
    obtain ⟨h1, h2⟩ := this
    have e1 : a = ⟨tz v, ht⟩ := Fin.ext h1
    have e2 : l = plF (clr v) := map_inj_fin h2
    rw [e1, e2]
theorem places_any (u : Nat) (w : World) : Calls Try.prog 42 #[.int .u8 (u : Int)] w fun e w' => e = .returned (.func (.func 43) #[] #[.pointer (some ⟨w.heap.size, 0, none⟩)]) ∧ w' = w.alloc (.cells #[.int .u8 (u : Int)] 5) := by
  go_enter Try.func42, Try.ntmps42
  go_wp2
  go_ret
  exact ⟨rfl, rfl⟩
set_option maxRecDepth 100000 in
set_option maxHeartbeats 2000000 in
theorem it_box (n D : Nat) (X : Nat → Prop) (hn : 1 ≤ n) (u : Nat) (hu : u < 256) (U : Nat) (w : World)
    (hU : U < D) (hD : D ≤ w.heap.size) (hX : ¬ X U) (hb : Boxed w U 5 (.int .u8 (u : Int))) :
    BoxSeq Fence.wide n Try.prog 43 #[.pointer (some ⟨U, 0, none⟩)] (fun x : Fin 8 => #[Value.int .i64 (x.1 : Int)]) (KpX D X) U
      (fun ys => ys = plF u) 8 w := fun lp J W hW hJU hJg hY h0 => by
  have hb0 : Boxed W U 5 (.int .u8 (u : Int)) := (Below.block hW U (by omega)).trans hb
  have HJU := Lib.hid hJU
  have HY := Lib.hid hY
  have HTZ : Hid (∀ (v : Nat) W, v < 256 → Calls Try.prog 39 #[.int .u8 (v : Int)] W fun e w' => e = .returned (.int .i64 (tz v : Int)) ∧ w' = W) := Lib.hid fun v W hv => by
    have := Try.bits_TrailingZeros8 (v : Int) W (by omega) (by omega)
    rwa [Int.toNat_natCast] at this
  clear hb hJU hJg hY
  refine callsIn_of_wp Try.func43 rfl trivial ?_ rfl
  simp only [Try.ntmps43, List.size_toArray, List.length_cons, List.length_nil, Nat.reduceAdd, Nat.reduceSub, Array.replicate_succ, Array.replicate_zero, List.push_toArray, List.append_toArray, List.nil_append, List.cons_append]
  gi_wp2
  gi_loopw [] (fun wr => ∃ (pre : List (Fin 8)) (v : Nat), v < 256 ∧ plF u = pre ++ plF v ∧ Boxed wr U 5 (.int .u8 (v : Int)) ∧ J pre wr) (fun wr => match wr.cell? ⟨U, 0, none⟩ with | some (.int _ x) => x.toNat | _ => 0)
  case atStart => exact ⟨[], u, hu, rfl, hb0, h0⟩
  case round =>
    obtain ⟨pre, v, hv, hpl, hbx, hJs⟩ := hrel
    have hc := hbx.cell
    have hf := hbx.frozen
    by_cases h0 : v = 0
    · subst h0
      rw [plF0, List.append_nil] at hpl
      have HP := Lib.hid hpl
      clear hpl
      gi_wp2_with fail
      refine ⟨trivial, ?_⟩
      gi_wp2_with fail
      refine ⟨fun _ h => (by cases h), ?_⟩
      gi_wp2_with fail
      go_end0
      first
        | exact ⟨⟨_, rfl⟩, _, HP.out.symm, hJs⟩
        | (have e := HP.out; rw [e]; exact ⟨⟨_, rfl⟩, hJs⟩)
        | exact ⟨⟨_, rfl⟩, by rw [HP.out]; exact hJs⟩
    · obtain ⟨k1, k2, -, k4⟩ := itF ⟨v, hv⟩ h0
      simp only at k1 k2 k4
      have hpl2 := hpl
      rw [plF_cons hv h0 k2] at hpl2
      have hlen : pre.length < 8 := by have := plF_len u; rw [hpl2] at this; simp at this; omega
      have HPL := Lib.hid hpl2
      obtain ⟨fn, tmps, assign, body, hy, hR⟩ := HY.out pre ⟨tz v, k2⟩ wr hJs hlen
      have HR := Lib.hid hR
      have HB := Lib.hid hbx
      have HT := Lib.hid (HTZ.out v wr hv)
      have hne : ((v : Int) != 0) = true := by simp; omega
      clear hpl hpl2 hJs hR hbx
      gi_wp2_with fail
      refine ⟨trivial, (callsIn_wide.2 HT.out).mono ?_⟩
      rintro e w1 ⟨rfl, rfl⟩
      gi_wp2_with fail
      refine HR.out.mono ?_
      rintro e W3 ⟨rfl, hJ3, hk3⟩
      have hb3 : Boxed W3 U 5 (.int .u8 (v : Int)) := hk3.boxed hU hX HB.out
      have hc3 := hb3.cell
      have hf3 := hb3.frozen
      have HJ4 := Lib.hid (HJU.out _ _ (.int .u8 (clr v : Int)) hJ3)
      have HB4 := Lib.hid (hb3.set (.int .u8 (clr v : Int)))
      clear hJ3 hk3 hb3 hc hf
      gi_wp2_with fail
      refine ⟨⟨pre ++ [⟨tz v, k2⟩], clr v, by omega, by rw [HPL.out]; simp, HB4.out, HJ4.out⟩, ?_⟩
      rw [HB4.out.cell, HB.out.cell]
      simpa using k1
theorem objsF : ∀ u : Fin 256, (plF u.1).map (·.1) = plsN u.1 8 := by decide +kernel
theorem plF_objs (f : Int) {u : Nat} (h : u < 256) : (plF u).map (fun p => f * 8 + (p.1 : Int)) = obK f u 8 := by
  unfold obK
  rw [← objsF ⟨u, h⟩, List.map_map]
  rfl
/-- an append whose run is known, at a step of a region that draws its order, inside a fence -/
theorem stepIn_append {F : Fence} {n : Nat} {P : Program} {ops : Array Oper} {o : Oper} {a : Act} {w w' : World} {K : Act → World → Prop} {Q : Exit → Act → World → Prop} {E : Prop} (hg : o.guard = none) (s x : Operand) (t : TypeId)
    (hop : o.op = Op.call { callee := Callee.builtin Builtin.append, args := #[s, x], argTypes := #[t, t] }) {v v' : Value} {y : Value}
    (hrun : (Builtin.append_ #[t, t] o.type #[v, y]).run P w = .ok v' w') (hs : a.eval s = v) (hx : a.eval x = y) (h : K (a.put o.dst v') w') :
    if Region.wanted o (yielded ops a.tmps) = true then Oper.wpIn F n P o a w K Q else E := by
  have hw : Region.wanted o (yielded ops a.tmps) = true := by simp [Region.wanted, hg]
  rw [if_pos hw]
  unfold Oper.wpIn
  refine ⟨?_, ?_⟩
  · simp [Oper.about, hop, resolve, Target.leads, Sem.run_pure]
  · rw [Oper.semAt_plain F _ _ (by rw [hop]; intro c hc'; cases hc')]
    simp [execOp, hop, resolve, invoke, builtin, hs, hx, hrun, Result.andThen]
    exact h
theorem BS.kp {D : Nat} {X : Nat → Prop} {A B : World} {k : Nat} {f : Int} {u : Nat} (h : KpX D X A B) (hk : k < D) (hx : ¬ X k) (hb : BS A k f u) : BS B k f u := by
  have he := h.2 k hk hx
  obtain ⟨h0, h1, h2, h3, h4⟩ := hb
  have hc : ∀ o, B.cell? ⟨k, o, none⟩ = A.cell? ⟨k, o, none⟩ := fun o => World.cell?_of_block (a := ⟨k, o, none⟩) he
  have hf : ∀ o, B.frozen? ⟨k, o, none⟩ = A.frozen? ⟨k, o, none⟩ := fun o => by unfold World.frozen?; simp only []; rw [he]
  exact ⟨Nat.lt_of_lt_of_le h0 h.1, by rw [hc, h1], by rw [hc, h2], by rw [hf, h3], by rw [hf, h4]⟩
/-- what l holds -/
def StO (w : World) (D Bs : Nat) (f : Int) (s : List (Fin 8)) (W : World) : Prop :=
  (∃ v, Boxed W Bs 32 v ∧ W.ownsRow D 3 1 v (s.map (fun p => f * 8 + (p.1 : Int))).length (IV (s.map (fun p => f * 8 + (p.1 : Int))))) ∧ D ≤ W.heap.size ∧ Below w.heap.size w W
theorem stO_from (w : World) (D D' Bs : Nat) (f : Int) (hwD : w.heap.size ≤ D') : OwnFrom D' (fun (pre : List (Fin 8)) W => StO w D Bs f pre W) := fun s A B row hs hg hr => by
  obtain ⟨⟨v, hv, hrow⟩, hD, hw⟩ := hs
  have hne : ∀ {k : Nat} {t : TypeId} {u : Value}, Boxed A k t u → some k ≠ row := fun {k t u} hb e => by
    obtain ⟨_, o, ho, hc⟩ := hr k e.symm
    rw [show A.heap[k]? = _ from hb] at ho
    cases ho
    cases hc
  refine ⟨⟨v, hv.kept hg (hne hv), hrow.kept hg ?_⟩, Nat.le_trans hD hg.size, ?_⟩
  · rcases hrow.2 with ⟨rfl, _⟩ | ⟨g, cap, cur, rfl, _, hgb, _⟩
    · exact .inl rfl
    · refine .inr fun e' => ?_
      obtain ⟨_, o, ho, hc⟩ := hr g (by simpa [Value.ownBlock] using e'.symm)
      rw [hgb] at ho
      cases ho
      cases hc
  · exact hw.grown hg hw.size (fun k e => by have := (hr k e).1; omega)
theorem stO_setU (w : World) (D Bs U : Nat) (f : Int) (hU : U < D) (hw : w.heap.size ≤ U) (hne : U ≠ Bs) (s : List (Fin 8)) (A : World) (x : Value) (h : StO w D Bs f s A) : StO w D Bs f s (A.setCell ⟨U, 0, none⟩ x) := by
  obtain ⟨⟨v, hv, hrow⟩, hD, hb⟩ := h
  refine ⟨⟨v, (blk_setU x (fun e => hne e.symm)).trans hv, hrow.kept (grownBy_setCell' A U x) (.inr fun e => ?_)⟩, by simpa using hD, hb.setCell (p := ⟨U, 0, none⟩) hw x⟩
  have := row_ge hrow U e
  omega
end Go.Proofs.Ytabojlbodjfphaa
