import Derived.Test.YtnlbkaabhnkkfaaP5
import Derived.OwnWalk
import Derived.Laws.AppendOwn
namespace Go.Proofs.Ytnlbkaabhnkkfaa
open Go.RowKit
theorem own_below {w w' : World} {base : Nat} {e : TypeId} {size : Nat} {v : Value} {n : Nat} {xs : List Value} (h : w.ownsRow base e size v n xs) (hb : Below w.heap.size w w') : w'.ownsRow base e size v n xs :=
  h.kept (row := none) ⟨hb.os, hb.tape, hb.output, hb.size, fun i hi _ => hb.block i hi⟩ (by cases hv : v.ownBlock <;> simp)
theorem Ev.own {w w' : World} {base : Nat} {e : TypeId} {size : Nat} {v : Value} {n : Nat} {xs : List Value} (h : Ev w w') (ho : w.ownsRow base e size v n xs) : w'.ownsRow base e size v n xs := own_below ho h
theorem one_cell (w : World) (x : Value) (T : TypeId) : ∀ j u, [x][j]? = some u → (w.alloc (.cells #[x] T)).cell? ((⟨w.heap.size, 0, none⟩ : Addr).add j) = some u := by
  intro j u h
  rcases j with _ | j
  · simp at h
    subst h
    simp [Addr.add]
  · simp at h
theorem info4 : (Try.prog.info? 4).map (fun i => (i.zero, i.size, i.bytes)) = some (some (.bool false), 1, 1) := by kernel_rfl
theorem runV_drop (b c : Int) (aw : Bool) (l : List Int) (j : Nat) (h : j < l.length) : runV b c aw (l.drop j) = nxV b c aw (l.getD j 0) :: runV b c (nxV b c aw (l.getD j 0)) (l.drop (j + 1)) := by
  rw [List.drop_eq_getElem_cons h, runV]
  simp [List.getD, h]
theorem own_weaken {w : World} {base base' : Nat} {e : TypeId} {size : Nat} {v : Value} {n : Nat} {xs : List Value} (h : w.ownsRow base e size v n xs) (hb : base' ≤ base) : w.ownsRow base' e size v n xs := by
  refine ⟨h.1, ?_⟩
  rcases h.2 with h0 | ⟨g, cap, cur, h1, h2, h3⟩
  · exact .inl h0
  · exact .inr ⟨g, cap, cur, h1, by omega, h3⟩
theorem Ev.grown {w W W' : World} {row : Option Nat} (h : Ev w W) (hg : W.grownBy W' row) (hr : ∀ k, row = some k → w.heap.size ≤ k) : Ev w W' := Below.grown h hg h.sz hr
def OwnB (w : World) (base : Nat) (v : Value) (L : List Bool) : Prop := w.ownsRow base 4 1 v L.length (L.map Value.bool)
def rnV (a b c : Int) (l : List Int) : List Bool := if asE a b c l = 0 then runV b c false l else []
set_option maxHeartbeats 2000000 in
theorem rRun_any (a b c : Int) (A : Option Addr) (cap : Nat) (l : List Int) (w : World) (hr : RdI w A l) :
    Calls Try.prog 20 #[mk a b c, .slice A l.length cap] w fun e w' => ∃ v, e = .returned (.tuple #[v, .int .i64 (asE a b c l)]) ∧ OwnB w' w.heap.size v (rnV a b c l) ∧ Ev w w' := by
  have H : Hid (∀ W, Ev w W → Calls Try.prog 37 #[mk a b c, .slice A l.length cap] W fun e w' => e = .returned (.int .i64 (asE a b c l)) ∧ Ev W w') := Lib.hid fun W e => asks_any a b c A cap l W (hr.ev e)
  have HB : Hid (∀ W, Ev (w.alloc (mb a b c)) W → (W.cell? ⟨w.heap.size, 0, none⟩ = some (.int .i64 a) ∧ W.cell? ⟨w.heap.size, 1, none⟩ = some (.int .i64 b) ∧ W.cell? ⟨w.heap.size, 2, none⟩ = some (.int .i64 c)) ∧ Ev w W) := Lib.hid fun W e => ⟨by refine ⟨?_, ?_, ?_⟩ <;> (rw [e.cell (by simp)]; simp), ((Ev.refl w).alloc _).step e⟩
  have HA := Lib.hid ((Ev.refl w).alloc (mb a b c))
  have hlen := hr.1
  by_cases h : asE a b c l = 0
  · obtain ⟨R, hR⟩ : ∃ R, R = rnV a b c l := ⟨_, rfl⟩
    rw [← hR, h]
    rw [h] at H
    have HR : Hid (R = runV b c false l) := Lib.hid (by rw [hR]; unfold rnV; rw [if_pos h])
    have hm := mkE_ok (asE_ok h).1
    have H2 : Hid (∀ x aw W, Calls Try.prog 40 #[mk a b c, .bool aw, .int .i64 x] W fun e w' => e = .returned (.bool (nxV b c aw x)) ∧ Ev W w') := Lib.hid fun x aw W => rnext1_any a b c x aw W (by omega)
    have hl4 := (hsE_ok (asE_ok h).2).1
    obtain ⟨i0, hi0, hz0, hz1, hz2⟩ := info_parts info4
    have HRD := Lib.hid hr
    clear h hR hm hr
    go_enter Try.func20, Try.ntmps20
    go_wp2_with fail
    refine (H.out _ HA.out).mono ?_
    rintro e w1 ⟨rfl, hev⟩
    have HE := Lib.hid hev
    clear hev
    go_wp2_with fail
    go_loopw [7, 8, 9] (fun v aw i wr => ∃ (j : Nat) (pre : List Bool) (awv : Bool), j ≤ l.length ∧ i = .int .i64 j ∧ aw = .bool awv ∧ wr.ownsRow (w.heap.size + 1) 4 1 v pre.length (pre.map Value.bool) ∧ pre.length = j ∧ pre ++ runV b c awv (l.drop j) = R ∧ Ev (w.alloc (mb a b c)) wr) (fun _ _ i _ => l.length - (intOf i).toNat)
    case atStart => exact ⟨0, [], false, by omega, rfl, rfl, World.ownsRow_nil _ _ _ _, rfl, HR.out.symm, HE.out⟩
    case round =>
      obtain ⟨j, pre, awv, hj, rfl, rfl, hown, hpl, hx, hev⟩ := hrel
      obtain ⟨⟨x0, x1, x2⟩, hE⟩ := HB.out _ hev
      by_cases hlt : j < l.length
      · rw [runV_drop b c awv l j hlt] at hx
        obtain ⟨b', o, rfl, hb, c1⟩ := (HRD.out.ev hE).2 j hlt
        generalize l.getD j 0 = x at *
        have HX := Lib.hid hx
        have HOWN := Lib.hid hown
        have HPL := Lib.hid hpl
        have HEV := Lib.hid hev
        have hlt' : (j : Int) < (l.length : Int) := by omega
        have hj0 : 0 ≤ (j : Int) := by omega
        have HC : Hid (∀ W, Ev wr W → Calls Try.prog 40 #[mk a b c, .bool awv, .int .i64 x] W fun e w' => e = .returned (.bool (nxV b c awv x)) ∧ Ev wr w') := Lib.hid fun W e => (H2.out x awv W).mono fun _ _ hh => ⟨hh.1, e.step hh.2⟩
        generalize nxV b c awv x = nv at *
        have HS : Hid (∀ W, Ev wr W → ((W.cell? ⟨w.heap.size, 0, none⟩ = some (.int .i64 a) ∧ W.cell? ⟨w.heap.size, 1, none⟩ = some (.int .i64 b) ∧ W.cell? ⟨w.heap.size, 2, none⟩ = some (.int .i64 c)) ∧ W.cell? ⟨b', o + j, none⟩ = some (.int .i64 x)) ∧ Ev wr W) := Lib.hid fun W e => ⟨⟨(HB.out _ (HEV.out.step e)).1, by rw [e.cell (p := ⟨b', o + j, none⟩) hb]; exact c1⟩, e⟩
        clear hx hown hpl hev hE
        go_wp2_with fail
        have hev := Ev.refl wr
        go_region_held3 (fun w' => ((w'.cell? ⟨w.heap.size, 0, none⟩ = some (.int .i64 a) ∧ w'.cell? ⟨w.heap.size, 1, none⟩ = some (.int .i64 b) ∧ w'.cell? ⟨w.heap.size, 2, none⟩ = some (.int .i64 c)) ∧ w'.cell? ⟨b', o + j, none⟩ = some (.int .i64 x)) ∧ Ev wr w')
          (first | with_reducible exact HS.out _ (by with_reducible assumption) | with_reducible exact HS.out _ (Ev.drew (by with_reducible assumption)))
          (first | (go_at_call 40; refine (HC.out _ (by first | assumption | exact Ev.drew (by with_reducible assumption))).mono ?_; clear hev; rintro e w' ⟨rfl, hev⟩))
        have HO2 := Lib.hid (hev.own HOWN.out)
        have HE2 := Lib.hid (HEV.out.step hev)
        have H3 : Hid (pre.length + 1 ≤ maxLen) := Lib.hid (by rw [HPL.out]; unfold maxLen; omega)
        have H4 : Hid ((pre.length + 1) * 1 ≤ 140737488355328) := Lib.hid (by rw [HPL.out]; omega)
        have H5 : Hid (∀ o, w.heap.size + 1 ≤ (w'.alloc o).heap.size) := Lib.hid (by intro o; have := HE2.out.sz; simp at this ⊢; omega)
        clear hev
        go_wp2_with (at_builtin; go_loud (refine wpList_append_own _ rfl (.tmp 29) (.tmp 31) 35 rfl (w.heap.size + 1) 4 i0 (.bool false) 1 1 Try.underlying35 hi0 hz0 hz1 hz2 rfl (by decide) u7 pre.length (pre.map Value.bool) rfl (HO2.out.alloc _) ⟨w'.heap.size, 0, none⟩ 1 1 [.bool nv] rfl rfl (one_cell _ _ _) (by simp [Value.oneCell']) H3.out H4.out (H5.out _) ?_); intro v1 w4 hown4 hg4 _)
        have HW4 := Lib.hid (Ev.grown (HE2.out.alloc _) hg4 (fun g hg => by have := (HO2.out.lt g hg).1; simp; omega))
        have HOW4 := Lib.hid hown4
        clear hg4 hown4
        go_wp2_with fail
        go_roundw
        case rel => exact ⟨j + 1, pre ++ [nv], nv, by omega, by go_num, rfl, by simpa using HOW4.out, by simp [HPL.out], by rw [List.append_assoc]; exact HX.out, HW4.out⟩
        case measure => simp [intOf]; omega
      · obtain rfl : j = l.length := by omega
        have HX : Hid (pre = R) := Lib.hid (by rw [← hx, List.drop_length]; simp [runV])
        have HOWN := Lib.hid hown
        have HEF := Lib.hid hE
        clear hx hown hpl hev hE
        go_wp2_with fail
        go_ret2
        refine ⟨_, rfl, ?_, HEF.out⟩
        rw [← HX.out]
        unfold OwnB
        exact own_weaken HOWN.out (by omega)
  · have e : rnV a b c l = [] := by unfold rnV; rw [if_neg h]
    have h' : (asE a b c l != 0) = true := by simpa using h
    rw [e]
    clear e h hr
    generalize asE a b c l = er at *
    go_enter Try.func20, Try.ntmps20
    go_wp2_with fail
    refine (H.out _ HA.out).mono ?_
    rintro e w1 ⟨rfl, hev⟩
    have hf := HA.out.step hev
    clear hev
    go_wp2_with fail
    go_ret2
    exact ⟨_, rfl, World.ownsRow_nil _ _ _ _, hf⟩
end Go.Proofs.Ytnlbkaabhnkkfaa
