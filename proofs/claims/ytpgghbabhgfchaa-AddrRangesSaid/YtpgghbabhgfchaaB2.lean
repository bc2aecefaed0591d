import Derived.Test.YtpgghbabhgfchaaB1
import Derived.Sort.CutIn
namespace Go.Proofs.Ytpgghbabhgfchaa
open Go.RowKit Go.Shelf
attribute [local go_sem] Oper.semAt_some
def IV (l : List Int) : List Value := l.map (Value.int .i64)
def OwnI (w : World) (base : Nat) (v : Value) (L : List Int) : Prop := w.ownsRow base 3 1 v L.length (IV L)
theorem info3 : (Try.prog.info? 3).map (fun i => (i.zero, i.size, i.bytes)) = some (some (.int .i64 0), 1, 8) := by kernel_rfl
/-- the marks -/
def StM (w : World) (D Bm : Nat) (b : Nat → Bool) (W : World) : Prop :=
  (∀ k, k < 8 → W.cell? ⟨Bm, k, none⟩ = some (.bool (b k)) ∧ W.frozen? ⟨Bm, k, none⟩ = false) ∧ Bm < W.heap.size ∧ D ≤ W.heap.size ∧ Below w.heap.size w W
theorem stM_from (w : World) (D D' Bm : Nat) (hwD : w.heap.size ≤ D') (hB : Bm < D') : OwnFrom D' (fun (pre : List (Fin 64)) W => StM w D Bm (mkS pre) W) := fun s A B row hs hg hr => by
  obtain ⟨h1, h2, h3, h4⟩ := hs
  have hne : some Bm ≠ row := fun e => by have := (hr Bm e.symm).1; omega
  have hb := hg.block Bm h2 hne
  refine ⟨fun k hk => ⟨?_, ?_⟩, Nat.lt_of_lt_of_le h2 hg.size, Nat.le_trans h3 hg.size, h4.grown hg h4.size (fun k e => by have := (hr k e).1; omega)⟩
  · rw [World.cell?_of_block (a := ⟨Bm, k, none⟩) hb]; exact (h1 k hk).1
  · rw [World.frozen?_of_block (a := ⟨Bm, k, none⟩) hb]; exact (h1 k hk).2
theorem stM_set {w : World} {D Bm : Nat} {pre : List (Fin 64)} {W : World} (h : StM w D Bm (mkS pre) W) (x : Fin 64) (hw : w.heap.size ≤ Bm) : StM w D Bm (mkS (pre ++ [x])) (W.setCell ⟨Bm, x.1 / 8, none⟩ (.bool true)) := by
  obtain ⟨h1, h2, h3, h4⟩ := h
  refine ⟨fun k hk => ⟨?_, ?_⟩, by simpa using h2, by simpa using h3, h4.setCell (p := ⟨Bm, x.1 / 8, none⟩) hw _⟩
  · rw [mkS_snoc]
    by_cases e : x.1 / 8 = k
    · subst e
      rw [World.cell?_setCell_same _ _ _ (h1 _ hk).1]
      simp
    · rw [World.cell?_setCell_other _ _ _ _ (by intro q; injection q with _ q2 _; exact e (by first | exact q2 | exact q2.symm)), (h1 k hk).1]
      simp [e]
  · have := (h1 k hk).2
    simpa [go_sem] using this
theorem StM.alloc {w : World} {D Bm : Nat} {b : Nat → Bool} {W : World} (h : StM w D Bm b W) (o : Obj) : StM w D Bm b (W.alloc o) := by
  obtain ⟨h1, h2, h3, h4⟩ := h
  obtain ⟨c, f⟩ := bc (al1 W o)
  exact ⟨fun k hk => ⟨by rw [c _ _ h2]; exact (h1 k hk).1, by rw [f _ _ h2]; exact (h1 k hk).2⟩, by simp; omega, by simp; omega, h4.alloc h4.size o⟩
theorem StM.new (w W : World) (hw : Below w.heap.size w W) : StM w W.heap.size W.heap.size (fun _ => false) (W.alloc (.cells #[.bool false, .bool false, .bool false, .bool false, .bool false, .bool false, .bool false, .bool false] 53)) := by
  refine ⟨fun k hk => ?_, by simp, by simp, hw.alloc hw.size _⟩
  rcases (show k = 0 ∨ k = 1 ∨ k = 2 ∨ k = 3 ∨ k = 4 ∨ k = 5 ∨ k = 6 ∨ k = 7 by omega) with rfl | rfl | rfl | rfl | rfl | rfl | rfl | rfl <;> simp
theorem one_cell (w : World) (x : Value) (T : TypeId) : ∀ j u, [x][j]? = some u → (w.alloc (.cells #[x] T)).cell? ((⟨w.heap.size, 0, none⟩ : Addr).add j) = some u := cell_one_new _ _ _
theorem eqM (b0 b1 b2 b3 b4 b5 b6 b7 : Bool) (w : World) : Sem.run Try.prog (Op.equalIn 10000 53 (.agg #[.bool b0, .bool b1, .bool b2, .bool b3, .bool b4, .bool b5, .bool b6, .bool b7]) (.agg #[.bool false, .bool false, .bool false, .bool false, .bool false, .bool false, .bool false, .bool false])) w = .ok (!(b0 || b1 || b2 || b3 || b4 || b5 || b6 || b7)) w := by
  cases b0 <;> cases b1 <;> cases b2 <;> cases b3 <;> cases b4 <;> cases b5 <;> cases b6 <;> cases b7 <;> kernel_rfl
theorem ixM (b : Nat → Bool) (k : Nat) (hk : k < 8) (w : World) : (Instr.index 53 (.agg #[.bool (b 0), .bool (b 1), .bool (b 2), .bool (b 3), .bool (b 4), .bool (b 5), .bool (b 6), .bool (b 7)]) (.int .i64 (k : Int))).run Try.prog w = .ok (.bool (b k)) w := by
  rcases (show k = 0 ∨ k = 1 ∨ k = 2 ∨ k = 3 ∨ k = 4 ∨ k = 5 ∨ k = 6 ∨ k = 7 by omega) with rfl | rfl | rfl | rfl | rfl | rfl | rfl | rfl <;> kernel_rfl
set_option maxRecDepth 100000 in
set_option maxHeartbeats 8000000 in
theorem cover_one (f t : Nat) (hft : f ≤ t) (ht : t < 64) (g : Nat) (w : World) (hc0 : w.cell? ⟨g, 0, none⟩ = some (.int .i64 f)) (hc1 : w.cell? ⟨g, 1, none⟩ = some (.int .i64 t)) (hg : g < w.heap.size) :
    Calls Try.prog 23 #[.slice (some ⟨g, 0, none⟩) 1 1] w fun e w' => ∃ v, e = .returned (.tuple #[v, .int .i64 0]) ∧ OwnI w' w.heap.size v (cvK (mkS (pgs f t)) 8) ∧ Ev w w' := by
  have H : Hid (∀ W, Calls Try.prog 19 #[rg f t] W fun e w' => e = .returned (.int .i64 0) ∧ Ev W w') := Lib.hid fun W => check_ok f t W (by omega)
  obtain ⟨i0, hi0, hz0, hz1, hz2⟩ := info_parts info3
  have HST := Lib.hid fun W => pages_any f t W
  have HLF : Hid (∀ (x : Fin 64) W, Calls Try.prog 31 #[.int .i64 (x.1 : Int)] W fun e w' => e = .returned (.int .i64 ((x.1 / 8 : Nat) : Int)) ∧ W = w') := Lib.hid fun x W => leafOf_any _ W (by omega) (by have := x.2; omega)
  have HCG : Hid (∀ W, Ev w W → W.cell? ⟨g, 0, none⟩ = some (.int .i64 f) ∧ W.cell? ⟨g, 1, none⟩ = some (.int .i64 t)) := Lib.hid fun W e => ⟨by rw [e.cell (p := ⟨g, 0, none⟩) hg]; exact hc0, by rw [e.cell (p := ⟨g, 1, none⟩) hg]; exact hc1⟩
  obtain ⟨q0, q1⟩ := HCG.out _ ((Ev.refl w).alloc (.cells #[.bool false, .bool false, .bool false, .bool false, .bool false, .bool false, .bool false, .bool false] 53))
  refine (callsIn_wide (n := 9)).1 (callsIn_of_wp_marks Try.func23 rfl trivial ?_ rfl)
  simp only [Try.ntmps23, List.size_toArray, List.length_cons, List.length_nil, Nat.reduceAdd, Nat.reduceSub, Array.replicate_succ, Array.replicate_zero, List.push_toArray, List.append_toArray, List.nil_append, List.cons_append]
  gi_wp2_with fail
  refine wpIn_loop_rounds 2 ?_
  rw [roundsIn_succ]
  gi_wp2_with fail
  refine ⟨trivial, (callsIn_wide.2 (H.out _)).mono ?_⟩
  rintro e w1 ⟨rfl, hev⟩
  have hS1 : StM w (w.alloc (.cells #[.bool false, .bool false, .bool false, .bool false, .bool false, .bool false, .bool false, .bool false] 53)).heap.size w.heap.size (fun _ => false) w1 := by
    obtain ⟨h1, h2, h3, h4⟩ := (StM.new w w (Below.refl _ _)).alloc (.cells #[.int .i64 f, .int .i64 t] 30)
    have hev' := hev
    obtain ⟨c, fz⟩ := bc hev
    exact ⟨fun k hk => ⟨by rw [c _ _ h2]; exact (h1 k hk).1, by rw [fz _ _ h2]; exact (h1 k hk).2⟩, Nat.lt_of_lt_of_le h2 hev.sz, by have := hev.sz; simp at this ⊢; omega, h4.trans (hev.mono h4.size)⟩
  have hr1 : w1.cell? ⟨w.heap.size + 1, 0, none⟩ = some (.int .i64 f) ∧ w1.cell? ⟨w.heap.size + 1, 1, none⟩ = some (.int .i64 t) := by
    have hs : (w.alloc (.cells #[.bool false, .bool false, .bool false, .bool false, .bool false, .bool false, .bool false, .bool false] 53)).heap.size = w.heap.size + 1 := by simp
    obtain ⟨c, -⟩ := bc hev
    rw [c _ _ (by simp), c _ _ (by simp), ← hs]
    exact ⟨by simp, by simp⟩
  have z0 : w.heap.size + 1 < w1.heap.size := by have := hev.sz; simp at this; omega
  have HS1 := Lib.hid hS1
  clear hev hS1
  obtain ⟨x0, x1⟩ := hr1
  gi_wp2_with fail
  refine ⟨trivial, (callsIn_wide.2 (HST.out _)).mono ?_⟩
  rintro e w2 ⟨rfl, rfl⟩
  gi_wp2_with fail
  obtain ⟨W0, hW0⟩ : ∃ W0, W0 = w1.alloc (.cells #[.int .i64 f, .int .i64 t] 30) := ⟨_, rfl⟩
  have hm0 : W0.cell? ⟨w1.heap.size, 0, none⟩ = some (.int .i64 f) ∧ W0.cell? ⟨w1.heap.size, 1, none⟩ = some (.int .i64 t) := by
    rw [hW0]
    exact ⟨by simp, by simp⟩
  have z1 : w1.heap.size < W0.heap.size := by rw [hW0]; simp
  have hS0 : StM w W0.heap.size w.heap.size (mkS []) W0 := by
    have e : mkS [] = fun _ => false := by funext k; rfl
    rw [e, hW0]
    obtain ⟨h1, h2, h3, h4⟩ := HS1.out.alloc (.cells #[.int .i64 f, .int .i64 t] 30)
    exact ⟨h1, h2, Nat.le_refl _, h4⟩
  rw [← hW0]
  clear hW0 x0 x1 q0 q1 HST H HCG HS1 hc0 hc1
  refine wpIn_rangeFunc_ownG rfl (by omega) (gf := 33) (lb := #[.pointer (some ⟨w1.heap.size, 0, none⟩)]) rfl trivial (enters_of Try.func33 (by kernel_rfl) rfl)
    (it_stops 8 W0.heap.size (fun k => k = w.heap.size) (by omega) f t hft ht w1.heap.size W0 (Nat.le_refl _) (by omega) (by omega) hm0) (fun h k => h.trans k) (KpX.putObj (Nat.le_refl _)) (Below.refl _ _) (fun _ => rfl)
    (fun (pre : List (Fin 64)) W => StM w W0.heap.size w.heap.size (mkS pre) W)
    (fun _ _ _ => False)
    (stM_from _ _ _ _ (by omega) (by omega))
    (fun _ _ _ _ _ hs _ _ => hs)
    hS0
    (fun (x : Fin 64) => { tmps := #[.slice (some ⟨g, 0, none⟩) 1 1, undef, .slice none 0 0, .int .i64 0, .pointer (some ⟨w.heap.size, 0, none⟩), undef, .pointer (some ⟨w.heap.size + 1, 0, none⟩), .int .i64 0, .int .i64 (x.1 : Int), undef, undef, undef, .slice (some ⟨g, 0, none⟩) 1 1, .int .i64 1, .bool false, .slice (some ⟨g, 0, none⟩) 1 1, .int .i64 1, .int .i64 0, .bool true, .pointer (some ⟨g, 0, none⟩), .agg #[.int .i64 f, .int .i64 t], .agg #[.int .i64 f, .int .i64 t], .int .i64 0, .int .i64 0, .bool false, undef, .agg #[.int .i64 f, .int .i64 t], .func (.func 33) #[] #[.pointer (some ⟨w1.heap.size, 0, none⟩)], .int .i64 (x.1 : Int), undef, undef, undef, undef, undef, undef, undef, undef, undef, undef, undef, undef, undef, undef, undef, undef, undef, undef, undef], defers := [] }) ?assign ?body ?done ?stop
  case assign =>
    intro lp x W K hK
    gi_wp2
    exact hK
  case body =>
    rintro lp pre x W hS hlt
    have hk : x.1 / 8 < 8 := by have := x.2; omega
    have LX := Lib.hid (HLF.out x W)
    have HF := Lib.hid (stM_set hS x (Nat.le_refl _))
    obtain ⟨c, fz⟩ := hS.1 _ hk
    clear hS
    generalize x.1 / 8 = kx at *
    have l1 : 0 ≤ (kx : Int) := by omega
    have l2 : (kx : Int) < 8 := by omega
    gi_wp2_with fail
    refine ⟨trivial, (CallsIn.inRound lp (callsIn_wide.2 LX.out)).mono ?_⟩
    rintro e W' ⟨rfl, rfl⟩
    gi_wp2
    exact ⟨(KeepsOthers.setCell _ _ _).from _, (KpX.refl _ _ _).setCell _ (.inl rfl), HF.out⟩
  case done =>
    rintro D ys W hD rfl hS hK
    have c0 := (hS.1 0 (by omega)).1
    have c1 := (hS.1 1 (by omega)).1
    have c2 := (hS.1 2 (by omega)).1
    have c3 := (hS.1 3 (by omega)).1
    have c4 := (hS.1 4 (by omega)).1
    have c5 := (hS.1 5 (by omega)).1
    have c6 := (hS.1 6 (by omega)).1
    have c7 := (hS.1 7 (by omega)).1
    obtain ⟨-, hmk⟩ := apart_ok f t hft ht
    have HS := Lib.hid hS
    have HK := Lib.hid hK
    unfold pgs at hmk
    have hbd : ∃ b, b = mkS (pgs f t) := ⟨_, rfl⟩
    obtain ⟨b, hbd⟩ := hbd
    have HBD := Lib.hid hbd
    unfold pgs at hbd
    rw [← hbd] at hmk HS hS c0 c1 c2 c3 c4 c5 c6 c7
    clear hbd
    clear hS hK
    have EQ : ∀ w, Sem.run Try.prog (Op.equalIn 10000 53 (.agg #[.bool (b 0), .bool (b 1), .bool (b 2), .bool (b 3), .bool (b 4), .bool (b 5), .bool (b 6), .bool (b 7)]) (.agg #[.bool false, .bool false, .bool false, .bool false, .bool false, .bool false, .bool false, .bool false])) w = .ok false w := fun w => by
      rw [eqM]
      have : (b 0 || b 1 || b 2 || b 3 || b 4 || b 5 || b 6 || b 7) = true := by
        rcases (show f / 8 = 0 ∨ f / 8 = 1 ∨ f / 8 = 2 ∨ f / 8 = 3 ∨ f / 8 = 4 ∨ f / 8 = 5 ∨ f / 8 = 6 ∨ f / 8 = 7 by omega) with h | h | h | h | h | h | h | h <;> (rw [h] at hmk; rw [hmk]; simp)
      rw [this]
      rfl
    clear hmk
    have HDlt : Hid (D < W.heap.size) := Lib.hid (Array.getElem?_eq_some_iff.1 HK.out).1
    gi_wp2_with fail
    rw [roundsIn_succ]
    gi_wp2_with fail
    clear EQ c0 c1 c2 c3 c4 c5 c6 c7
    gi_loopw [9, 37] (fun v i wr => ∃ k : Nat, k ≤ 8 ∧ i = .int .i64 k ∧ OwnI wr W.heap.size v (cvK b k) ∧ Ev W wr) (fun _ i _ => 8 - (intOf i).toNat)
    case atStart => exact ⟨0, Nat.zero_le _, rfl, World.ownsRow_nil _ _ _ _, Ev.refl _⟩
    case round =>
      obtain ⟨k, hk, rfl, hown, hev⟩ := hrel
      have HOWN := Lib.hid hown
      have HEV := Lib.hid hev
      by_cases hlt : k < 8
      · have IX := fun w => ixM b k hlt w
        have hlt' : (k : Int) < 8 := by omega
        have hk0 : 0 ≤ (k : Int) := by omega
        have hlen := cvK_len b k
        have H3 : Hid ((cvK b k).length + 1 ≤ maxLen) := Lib.hid (by unfold maxLen; omega)
        have H4 : Hid (((cvK b k).length + 1) * 8 ≤ 140737488355328) := Lib.hid (by omega)
        have H5 : Hid (∀ o, W.heap.size ≤ (wr.alloc o).heap.size) := Lib.hid (by intro o; have := HEV.out.sz; simp; omega)
        have hcv : cvK b (k + 1) = if b k = true then cvK b k ++ [(k : Int)] else cvK b k := rfl
        have HCV := Lib.hid hcv
        clear hown hev hcv hlen
        generalize hbk : b k = bk at *
        cases bk
        · gi_wp2_with fail
          go_roundw
          case rel => exact ⟨k + 1, by omega, by go_num, by rw [HCV.out]; simpa using HOWN.out, HEV.out⟩
          case measure => simp [intOf]; omega
        · gi_wp2_with (gi_at_builtin; go_loud (refine wpListIn_append_own _ rfl _ _ 37 rfl W.heap.size 3 i0 (.int .i64 0) 1 8 Try.underlying37 hi0 hz0 hz1 hz2 rfl Nat.one_pos _ (cvK b k).length (IV (cvK b k)) rfl (HOWN.out.alloc _) ⟨wr.heap.size, 0, none⟩ 1 1 [.int .i64 (k : Int)] rfl rfl (one_cell _ _ _) (by simp [Value.oneCell']) H3.out H4.out (H5.out _) ?_); intro v1 w4 hown4 hg4 _)
          have hrow := HOWN.out.alloc (.cells #[.int .i64 (k : Int)] 3)
          have HW4 := Lib.hid (Below.grown (HEV.out.alloc (.cells #[.int .i64 (k : Int)] 3)) hg4 (by have := HEV.out.sz; simp; omega) (fun g hg => (hrow.lt g hg).1))
          have HO4 := Lib.hid hown4
          clear hrow hg4 hown4
          gi_wp2_with fail
          go_roundw
          case rel => exact ⟨k + 1, by omega, by go_num, by rw [HCV.out]; simpa [OwnI, IV] using HO4.out, HW4.out⟩
          case measure => simp [intOf]; omega
      · obtain rfl : k = 8 := by omega
        have hK : wr.heap[D]? = some (Obj.deferred (some [])) := (Below.block HEV.out D HDlt.out).trans HK.out
        obtain ⟨-, -, -, hBW⟩ := HS.out
        have hB : Below w.heap.size w wr := hBW.trans (HEV.out.mono hBW.size)
        clear hown hev
        gi_wp2
        refine ⟨by simp, .inl ⟨_, _, rfl, run_takeDeferred hK, ?_⟩⟩
        have h1 := own_weaken (ownsRow_putObj HOWN.out (.deferred none) hK rfl) hBW.size
        refine ⟨.tuple #[_, .int .i64 0], ?_, _, rfl, by rw [← HBD.out]; exact h1, hB.trans (belowK_b (w := w) (Nat.le_refl _) wr D _ _ (by omega) hK rfl rfl)⟩
        simp [results, Try.results23, go_sem]
  case stop =>
    rintro D c' pre W _ _ h _
    exact h.elim
end Go.Proofs.Ytpgghbabhgfchaa
