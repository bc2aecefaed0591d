import Derived.Test.YtfiglmbnjfgdlaaDoorEE
import Derived.BigRegionIn
namespace Go.Proofs.YtfiglmbnjfgdlaaDoor
open Go.RowKit Go.Shelf
attribute [local go_sem] Oper.semAt_some
/-- a box of one number -/
def OneR (W : World) (b : Nat) (t : TypeId) (x : Int) : Prop := W.rowIs b t 1 (fun _ => .int .i64 x)
/-- what Run holds: its access, the results' boxes -/
def RSt (W : World) (p p4 p5 p6 : Nat) (s f w a b c n er : Int) : Prop := BoxR W p s f w ∧ BoxR W p4 a b c ∧ OneR W p5 3 n ∧ OneR W p6 24 er
theorem RSt.ev {W W' : World} {p p4 p5 p6 : Nat} {s f w a b c n er : Int} (h : RSt W p p4 p5 p6 s f w a b c n er) (e : Ev W W') : RSt W' p p4 p5 p6 s f w a b c n er :=
  ⟨h.1.ev e, h.2.1.ev e, World.rowIs.of_block h.2.2.1 (Below.block e _ (World.rowIs.lt h.2.2.1)), World.rowIs.of_block h.2.2.2 (Below.block e _ (World.rowIs.lt h.2.2.2))⟩
theorem row_grown {W W' : World} {b : Nat} {t : TypeId} {n : Nat} {g : Nat → Value} {row : Option Nat} (h : W.rowIs b t n g) (hg : W.grownBy W' row) (hr : ∀ r, row = some r → ∃ o : Obj, W.heap[r]? = some o ∧ o.isCells = false) : W'.rowIs b t n g :=
  World.rowIs.of_block h (hg.block b (World.rowIs.lt h) (fun e => by
    obtain ⟨o, ho, hc⟩ := hr b e.symm
    obtain ⟨c, hb, _⟩ := h
    rw [hb] at ho
    cases ho
    cases hc))
theorem RSt.gr {W W' : World} {p p4 p5 p6 : Nat} {s f w a b c n er : Int} {row : Option Nat} (h : RSt W p p4 p5 p6 s f w a b c n er) (hg : W.grownBy W' row) (hr : ∀ r, row = some r → ∃ o : Obj, W.heap[r]? = some o ∧ o.isCells = false) : RSt W' p p4 p5 p6 s f w a b c n er :=
  ⟨row_grown h.1 hg hr, row_grown h.2.1 hg hr, row_grown h.2.2.1 hg hr, row_grown h.2.2.2 hg hr⟩
theorem RSt.set {W : World} {p p4 p5 p6 U k : Nat} {v : Value} {s f w a b c n er : Int} (h : RSt W p p4 p5 p6 s f w a b c n er) (hU : p ≠ U ∧ p4 ≠ U ∧ p5 ≠ U ∧ p6 ≠ U) : RSt (W.setCell ⟨U, k, none⟩ v) p p4 p5 p6 s f w a b c n er :=
  ⟨World.rowIs.setOther h.1 hU.1 _, World.rowIs.setOther h.2.1 hU.2.1 _, World.rowIs.setOther h.2.2.1 hU.2.2.1 _, World.rowIs.setOther h.2.2.2 hU.2.2.2 _⟩
def RI (W : World) (p p4 p5 p6 : Nat) (s f w : Int) (pre : List El) (W' : World) : Prop := RSt W' p p4 p5 p6 (cur s f w pre).1 (cur s f w pre).2.1 (cur s f w pre).2.2.1 0 0 0 (pre.length : Nat) 0 ∧ (∀ y ∈ pre, y.2.2.2 = 0) ∧ Ev W W'
def RL (W : World) (p p4 p5 p6 : Nat) (s f w : Int) (xs : List El) (W' : World) : Prop := ∃ pre x, xs = pre ++ [x] ∧ RSt W' p p4 p5 p6 (cur s f w pre).1 (cur s f w pre).2.1 (cur s f w pre).2.2.1 (cur s f w pre).1 (cur s f w pre).2.1 (cur s f w pre).2.2.1 (pre.length : Nat) x.2.2.2 ∧ (∀ y ∈ pre, y.2.2.2 = 0) ∧ x.2.2.2 ≠ 0 ∧ Ev W W'
theorem OneR.set {W : World} {b : Nat} {t : TypeId} {x : Int} (h : OneR W b t x) (y : Int) : OneR (W.setCell ⟨b, 0, none⟩ (.int .i64 y)) b t y := World.rowIs.congr (World.rowIs.set h 0 _) (fun i hi => by
    have hi' : i < 1 := hi
    obtain rfl : i = 0 := by omega
    rfl)
theorem KpC.of_gb {X : Nat → Prop} {A B : World} {row : Option Nat} (hg : A.grownBy B row) (hr : ∀ j, row = some j → X j) : KpC X A B :=
  ⟨hg.size, fun k _ hk _ hx => (hg.block k (Array.getElem?_eq_some_iff.1 hk).1 (fun e => hx (hr k e.symm))).trans hk⟩
/-- a store into a box that lay below -/
theorem kf_set {D : Nat} (W : World) (b o : Nat) (v : Value) (h : b < D) : KeepsFrom D W (W.setCell ⟨b, o, none⟩ v) := KeepsFrom.of_grownBy (gb_set W b o v) (fun j e => by cases e; exact h)
theorem kp_set {X : Nat → Prop} (W : World) (b o : Nat) (v : Value) (h : X b) : KpC X W (W.setCell ⟨b, o, none⟩ v) := KpC.of_gb (gb_set W b o v) (fun j e => by cases e; exact h)
set_option maxRecDepth 100000 in
set_option maxHeartbeats 8000000 in
theorem run_any (s f w : Int) (B : Option Addr) (d : Nat) (cs : List (Int × Int)) (W : World) (hT : Tab W) (hcs : RdC W B cs) (hlen : cs.length ≤ 1000) :
    Calls Tryd.prog 22 #[rd s f w, .slice B cs.length d] W fun x w' => RunQ W (ruA s f w cs) x w' := by
  have CK := Lib.hid fun W => check_any s f w W
  have HCS := Lib.hid hcs
  have HT := Lib.hid hT
  obtain ⟨w1, hw1⟩ : ∃ w1, (((W.alloc (rdO s f w)).alloc (rdO 0 0 0)).alloc (.cells #[.int .i64 0] 3)).alloc (.cells #[.int .i64 0] 24) = w1 := ⟨_, rfl⟩
  have HE1 : Hid (Ev W w1) := Lib.hid (by rw [← hw1]; exact ((((Ev.refl W).alloc _).alloc _).alloc _).alloc _)
  have HS1 : Hid (RSt w1 W.heap.size (W.heap.size + 1) (W.heap.size + 1 + 1) (W.heap.size + 1 + 1 + 1) s f w 0 0 0 0 0) := Lib.hid (by
    rw [← hw1]
    have e1 : (W.alloc (rdO s f w)).heap.size = W.heap.size + 1 := by simp
    have e2 : ((W.alloc (rdO s f w)).alloc (rdO 0 0 0)).heap.size = W.heap.size + 1 + 1 := by simp
    have e3 : (((W.alloc (rdO s f w)).alloc (rdO 0 0 0)).alloc (.cells #[.int .i64 0] 3)).heap.size = W.heap.size + 1 + 1 + 1 := by simp
    refine ⟨(((BoxR.new W s f w).al _).al _).al _, ?_, ?_, ?_⟩
    · have h := BoxR.new (W.alloc (rdO s f w)) 0 0 0
      rw [e1] at h
      exact (h.al _).al _
    · have h := World.rowIs_alloc ((W.alloc (rdO s f w)).alloc (rdO 0 0 0)) #[.int .i64 0] 3 (fun _ => .int .i64 0) (fun i hi => by
        have hi' : i < 1 := hi
        obtain rfl : i = 0 := by omega
        rfl)
      rw [e2] at h
      exact World.rowIs.alloc h _
    · have h := World.rowIs_alloc (((W.alloc (rdO s f w)).alloc (rdO 0 0 0)).alloc (.cells #[.int .i64 0] 3)) #[.int .i64 0] 24 (fun _ => .int .i64 0) (fun i hi => by
        have hi' : i < 1 := hi
        obtain rfl : i = 0 := by omega
        rfl)
      rw [e3] at h
      exact h)
  by_cases h0 : ck s f w = 0
  · have HR0 : Hid (ruA s f w cs = ru s f w cs 0) := Lib.hid (by unfold ruA; rw [if_pos h0])
    rw [h0] at CK
    have CW := Lib.hid fun W => walk_any s f w B cs.length d W
    clear hcs hT h0
    refine (callsIn_wide (n := 9)).1 (callsIn_of_wp_marks Tryd.func22 rfl trivial ?_ rfl)
    simp only [Tryd.ntmps22, List.size_toArray, List.length_cons, List.length_nil, Nat.reduceAdd, Nat.reduceSub, Array.replicate_succ, Array.replicate_zero, List.push_toArray, List.append_toArray, List.nil_append, List.cons_append]
    gi_upto_region 1 with fail
    clear hw1
    generalize hp6 : W.heap.size + 1 + 1 + 1 = p6 at *
    generalize hp5 : W.heap.size + 1 + 1 = p5 at *
    generalize hp4 : W.heap.size + 1 = p4 at *
    obtain ⟨b0, b1, b2⟩ := HS1.out.1.c
    gi_wp2_with fail
    refine ⟨trivial, (callsIn_wide.2 (CK.out _)).mono ?_⟩
    rintro e w5 ⟨rfl, hev⟩
    have HE5 := Lib.hid (HE1.out.step hev)
    have HS5 := Lib.hid (HS1.out.ev hev)
    clear hev b0 b1 b2
    obtain ⟨b0, b1, b2⟩ := HS5.out.1.c
    gi_wp2_with fail
    refine ⟨trivial, (callsIn_wide.2 (CW.out _)).mono ?_⟩
    rintro e w6 ⟨rfl, hw6⟩
    clear b0 b1 b2
    gi_wp2_with fail
    have HE6 : Hid (Ev W w6) := Lib.hid (by rw [← hw6]; exact (HE5.out.alloc _).alloc _)
    have HS6 : Hid (RSt w6 W.heap.size p4 p5 p6 s f w 0 0 0 0 0) := Lib.hid (by rw [← hw6]; exact HS5.out.ev (((Ev.refl _).alloc _).alloc _))
    have HU6 : Hid (BoxR w6 w5.heap.size s f w) := Lib.hid (by rw [← hw6]; exact (BoxR.new w5 s f w).al _)
    have HV6 : Hid (Boxed w6 (w5.heap.size + 1) 38 (.slice B cs.length d)) := Lib.hid (by
      rw [← hw6]
      have h := Boxed.new (w5.alloc (rdO s f w)) 38 (.slice B cs.length d)
      rwa [show (w5.alloc (rdO s f w)).heap.size = w5.heap.size + 1 from by simp] at h)
    have q6 : p6 < w5.heap.size := World.rowIs.lt HS5.out.2.2.2
    have hz6 : w6.heap.size = w5.heap.size + 2 := by rw [← hw6]; simp
    have hT1 := HT.out.1
    clear hw6
    refine range_boxL rfl (by omega) (gf := 54) (lb := #[.pointer (some ⟨w5.heap.size + 1, 0, none⟩), .pointer (some ⟨w5.heap.size, 0, none⟩)]) rfl trivial (enters_of Tryd.func54 (by kernel_rfl) rfl)
      (it_run 8 (by omega) (fun k => k = W.heap.size ∨ k = p4 ∨ k = p5 ∨ k = p6) s f w w5.heap.size (w5.heap.size + 1) B d cs w6 (HT.out.ev HE6.out) HU6.out HV6.out (HCS.out.ev HE6.out) hlen (by omega) (by omega)
        ?xB ?xB2 (by omega) (by omega)) (by omega) (fun h k => h.trans k) (fun W l o o' _ hl ho _ => KpC.putObj W l o o' hl ho) (Below.refl _ _) (fun _ => rfl)
      (RI W W.heap.size p4 p5 p6 s f w) (RL W W.heap.size p4 p5 p6 s f w)
      ?hI ?hL ?hIU ?h0
      (fun (x : El) a' W' => ∃ b, a' = { tmps := #[rd s f w, .slice B cs.length d, .pointer (some ⟨W.heap.size, 0, none⟩), undef, .pointer (some ⟨p4, 0, none⟩), .pointer (some ⟨p5, 0, none⟩), .pointer (some ⟨p6, 0, none⟩), .int .i64 0, .pointer (some ⟨b, 0, none⟩), .int .i64 x.2.2.2, rd s f w, .int .i64 0, .int .i64 0, .bool false, undef, undef, rd s f w, .slice B cs.length d, .func (.func 54) #[] #[.pointer (some ⟨w5.heap.size + 1, 0, none⟩), .pointer (some ⟨w5.heap.size, 0, none⟩)], rd x.1 x.2.1 x.2.2.1, .int .i64 x.2.2.2, undef, undef, undef, undef, undef, undef, undef, undef, undef, undef], defers := [] } ∧ BoxR W' b x.1 x.2.1 x.2.2.1 ∧ p6 < b)
      ?hAx ?assign ?body ?done ?stop
    case xB =>
      intro hn a ha
      obtain ⟨b, o, h1, h2, _⟩ := HCS.out 0 hn
      rw [ha] at h1
      cases h1
      simp only
      omega
    case xB2 =>
      intro hn a ha
      obtain ⟨b, o, h1, h2, _⟩ := HCS.out 0 hn
      rw [ha] at h1
      cases h1
      simp only
      omega
    case hI =>
      rintro pre A A' row ⟨h1, h2, h3⟩ hg hr
      exact ⟨h1.gr hg (fun r e => (hr r e).2), h2, ownFrom_below (β := Unit) (n₀ := W.heap.size) (w₀ := W) (Nat.le_refl _) (by omega) () A A' row h3 hg hr⟩
    case hL =>
      rintro xs A A' row ⟨pre, x, h0, h1, h2, h3, h4⟩ hg hr
      exact ⟨pre, x, h0, h1.gr hg (fun r e => (hr r e).2), h2, h3, ownFrom_below (β := Unit) (n₀ := W.heap.size) (w₀ := W) (Nat.le_refl _) (by omega) () A A' row h4 hg hr⟩
    case hIU =>
      rintro pre A k v ⟨h1, h2, h3⟩
      exact ⟨h1.set (by omega), h2, h3.setC (show W.heap.size ≤ w5.heap.size by omega) _⟩
    case h0 => exact ⟨HS6.out, (fun y hy => by cases hy), HE6.out⟩
    case hAx =>
      rintro x a' u A A' row ⟨b, h1, h2, h3⟩ hg hr
      exact ⟨b, h1, row_grown h2 hg (fun r e => (hr r e).2), h3⟩
    case assign =>
      rintro lp pre x W' K ⟨h1, h2, h3⟩ hK
      simp only [enE]
      gi_wp2
      exact hK _ _ (KeepsFrom.of_grownBy (World.grownBy_alloc W' _ none) (by simp)) (KpC.of_gb (World.grownBy_alloc W' _ none) (by simp)) ⟨h1.ev (al1 _ _), h2, h3.alloc _⟩ ⟨W'.heap.size, rfl, BoxR.new W' _ _ _, World.rowIs.lt h1.2.2.2⟩
    case body =>
      rintro lp pre x a' W' ⟨h1, h2, h3⟩ ⟨b, rfl, hbx, hpb⟩ hlt
      obtain ⟨xs, xf, xw, xe⟩ := x
      have hlt' : (pre.length : Int) < 1000 := by omega
      have hl0 : (0 : Int) ≤ (pre.length : Int) := by omega
      have HR1 := Lib.hid h1
      have HR2 := Lib.hid h2
      have HR3 := Lib.hid h3
      have HBX := Lib.hid hbx
      simp only [] at hbx
      obtain ⟨c0, c1, c2⟩ := hbx.c
      obtain ⟨b0, b1, b2⟩ := h1.1.c
      obtain ⟨z0, z1, z2⟩ := h1.1.z
      have n0 : W'.cell? ⟨p5, 0, none⟩ = some (.int .i64 (pre.length : Nat)) := World.rowIs.cell h1.2.2.1 (i := 0) (by decide)
      have y0 : W'.frozen? ⟨p5, 0, none⟩ = false := World.rowIs.frozen h1.2.2.1 0
      have ne1 : ¬ W.heap.size = b := by omega
      have ne2 : ¬ p5 = W.heap.size := by omega
      clear h1 h2 h3 hbx
      by_cases hx : xe = 0
      · subst hx
        have HFI : Hid (KeepsFrom (w5.heap.size + 2) W' ((((W'.setCell ⟨W.heap.size, 0, none⟩ (.int .i64 xs)).setCell ⟨W.heap.size, 1, none⟩ (.int .i64 xf)).setCell ⟨W.heap.size, 2, none⟩ (.int .i64 xw)).setCell ⟨p5, 0, none⟩ (.int .i64 ((pre.length : Nat) + 1))) ∧ KpC (fun k => k = W.heap.size ∨ k = p4 ∨ k = p5 ∨ k = p6) W' ((((W'.setCell ⟨W.heap.size, 0, none⟩ (.int .i64 xs)).setCell ⟨W.heap.size, 1, none⟩ (.int .i64 xf)).setCell ⟨W.heap.size, 2, none⟩ (.int .i64 xw)).setCell ⟨p5, 0, none⟩ (.int .i64 ((pre.length : Nat) + 1))) ∧ RI W W.heap.size p4 p5 p6 s f w (pre ++ [(xs, xf, xw, 0)]) ((((W'.setCell ⟨W.heap.size, 0, none⟩ (.int .i64 xs)).setCell ⟨W.heap.size, 1, none⟩ (.int .i64 xf)).setCell ⟨W.heap.size, 2, none⟩ (.int .i64 xw)).setCell ⟨p5, 0, none⟩ (.int .i64 ((pre.length : Nat) + 1)))) := Lib.hid (by
          refine ⟨(((kf_set _ _ _ _ (by omega)).trans (kf_set _ _ _ _ (by omega))).trans (kf_set _ _ _ _ (by omega))).trans (kf_set _ _ _ _ (by omega)),
            (((kp_set _ _ _ _ (.inl rfl)).trans (kp_set _ _ _ _ (.inl rfl))).trans (kp_set _ _ _ _ (.inl rfl))).trans (kp_set _ _ _ _ (.inr (.inr (.inl rfl)))), ?_⟩
          unfold RI
          rw [cur_snoc]
          obtain ⟨r1, r2, r3, r4⟩ := HR1.out
          refine ⟨⟨World.rowIs.setOther (set3_box r1 xs xf xw) (show W.heap.size ≠ p5 by omega) _, World.rowIs.setOther (set3_oth r2 (show p4 ≠ W.heap.size by omega) xs xf xw) (show p4 ≠ p5 by omega) _, ?_, World.rowIs.setOther (World.rowIs.setOther (World.rowIs.setOther (World.rowIs.setOther r4 (show p6 ≠ W.heap.size by omega) _) (show p6 ≠ W.heap.size by omega) _) (show p6 ≠ W.heap.size by omega) _) (show p6 ≠ p5 by omega) _⟩, ?_, (set3_ev HR3.out (Nat.le_refl _) xs xf xw).setC (show W.heap.size ≤ p5 by omega) _⟩
          · have r5 : OneR (((W'.setCell ⟨W.heap.size, 0, none⟩ (.int .i64 xs)).setCell ⟨W.heap.size, 1, none⟩ (.int .i64 xf)).setCell ⟨W.heap.size, 2, none⟩ (.int .i64 xw)) p5 3 (pre.length : Nat) := World.rowIs.setOther (World.rowIs.setOther (World.rowIs.setOther r3 (show p5 ≠ W.heap.size by omega) _) (show p5 ≠ W.heap.size by omega) _) (show p5 ≠ W.heap.size by omega) _
            have := r5.set ((pre.length : Nat) + 1)
            rw [List.length_append]
            exact this
          · intro y hy
            rcases List.mem_append.1 hy with h | h
            · exact HR2.out y h
            · have : y = (xs, xf, xw, 0) := by simpa using h
              rw [this])
        gi_wp2_with fail
        exact HFI.out
      · have hq : (xe != 0) = true := by simpa using hx
        gi_upto_region 8 with fail
        obtain ⟨e0, e1, e2⟩ := HR1.out.2.1.c
        obtain ⟨f0, f1, f2⟩ := HR1.out.2.1.z
        have g0 : W'.cell? ⟨p6, 0, none⟩ = some (.int .i64 0) := World.rowIs.cell HR1.out.2.2.2 (i := 0) (by decide)
        have g1 : W'.frozen? ⟨p6, 0, none⟩ = false := World.rowIs.frozen HR1.out.2.2.2 0
        have ne3 : ¬ p4 = W.heap.size := by omega
        have ne4 : ¬ p5 = p4 := by omega
        have ne5 : ¬ p6 = p4 := by omega
        have ne6 : ¬ p6 = p5 := by omega
        clear c0 c1 c2 z0 z1 z2
        have HFR : Hid (KeepsFrom (w5.heap.size + 2) W' ((((((W'.setCell ⟨p4, 0, none⟩ (.int .i64 (cur s f w pre).1)).setCell ⟨p4, 1, none⟩ (.int .i64 (cur s f w pre).2.1)).setCell ⟨p4, 2, none⟩ (.int .i64 (cur s f w pre).2.2.1)).setCell ⟨p5, 0, none⟩ (.int .i64 (pre.length : Nat))).setCell ⟨p6, 0, none⟩ (.int .i64 xe)).drew) ∧ Code.ret = Code.ret ∧ RL W W.heap.size p4 p5 p6 s f w (pre ++ [(xs, xf, xw, xe)]) ((((((W'.setCell ⟨p4, 0, none⟩ (.int .i64 (cur s f w pre).1)).setCell ⟨p4, 1, none⟩ (.int .i64 (cur s f w pre).2.1)).setCell ⟨p4, 2, none⟩ (.int .i64 (cur s f w pre).2.2.1)).setCell ⟨p5, 0, none⟩ (.int .i64 (pre.length : Nat))).setCell ⟨p6, 0, none⟩ (.int .i64 xe)).drew)) := Lib.hid (by
          have kd : ∀ V : World, KeepsFrom (w5.heap.size + 2) V V.drew := fun V => KeepsFrom.of_grownBy (gb_ev (Ev.drew (Ev.refl V)) (r := none)) (by simp)
          refine ⟨((((((kf_set _ _ _ _ (by omega)).trans (kf_set _ _ _ _ (by omega))).trans (kf_set _ _ _ _ (by omega))).trans (kf_set _ _ _ _ (by omega))).trans (kf_set _ _ _ _ (by omega)))).trans (kd _), rfl, ?_⟩
          obtain ⟨r1, r2, r3, r4⟩ := HR1.out
          refine ⟨pre, (xs, xf, xw, xe), rfl, RSt.ev ⟨?_, ?_, ?_, ?_⟩ (Ev.drew (Ev.refl _)), HR2.out, hx, Ev.drew (((set3_ev HR3.out (show W.heap.size ≤ p4 by omega) _ _ _).setC (show W.heap.size ≤ p5 by omega) _).setC (show W.heap.size ≤ p6 by omega) _)⟩
          · exact World.rowIs.setOther (World.rowIs.setOther (set3_oth r1 (show W.heap.size ≠ p4 by omega) _ _ _) (show W.heap.size ≠ p5 by omega) _) (show W.heap.size ≠ p6 by omega) _
          · exact World.rowIs.setOther (World.rowIs.setOther (set3_box r2 _ _ _) (show p4 ≠ p5 by omega) _) (show p4 ≠ p6 by omega) _
          · exact World.rowIs.setOther (OneR.set (World.rowIs.setOther (World.rowIs.setOther (World.rowIs.setOther r3 (show p5 ≠ p4 by omega) _) (show p5 ≠ p4 by omega) _) (show p5 ≠ p4 by omega) _) _) (show p5 ≠ p6 by omega) _
          · exact OneR.set (World.rowIs.setOther (World.rowIs.setOther (World.rowIs.setOther (World.rowIs.setOther r4 (show p6 ≠ p4 by omega) _) (show p6 ≠ p4 by omega) _) (show p6 ≠ p4 by omega) _) (show p6 ≠ p5 by omega) _) _)
        gi_region
        all_goals gi_wp2_with fail
        all_goals exact ⟨HFR.out.1, rfl, HFR.out.2.2⟩
    case done =>
      rintro D xs W' hD rfl ⟨hr, hy, hev⟩ hK
      rw [seqE_len] at hr
      have HRU := Lib.hid (ru_all cs s f w 0 hy)
      obtain ⟨r1, r2, r3, r4⟩ := hr
      obtain ⟨W2, hW2⟩ : ∃ W2, ((((((W'.setCell ⟨p4, 0, none⟩ (.int .i64 (cur s f w (seqE s f w cs)).1)).setCell ⟨p4, 1, none⟩ (.int .i64 (cur s f w (seqE s f w cs)).2.1)).setCell ⟨p4, 2, none⟩ (.int .i64 (cur s f w (seqE s f w cs)).2.2.1)).setCell ⟨p5, 0, none⟩ (.int .i64 (cs.length : Nat))).setCell ⟨p6, 0, none⟩ (.int .i64 0)).drew) = W2 := ⟨_, rfl⟩
      have h21 : BoxR W2 p4 (cur s f w (seqE s f w cs)).1 (cur s f w (seqE s f w cs)).2.1 (cur s f w (seqE s f w cs)).2.2.1 := by
        rw [← hW2]
        exact World.rowIs.drew (World.rowIs.setOther (World.rowIs.setOther (set3_box r2 _ _ _) (show p4 ≠ p5 by omega) _) (show p4 ≠ p6 by omega) _)
      have h22 : OneR W2 p5 3 (cs.length : Nat) := by
        rw [← hW2]
        exact World.rowIs.drew (World.rowIs.setOther (OneR.set (World.rowIs.setOther (World.rowIs.setOther (World.rowIs.setOther r3 (show p5 ≠ p4 by omega) _) (show p5 ≠ p4 by omega) _) (show p5 ≠ p4 by omega) _) _) (show p5 ≠ p6 by omega) _)
      have h23 : OneR W2 p6 24 0 := by
        rw [← hW2]
        exact World.rowIs.drew (OneR.set (World.rowIs.setOther (World.rowIs.setOther (World.rowIs.setOther (World.rowIs.setOther r4 (show p6 ≠ p4 by omega) _) (show p6 ≠ p4 by omega) _) (show p6 ≠ p4 by omega) _) (show p6 ≠ p5 by omega) _) _)
      have h24 : Ev W W2 := by
        rw [← hW2]
        exact Ev.drew (((set3_ev hev (show W.heap.size ≤ p4 by omega) _ _ _).setC (show W.heap.size ≤ p5 by omega) _).setC (show W.heap.size ≤ p6 by omega) _)
      have hK2 : W2.heap[D]? = some (.deferred (some [])) := by
        rw [← hW2]
        exact (blk_setU 0 _ (show D ≠ p6 by omega)).trans ((blk_setU 0 _ (show D ≠ p5 by omega)).trans ((blk_setU 2 _ (show D ≠ p4 by omega)).trans ((blk_setU 1 _ (show D ≠ p4 by omega)).trans ((blk_setU 0 _ (show D ≠ p4 by omega)).trans hK))))
      have hB : ∀ b, b < D → (W2.putObj D (.deferred none)).heap[b]? = W2.heap[b]? := fun b hb => World.putObj_heap_other (by omega)
      have hev2 : Ev W (W2.putObj D (.deferred none)) := ownFrom_below (β := Unit) (n₀ := W.heap.size) (w₀ := W) (Nat.le_refl _) (show W.heap.size ≤ D by omega) |>.putObj (s := ()) _ h24 (Nat.le_refl _) hK2 rfl
      have k4 : BoxR (W2.putObj D (.deferred none)) p4 (cur s f w (seqE s f w cs)).1 (cur s f w (seqE s f w cs)).2.1 (cur s f w (seqE s f w cs)).2.2.1 := World.rowIs.of_block h21 (hB _ (by omega))
      obtain ⟨m0, m1, m2⟩ := k4.c
      have n0 : (W2.putObj D (.deferred none)).cell? ⟨p5, 0, none⟩ = some (.int .i64 (cs.length : Nat)) := World.rowIs.cell (World.rowIs.of_block h22 (hB _ (by omega))) (i := 0) (by decide)
      have g0 : (W2.putObj D (.deferred none)).cell? ⟨p6, 0, none⟩ = some (.int .i64 0) := World.rowIs.cell (World.rowIs.of_block h23 (hB _ (by omega))) (i := 0) (by decide)
      have HM := Lib.hid (show _ ∧ _ ∧ _ ∧ _ ∧ _ from ⟨m0, m1, m2, n0, g0⟩)
      have HK2 := Lib.hid hK2
      have HEV := Lib.hid hev2
      have HW2 := Lib.hid hW2
      obtain ⟨b0, b1, b2⟩ := r1.c
      obtain ⟨e0, e1, e2⟩ := r2.c
      obtain ⟨f0, f1, f2⟩ := r2.z
      have x0 : W'.cell? ⟨p5, 0, none⟩ = some (.int .i64 (cs.length : Nat)) := World.rowIs.cell r3 (i := 0) (by decide)
      have x1 : W'.frozen? ⟨p5, 0, none⟩ = false := World.rowIs.frozen r3 0
      have y0 : W'.cell? ⟨p6, 0, none⟩ = some (.int .i64 0) := World.rowIs.cell r4 (i := 0) (by decide)
      have y1 : W'.frozen? ⟨p6, 0, none⟩ = false := World.rowIs.frozen r4 0
      have ne3 : ¬ p4 = W.heap.size := by omega
      have ne4 : ¬ p5 = p4 := by omega
      have ne5 : ¬ p6 = p4 := by omega
      have ne6 : ¬ p6 = p5 := by omega
      clear hW2 h21 h22 h23 h24 hK2 hB hev2 k4 m0 m1 m2 n0 g0 r1 r2 r3 r4 hy hev hK
      gi_upto_region 11 with fail
      gi_region
      all_goals gi_wp2_with fail
      all_goals rw [HW2.out]
      all_goals refine ⟨by simp, .inl ⟨_, _, rfl, run_takeDeferred HK2.out, ?_⟩⟩
      all_goals obtain ⟨m0, m1, m2, n0, g0⟩ := HM.out
      all_goals exact ⟨.tuple #[rd (cur s f w (seqE s f w cs)).1 (cur s f w (seqE s f w cs)).2.1 (cur s f w (seqE s f w cs)).2.2.1, .int .i64 (cs.length : Nat), .int .i64 0], by simp [results, Tryd.results22, go_sem, *], by rw [HR0.out, HRU.out]; simp, HEV.out⟩
    case stop =>
      rintro D xs W' hD ⟨k, hk, rfl⟩ ⟨pre, x, hx, hr, hy, hxe, hev⟩ hK
      have HRU := Lib.hid (ru_stop cs s f w 0 k pre x hk hx.symm hy hxe)
      have hB : ∀ b, b < D → (W'.putObj D (.deferred none)).heap[b]? = W'.heap[b]? := fun b hb => World.putObj_heap_other (by omega)
      have hr2 : RSt (W'.putObj D (.deferred none)) W.heap.size p4 p5 p6 _ _ _ _ _ _ _ _ := ⟨World.rowIs.of_block hr.1 (hB _ (by omega)), World.rowIs.of_block hr.2.1 (hB _ (by omega)), World.rowIs.of_block hr.2.2.1 (hB _ (by omega)), World.rowIs.of_block hr.2.2.2 (hB _ (by omega))⟩
      have hev2 : Ev W (W'.putObj D (.deferred none)) := ownFrom_below (β := Unit) (n₀ := W.heap.size) (w₀ := W) (Nat.le_refl _) (show W.heap.size ≤ D by omega) |>.putObj (s := ()) _ hev (Nat.le_refl _) hK rfl
      obtain ⟨e0, e1, e2⟩ := hr2.2.1.c
      have n0 : (W'.putObj D (.deferred none)).cell? ⟨p5, 0, none⟩ = some (.int .i64 (pre.length : Nat)) := World.rowIs.cell hr2.2.2.1 (i := 0) (by decide)
      have g0 : (W'.putObj D (.deferred none)).cell? ⟨p6, 0, none⟩ = some (.int .i64 x.2.2.2) := World.rowIs.cell hr2.2.2.2 (i := 0) (by decide)
      clear hr hr2 hy hx
      gi_wp2
      refine ⟨by simp, .inl ⟨_, _, rfl, run_takeDeferred hK, ?_⟩⟩
      exact ⟨.tuple #[rd (cur s f w pre).1 (cur s f w pre).2.1 (cur s f w pre).2.2.1, .int .i64 (pre.length : Nat), .int .i64 x.2.2.2], by simp [results, Tryd.results22, go_sem, *], by rw [HR0.out, HRU.out]; simp, hev2⟩
  · have HR0 : Hid (ruA s f w cs = ⟨0, 0, 0, 0, ck s f w⟩) := Lib.hid (by unfold ruA; rw [if_neg h0])
    generalize ck s f w = er at *
    have hq : (er != 0) = true := by simpa using h0
    clear hcs hT h0
    go_enter Tryd.func22, Tryd.ntmps22
    go_upto_region 1 with fail
    clear hw1
    generalize hp6 : W.heap.size + 1 + 1 + 1 = p6 at *
    generalize hp5 : W.heap.size + 1 + 1 = p5 at *
    generalize hp4 : W.heap.size + 1 = p4 at *
    obtain ⟨b0, b1, b2⟩ := HS1.out.1.c
    go_wp2_with fail
    refine (CK.out _).mono ?_
    rintro e w5 ⟨rfl, hev⟩
    have HE5 := Lib.hid (HE1.out.step hev)
    have HS5 := Lib.hid (HS1.out.ev hev)
    clear hev b0 b1 b2
    obtain ⟨e0, e1, e2⟩ := HS5.out.2.1.c
    obtain ⟨f0, f1, f2⟩ := HS5.out.2.1.z
    have x0 : w5.cell? ⟨p5, 0, none⟩ = some (.int .i64 0) := World.rowIs.cell HS5.out.2.2.1 (i := 0) (by decide)
    have x1 : w5.frozen? ⟨p5, 0, none⟩ = false := World.rowIs.frozen HS5.out.2.2.1 0
    have y0 : w5.cell? ⟨p6, 0, none⟩ = some (.int .i64 0) := World.rowIs.cell HS5.out.2.2.2 (i := 0) (by decide)
    have y1 : w5.frozen? ⟨p6, 0, none⟩ = false := World.rowIs.frozen HS5.out.2.2.2 0
    have ne4 : ¬ p5 = p4 := by omega
    have ne5 : ¬ p6 = p4 := by omega
    have ne6 : ¬ p6 = p5 := by omega
    have HF : Hid (Ev W (((((w5.setCell ⟨p4, 0, none⟩ (.int .i64 0)).setCell ⟨p4, 1, none⟩ (.int .i64 0)).setCell ⟨p4, 2, none⟩ (.int .i64 0)).setCell ⟨p5, 0, none⟩ (.int .i64 0)).setCell ⟨p6, 0, none⟩ (.int .i64 er))) := Lib.hid (((set3_ev HE5.out (show W.heap.size ≤ p4 by omega) 0 0 0).setC (show W.heap.size ≤ p5 by omega) _).setC (show W.heap.size ≤ p6 by omega) _)
    go_wp2_with fail
    exact bodyPost_ret (v := .tuple #[rd 0 0 0, .int .i64 0, .int .i64 er]) (by simp [results, Tryd.results22, go_sem, *]) rfl ⟨by rw [HR0.out]; rfl, HF.out⟩
end Go.Proofs.YtfiglmbnjfgdlaaDoor
