import Derived.Test.YtfiglmbnjfgdlaaDoorDM
namespace Go.Proofs.YtfiglmbnjfgdlaaDoor
open Go.RowKit
theorem RdI.of_ownF {w : World} {base : Nat} {v : Value} {L : List Int} (h : OwnI w base v L) (hl : L.length ≤ 9223372036854775807) : ∃ A cap, v = .slice A L.length cap ∧ RdI w A L ∧ ∀ a : Addr, A = some a → base ≤ a.block := by
  obtain ⟨A, c, rfl, hr⟩ := RdI.of_own h hl
  refine ⟨A, c, rfl, hr, fun a ha => ?_⟩
  subst ha
  rcases h.2 with ⟨h1, -⟩ | ⟨g, cap, cur, h1, hbg, -⟩
  · cases h1
  · cases h1
    exact hbg
theorem RdI.st {w : World} {A : Option Addr} {L : List Int} (h : RdI w A L) (p k : Nat) (v : Value) (hne : ∀ a : Addr, A = some a → a.block ≠ p) : RdI (w.setCell ⟨p, k, none⟩ v) A L := ⟨h.1, fun j hj => by
  obtain ⟨b, o, h1, h2, h3⟩ := h.2 j hj
  have hb : b ≠ p := hne _ h1
  exact ⟨b, o, h1, by simpa using h2, by rw [World.cell?_of_block (a := ⟨b, o + j, none⟩) (Below.heap_setCell w ⟨p, k, none⟩ v b hb)]; exact h3⟩⟩
/-- .. and the list lies in new memory -/
def StepF (W : World) (R : Res) (er : Int) (x : Ending) (w' : World) : Prop := ∃ A c, x = .returned (.tuple #[rd R.s R.f R.w, .slice A R.l.length c, .int .i64 R.m, .int .i64 er]) ∧ RdI w' A R.l ∧ (∀ a : Addr, A = some a → W.heap.size ≤ a.block) ∧ Ev W w'
theorem stF {W : World} {R : Res} {x : Ending} {w' : World} (hl : R.l.length ≤ 1) (h : StepP W R x w') : StepF W R 0 x w' := by
  obtain ⟨v, h1, h2, h3⟩ := h
  obtain ⟨A, c, rfl, h4, h5⟩ := RdI.of_ownF h2 (by omega)
  exact ⟨A, c, h1, h4, h5, h3⟩
theorem stepF_any (s f w e n : Int) (W : World) (hT : Tab W) : Calls Tryd.prog 12 #[rd s f w, .int .i64 e, .int .i64 n] W fun x w' => StepF W (stR s f w e n) (stE s f w e n) x w' := by
  by_cases h : stE s f w e n = 0
  · have hr : stR s f w e n = stp s f w e n := by unfold stR; rw [if_pos h]
    have h0 : ck s f w = 0 := by
      apply Classical.byContradiction
      intro hc
      unfold stE at h
      rw [if_neg hc] at h
      exact hc h
    have hv : cev s w e n = 0 := by unfold stE at h; rwa [if_pos h0] at h
    rw [h, hr]
    exact (step_ok s f w e n W hT h0 hv).mono fun x w' hh => stF (stp_len _ _ _ _ _) hh
  · have hr : stR s f w e n = ⟨0, 0, 0, [], 0⟩ := by unfold stR; rw [if_neg h]
    rw [hr]
    exact (step_bad s f w e n _ W hT rfl (by simpa using h)).mono fun x w' ⟨h1, h2⟩ => ⟨none, 0, h1, RdI.nil _, (fun a h => by cases h), h2⟩
theorem rstepF_any (s f w e n : Int) (W : World) : Calls Tryd.prog 13 #[rd s f w, .int .i64 e, .int .i64 n] W fun x w' => StepF W (stR s f w e n) (stE s f w e n) x w' := by
  by_cases h : stE s f w e n = 0
  · have hr : stR s f w e n = stp s f w e n := by unfold stR; rw [if_pos h]
    have h0 : ck s f w = 0 := by
      apply Classical.byContradiction
      intro hc
      unfold stE at h
      rw [if_neg hc] at h
      exact hc h
    have hv : cev s w e n = 0 := by unfold stE at h; rwa [if_pos h0] at h
    rw [h, hr]
    exact (rstep_ok s f w e n W h0 hv).mono fun x w' hh => stF (stp_len _ _ _ _ _) hh
  · have hr : stR s f w e n = ⟨0, 0, 0, [], 0⟩ := by unfold stR; rw [if_neg h]
    rw [hr]
    exact (rstep_bad s f w e n _ W rfl (by simpa using h)).mono fun x w' ⟨h1, h2⟩ => ⟨none, 0, h1, RdI.nil _, (fun a h => by cases h), h2⟩
theorem bg_rd (n : Int) : ∃ x y z, bgV n = rd x y z := by
  unfold bgV
  split
  · exact ⟨_, _, _, rfl⟩
  · exact ⟨_, _, _, rfl⟩
def set3 (W : World) (p : Nat) (a b c : Int) : World := ((W.setCell ⟨p, 0, none⟩ (.int .i64 a)).setCell ⟨p, 1, none⟩ (.int .i64 b)).setCell ⟨p, 2, none⟩ (.int .i64 c)
theorem set3_box {W : World} {p : Nat} {x y z : Int} (h : BoxR W p x y z) (a b c : Int) : BoxR (set3 W p a b c) p a b c := ((h.set0 a).set1 b).set2 c
theorem set3_oth {W : World} {p q : Nat} {x y z : Int} (h : BoxR W q x y z) (hne : q ≠ p) (a b c : Int) : BoxR (set3 W p a b c) q x y z := ((h.oth hne).oth hne).oth hne
theorem set3_ev {W0 W : World} {p : Nat} (h : Ev W0 W) (hp : W0.heap.size ≤ p) (a b c : Int) : Ev W0 (set3 W p a b c) := ((h.setC hp _).setC hp _).setC hp _
theorem set3_rd {W : World} {p : Nat} {A : Option Addr} {L : List Int} (h : RdI W A L) (hne : ∀ a : Addr, A = some a → a.block ≠ p) (a b c : Int) : RdI (set3 W p a b c) A L := ((h.st p 0 _ hne).st p 1 _ hne).st p 2 _ hne
set_option maxRecDepth 100000 in
set_option maxHeartbeats 16000000 in
theorem steps_law (s f w e n : Int) (W : World) (hT : Tab W) : Calls Tryd.prog 3 #[rd s f w, .int .i64 e, .int .i64 n] W fun x w' => x = .returned (.bool true) ∧ Ev W w' := by
  have HTT := Lib.hid hT
  have HF := Lib.hid eqR
  have HE0 : Hid (Ev W (W.alloc (rdO s f w))) := Lib.hid (al1 _ _)
  have HB0 := Lib.hid (BoxR.new W s f w)
  have C1 := Lib.hid fun W => begin_any n W
  have C2 := Lib.hid fun W => rbegin_any n W
  have C3 := Lib.hid fun W => check_any s f w W
  have C4 := Lib.hid fun W => rcheck_any s f w W
  have C5 := Lib.hid fun W h => stepF_any s f w e n W h
  have C6 := Lib.hid fun W => rstepF_any s f w e n W
  have C7 := Lib.hid fun W h => events_any s f w W h
  have C8 := Lib.hid fun W => revents_any s f w W
  have C9 := Lib.hid fun W => needs_any s f w W
  have C10 := Lib.hid fun W => rneeds_any s f w W
  have C11 := Lib.hid fun W => frames_any s f w W
  have C12 := Lib.hid fun W => rframes_any s f w W
  unfold StepF at C5 C6
  unfold ListQ at C7 C8 C11 C12
  have hl1 := stR_len s f w e n
  obtain ⟨x, y, z, hxyz⟩ := bg_rd n
  rw [hxyz] at C1 C2
  have hq : ∀ x : Int, (x != x) = false := fun x => by simp
  have q1 := hq (bgE n)
  have q2 := hq (ck s f w)
  have q3 := hq (stE s f w e n)
  have q4 := hq (stR s f w e n).m
  have q5 : (ck s f w == ck s f w) = true := by simp
  have q6 : (ndV s f w == ndV s f w) = true := by simp
  clear hq hxyz hT
  generalize bgE n = er1 at *
  generalize ck s f w = er2 at *
  generalize stE s f w e n = er3 at *
  generalize stR s f w e n = R at *
  generalize evL s f w = L2 at *
  generalize ndV s f w = nd at *
  generalize frL s f w = L3 at *
  obtain ⟨s1, f1, w1', L1, m1⟩ := R
  simp only [] at C5 C6 q4 hl1
  go_enter Tryd.func3, Tryd.ntmps3
  go_wp2_with fail
  refine (C1.out _).mono ?_
  rintro e1 w1 ⟨rfl, hev⟩
  have HE1 := Lib.hid (HE0.out.step hev)
  have HB1 := Lib.hid (HB0.out.ev hev)
  clear hev
  go_wp2_with fail
  refine (C2.out _).mono ?_
  rintro e1 w2 ⟨rfl, hev⟩
  have HE2 := Lib.hid ((HE1.out.alloc (rdO x y z)).step hev)
  have HB2 := Lib.hid ((HB1.out.al (rdO x y z)).ev hev)
  have HP2 := Lib.hid ((BoxR.new w1 x y z).ev hev)
  have HLA := Lib.hid (World.rowIs.lt HB1.out)
  have HLB := Lib.hid (World.rowIs.lt HP2.out)
  clear hev
  have HE3 := Lib.hid (HE2.out.alloc (rdO x y z))
  have HB3 := Lib.hid (HB2.out.al (rdO x y z))
  have HP3 := Lib.hid (HP2.out.al (rdO x y z))
  have HQ3 := Lib.hid (BoxR.new w2 x y z)
  have hla := HLA.out
  have hlb := HLB.out
  go_upto_region 3 with fail
  generalize (w2.alloc (rdO x y z)) = w3 at *
  generalize w2.heap.size = q at *
  generalize w1.heap.size = p at *
  obtain ⟨b0, b1, b2⟩ := HB3.out.c
  obtain ⟨c0, c1, c2⟩ := HP3.out.c
  obtain ⟨d0, d1, d2⟩ := HQ3.out.c
  have HS : Hid (∀ W', Ev w3 W' → ((W'.cell? ⟨W.heap.size, 0, none⟩ = some (.int .i64 s) ∧ W'.cell? ⟨W.heap.size, 1, none⟩ = some (.int .i64 f) ∧ W'.cell? ⟨W.heap.size, 2, none⟩ = some (.int .i64 w)) ∧ (W'.cell? ⟨p, 0, none⟩ = some (.int .i64 x) ∧ W'.cell? ⟨p, 1, none⟩ = some (.int .i64 y) ∧ W'.cell? ⟨p, 2, none⟩ = some (.int .i64 z)) ∧ W'.cell? ⟨q, 0, none⟩ = some (.int .i64 x) ∧ W'.cell? ⟨q, 1, none⟩ = some (.int .i64 y) ∧ W'.cell? ⟨q, 2, none⟩ = some (.int .i64 z)) ∧ Ev w3 W') := Lib.hid fun W' e => ⟨⟨(HB3.out.ev e).c, (HP3.out.ev e).c, (HQ3.out.ev e).c⟩, e⟩
  have H10 : Hid (∀ W', Ev w3 W' → Calls Tryd.prog 10 #[rd s f w] W' fun e w' => e = .returned (.int .i64 er2) ∧ Ev w3 w') := Lib.hid fun W' e => ev_call e (C3.out W')
  have H11 : Hid (∀ W', Ev w3 W' → Calls Tryd.prog 11 #[rd s f w] W' fun e w' => e = .returned (.int .i64 er2) ∧ Ev w3 w') := Lib.hid fun W' e => ev_call e (C4.out W')
  clear hla hlb b0 b1 b2 c0 c1 c2 d0 d1 d2
  have hev := Ev.refl w3
  have dd := HS.out _ hev
  have hf := HF.out
  go_wp2_with fail
  go_region_held3 (fun W' => ((W'.cell? ⟨W.heap.size, 0, none⟩ = some (.int .i64 s) ∧ W'.cell? ⟨W.heap.size, 1, none⟩ = some (.int .i64 f) ∧ W'.cell? ⟨W.heap.size, 2, none⟩ = some (.int .i64 w)) ∧ (W'.cell? ⟨p, 0, none⟩ = some (.int .i64 x) ∧ W'.cell? ⟨p, 1, none⟩ = some (.int .i64 y) ∧ W'.cell? ⟨p, 2, none⟩ = some (.int .i64 z)) ∧ W'.cell? ⟨q, 0, none⟩ = some (.int .i64 x) ∧ W'.cell? ⟨q, 1, none⟩ = some (.int .i64 y) ∧ W'.cell? ⟨q, 2, none⟩ = some (.int .i64 z)) ∧ Ev w3 W')
    (first | with_reducible exact HS.out _ (by with_reducible assumption) | with_reducible exact HS.out _ (Ev.drew (by with_reducible assumption)))
    (first | (go_at_call 10; refine (H10.out _ (by first | assumption | exact Ev.drew (by with_reducible assumption))).mono ?_; clear hev; rintro e w' ⟨rfl, hev⟩) | (go_at_call 11; refine (H11.out _ (by first | assumption | exact Ev.drew (by with_reducible assumption))).mono ?_; clear hev; rintro e w' ⟨rfl, hev⟩))
  all_goals
    have HE4 := Lib.hid hev
    have HP4 := Lib.hid (HP3.out.ev hev)
    have HQ4 := Lib.hid (HQ3.out.ev hev)
    have HB4 := Lib.hid (HB3.out.ev hev)
    have hlp := World.rowIs.lt HP4.out
    have hlq := World.rowIs.lt HQ4.out
    have HLP := Lib.hid hlp
    have HLQ := Lib.hid hlq
    have HPQ : Hid (W.heap.size < p ∧ p < q) := Lib.hid ⟨HLA.out, HLB.out⟩
    clear dd hev hf hlp hlq
    obtain ⟨b0, b1, b2⟩ := HB4.out.c
    go_wp2_with fail
    refine (C5.out _ (HTT.out.ev (HE3.out.step HE4.out))).mono ?_
    rintro e5 w5 ⟨A5, c5, rfl, hr5, hf5, hev⟩
    have HE5 := Lib.hid ((HE3.out.step HE4.out).step hev)
    have HB5 := Lib.hid (HB4.out.ev hev)
    have HP5 := Lib.hid (HP4.out.ev hev)
    have HQ5 := Lib.hid (HQ4.out.ev hev)
    have HR5 := Lib.hid hr5
    have HFP : Hid (∀ a : Addr, A5 = some a → a.block ≠ p) := Lib.hid (fun a ha => by have := hf5 a ha; have := HLP.out; omega)
    have HFQ : Hid (∀ a : Addr, A5 = some a → a.block ≠ q) := Lib.hid (fun a ha => by have := hf5 a ha; have := HLQ.out; omega)
    clear hev hr5 hf5 b0 b1 b2
    obtain ⟨c0, c1, c2⟩ := HP5.out.c
    obtain ⟨z0, z1, z2⟩ := HP5.out.z
    have HBX : Hid (BoxR (((w5.setCell ⟨p, 0, none⟩ (.int .i64 s1)).setCell ⟨p, 1, none⟩ (.int .i64 f1)).setCell ⟨p, 2, none⟩ (.int .i64 w1')) W.heap.size s f w) := Lib.hid (set3_oth HB5.out (by have := HPQ.out; omega) s1 f1 w1')
    have HPX : Hid (BoxR (((w5.setCell ⟨p, 0, none⟩ (.int .i64 s1)).setCell ⟨p, 1, none⟩ (.int .i64 f1)).setCell ⟨p, 2, none⟩ (.int .i64 w1')) p s1 f1 w1') := Lib.hid (set3_box HP5.out s1 f1 w1')
    have HQX : Hid (BoxR (((w5.setCell ⟨p, 0, none⟩ (.int .i64 s1)).setCell ⟨p, 1, none⟩ (.int .i64 f1)).setCell ⟨p, 2, none⟩ (.int .i64 w1')) q x y z) := Lib.hid (set3_oth HQ5.out (by have := HPQ.out; omega) s1 f1 w1')
    have HEX : Hid (Ev W (((w5.setCell ⟨p, 0, none⟩ (.int .i64 s1)).setCell ⟨p, 1, none⟩ (.int .i64 f1)).setCell ⟨p, 2, none⟩ (.int .i64 w1'))) := Lib.hid (set3_ev HE5.out (by have := HPQ.out; omega) s1 f1 w1')
    have HRX : Hid (RdI (((w5.setCell ⟨p, 0, none⟩ (.int .i64 s1)).setCell ⟨p, 1, none⟩ (.int .i64 f1)).setCell ⟨p, 2, none⟩ (.int .i64 w1')) A5 L1) := Lib.hid (set3_rd HR5.out HFP.out s1 f1 w1')
    go_upto_region 6 with fail
    generalize (((w5.setCell ⟨p, 0, none⟩ (.int .i64 s1)).setCell ⟨p, 1, none⟩ (.int .i64 f1)).setCell ⟨p, 2, none⟩ (.int .i64 w1')) = w6 at *
    clear c0 c1 c2 z0 z1 z2
    obtain ⟨b0, b1, b2⟩ := HBX.out.c
    go_wp2_with fail
    refine (C6.out _).mono ?_
    rintro e7 w7 ⟨A7, c7, rfl, hr7, hf7, hev⟩
    have hlq := World.rowIs.lt HQX.out
    have HE7 := Lib.hid (HEX.out.step hev)
    have HB7 := Lib.hid (HBX.out.ev hev)
    have HP7 := Lib.hid (HPX.out.ev hev)
    have HQ7 := Lib.hid (HQX.out.ev hev)
    have HR7 := Lib.hid hr7
    have HR57 := Lib.hid (HRX.out.ev hev)
    have HF7 : Hid (∀ a : Addr, A7 = some a → a.block ≠ q) := Lib.hid (fun a ha => by have := hf7 a ha; omega)
    clear hev hr7 hf7 hlq b0 b1 b2
    obtain ⟨c0, c1, c2⟩ := HQ7.out.c
    obtain ⟨z0, z1, z2⟩ := HQ7.out.z
    have HBY : Hid (BoxR (((w7.setCell ⟨q, 0, none⟩ (.int .i64 s1)).setCell ⟨q, 1, none⟩ (.int .i64 f1)).setCell ⟨q, 2, none⟩ (.int .i64 w1')) W.heap.size s f w) := Lib.hid (set3_oth HB7.out (by have := HPQ.out; omega) s1 f1 w1')
    have HPY : Hid (BoxR (((w7.setCell ⟨q, 0, none⟩ (.int .i64 s1)).setCell ⟨q, 1, none⟩ (.int .i64 f1)).setCell ⟨q, 2, none⟩ (.int .i64 w1')) p s1 f1 w1') := Lib.hid (set3_oth HP7.out (by have := HPQ.out; omega) s1 f1 w1')
    have HQY : Hid (BoxR (((w7.setCell ⟨q, 0, none⟩ (.int .i64 s1)).setCell ⟨q, 1, none⟩ (.int .i64 f1)).setCell ⟨q, 2, none⟩ (.int .i64 w1')) q s1 f1 w1') := Lib.hid (set3_box HQ7.out s1 f1 w1')
    have HEY : Hid (Ev W (((w7.setCell ⟨q, 0, none⟩ (.int .i64 s1)).setCell ⟨q, 1, none⟩ (.int .i64 f1)).setCell ⟨q, 2, none⟩ (.int .i64 w1'))) := Lib.hid (set3_ev HE7.out (by have := HPQ.out; omega) s1 f1 w1')
    have HRY : Hid (RdI (((w7.setCell ⟨q, 0, none⟩ (.int .i64 s1)).setCell ⟨q, 1, none⟩ (.int .i64 f1)).setCell ⟨q, 2, none⟩ (.int .i64 w1')) A7 L1) := Lib.hid (set3_rd HR7.out HF7.out s1 f1 w1')
    have HR5Y : Hid (RdI (((w7.setCell ⟨q, 0, none⟩ (.int .i64 s1)).setCell ⟨q, 1, none⟩ (.int .i64 f1)).setCell ⟨q, 2, none⟩ (.int .i64 w1')) A5 L1) := Lib.hid (set3_rd HR57.out HFQ.out s1 f1 w1')
    go_upto_region 7 with fail
    generalize (((w7.setCell ⟨q, 0, none⟩ (.int .i64 s1)).setCell ⟨q, 1, none⟩ (.int .i64 f1)).setCell ⟨q, 2, none⟩ (.int .i64 w1')) = w8 at *
    clear c0 c1 c2 z0 z1 z2
    obtain ⟨c0, c1, c2⟩ := HPY.out.c
    obtain ⟨d0, d1, d2⟩ := HQY.out.c
    have hf := HF.out
    go_wp2_with fail
    refine (sameI A5 A7 c5 c7 L1 _ HR5Y.out HRY.out).mono ?_
    rintro e wk1 ⟨rfl, hev⟩
    have HEV1 := Lib.hid hev
    clear hev
    clear hf c0 c1 c2 d0 d1 d2
    obtain ⟨b0, b1, b2⟩ := (HBY.out.ev ((Ev.refl _).step HEV1.out)).c
    go_wp2_with fail
    refine (C7.out _ (HTT.out.ev (HEY.out.step ((Ev.refl _).step HEV1.out)))).mono ?_
    rintro e wk2 ⟨A9, c9, rfl, hR9, hev⟩
    have HEV2 := Lib.hid hev
    have HR9 := Lib.hid hR9
    clear hev hR9
    clear b0 b1 b2
    obtain ⟨b0, b1, b2⟩ := (HBY.out.ev (((Ev.refl _).step HEV1.out).step HEV2.out)).c
    go_wp2_with fail
    refine (C8.out _).mono ?_
    rintro e wk3 ⟨A10, c10, rfl, hR10, hev⟩
    have HEV3 := Lib.hid hev
    have HR10 := Lib.hid hR10
    clear hev hR10
    clear b0 b1 b2
    go_wp2_with fail
    refine (sameI A9 A10 c9 c10 L2 _ (HR9.out.ev ((Ev.refl _).step HEV3.out)) (HR10.out.ev (Ev.refl _))).mono ?_
    rintro e wk4 ⟨rfl, hev⟩
    have HEV4 := Lib.hid hev
    clear hev
    obtain ⟨b0, b1, b2⟩ := (HBY.out.ev (((((Ev.refl _).step HEV1.out).step HEV2.out).step HEV3.out).step HEV4.out)).c
    go_wp2_with fail
    refine (C9.out _).mono ?_
    rintro e wk5 ⟨rfl, hev⟩
    have HEV5 := Lib.hid hev
    clear hev
    clear b0 b1 b2
    obtain ⟨b0, b1, b2⟩ := (HBY.out.ev ((((((Ev.refl _).step HEV1.out).step HEV2.out).step HEV3.out).step HEV4.out).step HEV5.out)).c
    go_wp2_with fail
    refine (C10.out _).mono ?_
    rintro e wk6 ⟨rfl, hev⟩
    have HEV6 := Lib.hid hev
    clear hev
    clear b0 b1 b2
    obtain ⟨b0, b1, b2⟩ := (HBY.out.ev (((((((Ev.refl _).step HEV1.out).step HEV2.out).step HEV3.out).step HEV4.out).step HEV5.out).step HEV6.out)).c
    go_wp2_with fail
    refine (C11.out _).mono ?_
    rintro e wk7 ⟨A11, c11, rfl, hR11, hev⟩
    have HEV7 := Lib.hid hev
    have HR11 := Lib.hid hR11
    clear hev hR11
    clear b0 b1 b2
    obtain ⟨b0, b1, b2⟩ := (HBY.out.ev ((((((((Ev.refl _).step HEV1.out).step HEV2.out).step HEV3.out).step HEV4.out).step HEV5.out).step HEV6.out).step HEV7.out)).c
    go_wp2_with fail
    refine (C12.out _).mono ?_
    rintro e wk8 ⟨A12, c12, rfl, hR12, hev⟩
    have HEV8 := Lib.hid hev
    have HR12 := Lib.hid hR12
    clear hev hR12
    clear b0 b1 b2
    go_wp2_with fail
    refine (sameI A11 A12 c11 c12 L3 _ (HR11.out.ev ((Ev.refl _).step HEV8.out)) (HR12.out.ev (Ev.refl _))).mono ?_
    rintro e wk9 ⟨rfl, hev⟩
    have HEV9 := Lib.hid hev
    clear hev
    go_wp2_with fail
    refine (awake_any _ (HTT.out.ev (HEY.out.step ((((((((((Ev.refl _).step HEV1.out).step HEV2.out).step HEV3.out).step HEV4.out).step HEV5.out).step HEV6.out).step HEV7.out).step HEV8.out).step HEV9.out)))).mono ?_
    rintro e wk10 ⟨rfl, hev⟩
    have HEV10 := Lib.hid hev
    clear hev
    go_wp2_with fail
    go_ret
    exact ⟨rfl, HEY.out.step (((((((((((Ev.refl _).step HEV1.out).step HEV2.out).step HEV3.out).step HEV4.out).step HEV5.out).step HEV6.out).step HEV7.out).step HEV8.out).step HEV9.out).step HEV10.out)⟩
end Go.Proofs.YtfiglmbnjfgdlaaDoor
