import Derived.Test.YtdkfedbjbcaajaaDoorSC
namespace Go.Proofs.YtdkfedbjbcaajaaDoor
open Go.RowKit
theorem ruV_len (l : List Int) (cs : List (Int × Int)) : (ruV l cs).1.length ≤ l.length := by
  unfold ruV; split
  · exact runS_len _ _ _
  · simp
theorem run_r (A B : Option Addr) (c d : Nat) (l : List Int) (cs : List (Int × Int)) (w : World) (hl : l.length ≤ 1000) (hr : RdI w A l) (hA : A = none → l = []) (hcs : RdC w B cs) (hc : cs.length ≤ 1000) (hT : Tab w) :
    Calls Tryd.prog 21 #[.slice A l.length c, .slice B cs.length d] w fun e w' => SomeL w (ruV l cs).1 (ruV l cs).2.1 (ruV l cs).2.2 e w' :=
  (run_any A B c d l cs w hr hA hcs hc hT).mono fun e w' ⟨v, h1, h2, h3⟩ => by
    obtain ⟨A', c', rfl, h4⟩ := RdI.of_own h2 (by have := ruV_len l cs; omega)
    exact ⟨A', c', h1, h4, h3⟩
theorem change_r (A : Option Addr) (c : Nat) (l : List Int) (f r : Int) (w : World) (hl : l.length ≤ 1000) (hr : RdI w A l) (hA : A = none → l = []) (hT : Tab w) :
    Calls Tryd.prog 23 #[.slice A l.length c, .int .i64 f, .int .i64 r] w fun e w' => ∃ B d, e = .returned (.tuple #[.slice B (ruV l [(f, r)]).1.length d, .int .i64 (ruV l [(f, r)]).2.1]) ∧ RdI w' B (ruV l [(f, r)]).1 ∧ Ev w w' :=
  (change_any A c l f r w hr hA hT).mono fun e w' ⟨v, h1, h2, h3⟩ => by
    obtain ⟨A', c', rfl, h4⟩ := RdI.of_own h2 (by have := ruV_len l [(f, r)]; omega)
    exact ⟨A', c', h1, h4, h3⟩
theorem rchange_r (A : Option Addr) (c : Nat) (l : List Int) (f r : Int) (w : World) (hl : l.length ≤ 1000) (hr : RdI w A l) (hA : A = none → l = []) :
    Calls Tryd.prog 24 #[.slice A l.length c, .int .i64 f, .int .i64 r] w fun e w' => ∃ B d, e = .returned (.tuple #[.slice B (ruV l [(f, r)]).1.length d, .int .i64 (ruV l [(f, r)]).2.1]) ∧ RdI w' B (ruV l [(f, r)]).1 ∧ Ev w w' :=
  (rchange_any A c l f r w hr hA).mono fun e w' ⟨v, h1, h2, h3⟩ => by
    obtain ⟨A', c', rfl, h4⟩ := RdI.of_own h2 (by have := ruV_len l [(f, r)]; omega)
    exact ⟨A', c', h1, h4, h3⟩
set_option maxRecDepth 100000 in
set_option maxHeartbeats 16000000 in
theorem changes_law (A B : Option Addr) (c d n : Nat) (l : List Int) (w : World) (hr : RdI w A l) (hA : A = none → l = [] ∧ c = 0) (hB : n ≤ 4000000000 → ∃ cs : List (Int × Int), cs.length = n ∧ RdC w B cs) (hT : Tab w) : Calls Tryd.prog 4 #[.slice A l.length c, .slice B n d] w fun e w' => e = .returned (.bool true) ∧ Ev w w' := by
  have HTT := Lib.hid hT
  have HR := Lib.hid hr
  have HA := Lib.hid hA
  clear hT hr hA
  by_cases hgd : ((60 < l.length ∧ l.length ≤ 256) ∨ 260 < l.length) ∨ 40 < n
  · clear hB
    rcases (show (60 < (l.length : Int) ∧ (l.length : Int) ≤ 256) ∨ (60 < (l.length : Int) ∧ ¬ (l.length : Int) ≤ 256 ∧ 260 < (l.length : Int)) ∨ (60 < (l.length : Int) ∧ ¬ (l.length : Int) ≤ 256 ∧ ¬ 260 < (l.length : Int) ∧ 40 < (n : Int)) ∨ (¬ 60 < (l.length : Int) ∧ ¬ 260 < (l.length : Int) ∧ 40 < (n : Int)) by omega) with ⟨g1, g2⟩ | ⟨g1, g2, g3⟩ | ⟨g1, g2, g3, g4⟩ | ⟨g1, g2, g3⟩
    all_goals
      clear hgd
      go_enter Tryd.func4, Tryd.ntmps4
      go_wp2_with fail
      refine (awake_any w HTT.out).mono ?_
      rintro e w5 ⟨rfl, hev⟩
      have HE5 := Lib.hid hev
      clear hev
      go_wp2_with fail
      go_ret
      exact ⟨rfl, HE5.out⟩
  · have HL := Lib.hid (show l.length ≤ 260 by omega)
    obtain ⟨cs, rfl, hcs⟩ := hB (by omega)
    have HCS := Lib.hid hcs
    have HN := Lib.hid (show cs.length ≤ 40 by omega)
    clear hB hcs
    have C0 := Lib.hid (OwnInts_any A c l w HR.out HA.out (by have := HL.out; omega))
    have C1 := Lib.hid fun A' c' W (h : RdI W A' l) => check_any A' c' l W h
    have C2 := Lib.hid fun A' c' W (h : RdI W A' l) => rcheck_any A' c' l W h
    have C3 := Lib.hid fun A' c' W (h : RdI W A' l) (hA : A' = none → l = []) h2 h4 => run_r A' B c' d l cs W (by have := HL.out; omega) h hA h2 (by have := HN.out; omega) h4
    have C4 := Lib.hid fun W (h : RdI W A l) h2 => rrun_any A B c d l cs W h HA.out h2 (by have := HN.out; omega)
    have C5 := Lib.hid fun A' c' f r W (h : RdI W A' l) (hA : A' = none → l = []) h4 => change_r A' c' l f r W (by have := HL.out; omega) h hA h4
    have C6 := Lib.hid fun f r W (h : RdI W A l) => rchange_r A c l f r W (by have := HL.out; omega) h (fun h => (HA.out h).1)
    have hq : ∀ x : Int, (x != x) = false := fun x => by simp
    have q1 := hq (chkV l).1
    have q2 := hq (chkV l).2
    have q3 := hq (ruV l cs).2.1
    have q4 := hq (ruV l cs).2.2
    have HQ := Lib.hid hq
    clear hq
    unfold SomeL at C3 C4
    generalize (chkV l).1 = e1 at *
    generalize (chkV l).2 = e2 at *
    generalize (ruV l cs).1 = x1 at *
    generalize (ruV l cs).2.1 = e3 at *
    generalize (ruV l cs).2.2 = e4 at *
    have g5 : ¬ 40 < (cs.length : Int) := by omega
    rcases (show ¬ (60 < (l.length : Int)) ∧ ¬ (260 < (l.length : Int)) ∨ (60 < (l.length : Int) ∧ ¬ (l.length : Int) ≤ 256 ∧ ¬ (260 < (l.length : Int))) by omega) with ⟨g1, g2⟩ | ⟨g1, g2, g3⟩
    all_goals
      clear hgd
      go_enter Tryd.func4, Tryd.ntmps4
      go_wp2_with fail
      refine (C0.out).mono ?_
      rintro e wk1 ⟨A1, c1, rfl, hR1, hN1, hev⟩
      have HEV1 := Lib.hid hev
      have HR1 := Lib.hid hR1
      have HN1 := Lib.hid hN1
      clear hev hR1 hN1
      go_wp2_with fail
      refine (C1.out A1 c1 _ (HR1.out.ev (Ev.refl _))).mono ?_
      rintro e wx2 ⟨rfl, rfl⟩
      go_wp2_with fail
      refine (C2.out A c _ (HR.out.ev ((Ev.refl _).step HEV1.out))).mono ?_
      rintro e wx3 ⟨rfl, rfl⟩
      go_wp2_with fail
      refine (C3.out A1 c1 _ (HR1.out.ev (Ev.refl _)) HN1.out (HCS.out.ev ((Ev.refl _).step HEV1.out)) (HTT.out.ev ((Ev.refl _).step HEV1.out))).mono ?_
      rintro e wk4 ⟨A3, c3, rfl, hR3, hev⟩
      have HEV4 := Lib.hid hev
      have HR3 := Lib.hid hR3
      clear hev hR3
      go_wp2_with fail
      refine (C4.out _ (HR.out.ev (((Ev.refl _).step HEV1.out).step HEV4.out)) (HCS.out.ev (((Ev.refl _).step HEV1.out).step HEV4.out))).mono ?_
      rintro e wk5 ⟨A4, c4, rfl, hR4, hev⟩
      have HEV5 := Lib.hid hev
      have HR4 := Lib.hid hR4
      clear hev hR4
      go_wp2_with fail
      refine (sameI A3 A4 c3 c4 x1 _ (HR3.out.ev ((Ev.refl _).step HEV5.out)) (HR4.out.ev (Ev.refl _))).mono ?_
      rintro e wk6 ⟨rfl, hev⟩
      have HEV6 := Lib.hid hev
      clear hev
      clear q1 q2 q3 q4
      by_cases h0 : cs.length = 0
      · have g6 : ¬ 0 < (cs.length : Int) := by omega
        clear h0
        go_wp2_with fail
        refine (sameI A1 A c1 c l _ (HR1.out.ev ((((Ev.refl _).step HEV4.out).step HEV5.out).step HEV6.out)) (HR.out.ev (((((Ev.refl _).step HEV1.out).step HEV4.out).step HEV5.out).step HEV6.out))).mono ?_
        rintro e wk7 ⟨rfl, hev⟩
        have HEV7 := Lib.hid hev
        clear hev
        go_wp2_with fail
        refine (awake_any _ (HTT.out.ev ((((((Ev.refl _).step HEV1.out).step HEV4.out).step HEV5.out).step HEV6.out).step HEV7.out))).mono ?_
        rintro e wk8 ⟨rfl, hev⟩
        have HEV8 := Lib.hid hev
        clear hev
        go_wp2_with fail
        go_ret
        exact ⟨rfl, (((((((Ev.refl _).step HEV1.out).step HEV4.out).step HEV5.out).step HEV6.out).step HEV7.out).step HEV8.out)⟩
      · have g6 : 0 < (cs.length : Int) := by omega
        obtain ⟨b, o, rfl, hb, k1, k2⟩ := (HCS.out.ev (((((Ev.refl _).step HEV1.out).step HEV4.out).step HEV5.out).step HEV6.out)) 0 (by omega)
        simp only [Nat.zero_mul, Nat.add_zero] at k1 k2
        generalize (cs.getD 0 (0, 0)).1 = f at *
        generalize (cs.getD 0 (0, 0)).2 = r at *
        have g7 : (0 : Int) ≤ 0 := by omega
        have q5 := HQ.out (ruV l [(f, r)]).2.1
        have C5 := Lib.hid fun A' c' W h hA h4 => C5.out A' c' f r W h hA h4
        have C6 := Lib.hid fun W h => C6.out f r W h
        have HL5 := Lib.hid (ruV_len l [(f, r)])
        generalize (ruV l [(f, r)]).1 = x5 at *
        generalize (ruV l [(f, r)]).2.1 = e5 at *
        have HSS : Hid (∀ W, Ev wk6 W → (W.cell? ⟨b, o, none⟩ = some (.int .i64 f) ∧ W.cell? ⟨b, o + 1, none⟩ = some (.int .i64 r)) ∧ Ev wk6 W) := Lib.hid fun W h => ⟨⟨(h.cell (p := ⟨b, o, none⟩) hb).trans k1, (h.cell (p := ⟨b, o + 1, none⟩) hb).trans k2⟩, h⟩
        clear k1 k2 h0 hb
        have dd := HSS.out _ (Ev.refl wk6)
        go_wp2_with fail
        go_region_held3 (fun W => (W.cell? ⟨b, o, none⟩ = some (.int .i64 f) ∧ W.cell? ⟨b, o + 1, none⟩ = some (.int .i64 r)) ∧ Ev wk6 W)
          ((refine HSS.out _ ?_; first | (with_reducible assumption) | (with_reducible exact Ev.drew (Ev.refl _))))
          ((go_at_call 23; refine (C5.out A1 c1 _ (HR1.out.ev (Ev.step ((((Ev.refl _).step HEV4.out).step HEV5.out).step HEV6.out) (Ev.drew (Ev.refl _)))) HN1.out (HTT.out.ev (Ev.step (((((Ev.refl _).step HEV1.out).step HEV4.out).step HEV5.out).step HEV6.out) (Ev.drew (Ev.refl _))))).mono ?_; rintro e w8 ⟨A8, c8, rfl, hr8, hev8⟩; have hE8 : Ev wk6 w8 := Ev.step (Ev.drew (Ev.refl _)) hev8))
        have HR8 := Lib.hid hr8
        have HE8 := Lib.hid hE8
        clear dd hr8 hev8 hE8
        have hd9 := HSS.out _ HE8.out
        go_wp2_with fail
        go_region_held3 (fun W => (W.cell? ⟨b, o, none⟩ = some (.int .i64 f) ∧ W.cell? ⟨b, o + 1, none⟩ = some (.int .i64 r)) ∧ Ev wk6 W)
          ((refine HSS.out _ ?_; first | (with_reducible assumption) | (with_reducible exact Ev.drew HE8.out)))
          ((go_at_call 24; refine (C6.out _ (HR.out.ev (Ev.step ((((((Ev.refl _).step HEV1.out).step HEV4.out).step HEV5.out).step HEV6.out).step HE8.out) (Ev.drew (Ev.refl _))))).mono ?_; rintro e w9 ⟨A9, c9, rfl, hr9, hev9⟩; have hE9 : Ev wk6 w9 := Ev.step (Ev.drew HE8.out) hev9; have hE89 : Ev w8 w9 := Ev.step (Ev.drew (Ev.refl _)) hev9))
        have HR9 := Lib.hid hr9
        have HE9 := Lib.hid hE89
        clear hd9 hr9 hev9 hE9 hE89
        go_wp2_with fail
        refine (sameI A8 A9 c8 c9 x5 _ (HR8.out.ev ((Ev.refl _).step HE9.out)) (HR9.out.ev (Ev.refl _))).mono ?_
        rintro e wk7 ⟨rfl, hev⟩
        have HEV7 := Lib.hid hev
        clear hev
        go_wp2_with fail
        refine (sameI A1 A c1 c l _ (HR1.out.ev (((((((Ev.refl _).step HEV4.out).step HEV5.out).step HEV6.out).step HE8.out).step HE9.out).step HEV7.out)) (HR.out.ev ((((((((Ev.refl _).step HEV1.out).step HEV4.out).step HEV5.out).step HEV6.out).step HE8.out).step HE9.out).step HEV7.out))).mono ?_
        rintro e wk8 ⟨rfl, hev⟩
        have HEV8 := Lib.hid hev
        clear hev
        go_wp2_with fail
        refine (awake_any _ (HTT.out.ev (((((((((Ev.refl _).step HEV1.out).step HEV4.out).step HEV5.out).step HEV6.out).step HE8.out).step HE9.out).step HEV7.out).step HEV8.out))).mono ?_
        rintro e wk9 ⟨rfl, hev⟩
        have HEV9 := Lib.hid hev
        clear hev
        go_wp2_with fail
        go_ret
        exact ⟨rfl, ((((((((((Ev.refl _).step HEV1.out).step HEV4.out).step HEV5.out).step HEV6.out).step HE8.out).step HE9.out).step HEV7.out).step HEV8.out).step HEV9.out)⟩
end Go.Proofs.YtdkfedbjbcaajaaDoor
