import Derived.Test.YtdkfedbjbcaajaaDoorRZ
import Derived.Test.YtdkfedbjbcaajaaDoorRQ
namespace Go.Proofs.YtdkfedbjbcaajaaDoor
open Go.RowKit

set_option maxRecDepth 100000 in
set_option maxHeartbeats 16000000 in
theorem looks_law (A : Option Addr) (c : Nat) (l : List Int) (r : Int) (w : World) (hr : RdI w A l) (hT : Tab w) : Calls Tryd.prog 5 #[.slice A l.length c, .int .i64 r] w fun e w' => e = .returned (.bool true) ∧ Ev w w' := by
  have HTT := Lib.hid hT
  have HR := Lib.hid hr
  clear hT hr
  by_cases hgd : (60 < l.length ∧ l.length ≤ 256) ∨ 260 < l.length
  · rcases (show (60 < (l.length : Int) ∧ (l.length : Int) ≤ 256) ∨ (60 < (l.length : Int) ∧ ¬ (l.length : Int) ≤ 256 ∧ 260 < (l.length : Int)) by omega) with ⟨g1, g2⟩ | ⟨g1, g2, g3⟩
    all_goals
      clear hgd
      go_enter Tryd.func5, Tryd.ntmps5
      go_wp2_with fail
      refine (awake_any w HTT.out).mono ?_
      rintro e w5 ⟨rfl, hev⟩
      have HE5 := Lib.hid hev
      clear hev
      go_wp2_with fail
      go_ret
      exact ⟨rfl, HE5.out⟩
  · have HL := Lib.hid (show l.length ≤ 260 by omega)
    have C1 := Lib.hid fun W (h : RdI W A l) => of_any A c l r W h
    have C2 := Lib.hid fun W (h : RdI W A l) => rof_any A c l r W h
    have C3 := Lib.hid fun W (h : RdI W A l) => counts_any A c l W h
    have C4 := Lib.hid fun W (h : RdI W A l) => rcounts_any A c l W h
    have C5 := Lib.hid fun W (h : RdI W A l) => text_any A c l W h
    have C6 := Lib.hid fun W (h : RdI W A l) => rtext_any A c l W h
    have L1 := Lib.hid (ofL_len l r)
    have hq : ∀ x : Int, (x != x) = false := fun x => by simp
    have q1 := hq (ofE l r)
    have q2 := hq (chkV l).1
    have q3 : ((chkV l).1 == (chkV l).1) = true := by simp
    clear hq
    generalize ofL l r = x1 at *
    generalize ofE l r = e1 at *
    generalize ctL l = x2 at *
    generalize (chkV l).1 = e2 at *
    generalize tsV l = s at *
    rcases (show ¬ (60 < (l.length : Int)) ∧ ¬ (260 < (l.length : Int)) ∨ (60 < (l.length : Int) ∧ ¬ (l.length : Int) ≤ 256 ∧ ¬ (260 < (l.length : Int))) by omega) with ⟨g1, g2⟩ | ⟨g1, g2, g3⟩
    all_goals
      clear hgd
      go_enter Tryd.func5, Tryd.ntmps5
      go_wp2_with fail
      refine (C1.out _ (HR.out.ev (Ev.refl _))).mono ?_
      rintro e wk1 ⟨v1, rfl, hO1, hev⟩
      have HEV1 := Lib.hid hev
      have HO1 := Lib.hid hO1
      clear hev hO1
      obtain ⟨A1, c1, rfl, hr1⟩ := RdI.of_own HO1.out (by have := L1.out; have := HL.out; omega)
      have HR1 := Lib.hid hr1
      clear hr1
      go_wp2_with fail
      refine (C2.out _ (HR.out.ev ((Ev.refl _).step HEV1.out))).mono ?_
      rintro e wk2 ⟨v2, rfl, hO2, hev⟩
      have HEV2 := Lib.hid hev
      have HO2 := Lib.hid hO2
      clear hev hO2
      obtain ⟨A2, c2, rfl, hr2⟩ := RdI.of_own HO2.out (by have := L1.out; have := HL.out; omega)
      have HR2 := Lib.hid hr2
      clear hr2
      go_wp2_with fail
      refine (C3.out _ (HR.out.ev (((Ev.refl _).step HEV1.out).step HEV2.out))).mono ?_
      rintro e wk3 ⟨A3, c3, rfl, hR3, hev⟩
      have HEV3 := Lib.hid hev
      have HR3 := Lib.hid hR3
      clear hev hR3
      go_wp2_with fail
      refine (C4.out _ (HR.out.ev ((((Ev.refl _).step HEV1.out).step HEV2.out).step HEV3.out))).mono ?_
      rintro e wk4 ⟨A4, c4, rfl, hR4, hev⟩
      have HEV4 := Lib.hid hev
      have HR4 := Lib.hid hR4
      clear hev hR4
      go_wp2_with fail
      refine (sameI A1 A2 c1 c2 x1 _ (HR1.out.ev ((((Ev.refl _).step HEV2.out).step HEV3.out).step HEV4.out)) (HR2.out.ev (((Ev.refl _).step HEV3.out).step HEV4.out))).mono ?_
      rintro e wk5 ⟨rfl, hev⟩
      have HEV5 := Lib.hid hev
      clear hev
      go_wp2_with fail
      refine (sameI A3 A4 c3 c4 x2 _ (HR3.out.ev (((Ev.refl _).step HEV4.out).step HEV5.out)) (HR4.out.ev ((Ev.refl _).step HEV5.out))).mono ?_
      rintro e wk6 ⟨rfl, hev⟩
      have HEV6 := Lib.hid hev
      clear hev
      go_wp2_with fail
      refine (C5.out _ (HR.out.ev (((((((Ev.refl _).step HEV1.out).step HEV2.out).step HEV3.out).step HEV4.out).step HEV5.out).step HEV6.out))).mono ?_
      rintro e wk7 ⟨rfl, hev⟩
      have HEV7 := Lib.hid hev
      clear hev
      go_wp2_with fail
      refine (C6.out _ (HR.out.ev ((((((((Ev.refl _).step HEV1.out).step HEV2.out).step HEV3.out).step HEV4.out).step HEV5.out).step HEV6.out).step HEV7.out))).mono ?_
      rintro e wk8 ⟨rfl, hev⟩
      have HEV8 := Lib.hid hev
      clear hev
      go_wp2_with fail
      refine (awake_any _ (HTT.out.ev (((((((((Ev.refl _).step HEV1.out).step HEV2.out).step HEV3.out).step HEV4.out).step HEV5.out).step HEV6.out).step HEV7.out).step HEV8.out))).mono ?_
      rintro e wk9 ⟨rfl, hev⟩
      have HEV9 := Lib.hid hev
      clear hev
      go_wp2_with fail
      go_ret
      exact ⟨rfl, ((((((((((Ev.refl _).step HEV1.out).step HEV2.out).step HEV3.out).step HEV4.out).step HEV5.out).step HEV6.out).step HEV7.out).step HEV8.out).step HEV9.out)⟩
end Go.Proofs.YtdkfedbjbcaajaaDoor
