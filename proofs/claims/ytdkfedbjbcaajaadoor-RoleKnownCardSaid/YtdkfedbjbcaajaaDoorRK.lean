import Derived.Test.YtdkfedbjbcaajaaDoorRJ
import Derived.Test.YtdkfedbjbcaajaaDoorRG
namespace Go.Proofs.YtdkfedbjbcaajaaDoor
open Go.RowKit
theorem roleF : ∀ n : Fin 8, roleV (lt8 n.1) = (n.1 : Int) := by decide +kernel
theorem role_ch {r : Int} (h : isR r = true) : roleV (chR r) = r := by
  obtain ⟨n, hn, rfl⟩ := isR_nat h
  unfold chR
  exact roleF ⟨n, hn⟩
theorem txB_role (m : List Int) (i : Nat) (hi : i < m.length) (hg : goodL m m.length) : roleV (at' (txB m) i) = m.getD i 0 := by
  rw [at_eq (txB m) i (by rw [txB_size]; exact hi), txB_at, role_ch (hg i hi)]
theorem txB_roles (m : List Int) (hg : goodL m m.length) : rolesOf (txB m) (txB m).size = m := by
  rw [txB_size]
  apply List.ext_getElem?
  intro i
  unfold rolesOf
  by_cases h : i < m.length
  · rw [List.getElem?_map, List.getElem?_range h]
    simp only [Option.map_some]
    rw [txB_role m i h hg, List.getD_eq_getElem?_getD, List.getElem?_eq_getElem h]; rfl
  · rw [List.getElem?_eq_none (by simp; omega), List.getElem?_eq_none (by omega)]
theorem txB_good (m : List Int) (hg : goodL m m.length) : goodTo (txB m) (txB m).size := fun j hj => by
  have hj' : j < m.length := by rw [txB_size] at hj; exact hj
  rw [txB_role m j hj' hg]
  have := hg j hj'
  unfold isR at this
  have := of_decide_eq_true this
  exact this.1
theorem back_parse (m : List Int) (hg : goodL m m.length) (hl : m.length ≤ 256) (w : World) : PC 31 (txB m) m 0 0 w := by
  have h := (pc_of (f := 31) (s := txB m) fun w => parse_any (txB m) w (by rw [txB_size]; exact hl)).1 (txB_good m hg) w
  rwa [txB_roles m hg] at h
theorem mdL_good (l : List Int) : goodL (mdL l) (mdL l).length := fun j hj => by
  have := mdL_ok l j hj
  unfold isR
  exact decide_eq_true this
set_option maxRecDepth 100000 in
set_option maxHeartbeats 4000000 in
theorem back_law (A : Option Addr) (c : Nat) (l : List Int) (w : World) (hr : RdI w A l) (hT : Tab w) : Calls Tryd.prog 9 #[.slice A l.length c] w fun e w' => e = .returned (.bool true) ∧ Ev w w' := by
  have C1 := Lib.hid (made_any A c l w hr)
  have hm30 := mdL_len l
  have HG := Lib.hid (mdL_good l)
  have HTT := Lib.hid hT
  clear hr hT
  generalize mdL l = m at *
  have CP := Lib.hid fun W => back_parse m HG.out (by omega) W
  unfold PC at CP
  have CT := Lib.hid fun A c W (h : RdI W A m) => text_ok A c m W h (by omega) HG.out
  have hsz := txB_size m
  have HF : Hid (∀ e a W, Sem.run Tryd.prog (Op.equalIn 10000 47 (fl e a) (fl e a)) W = .ok true W) := Lib.hid fun e a W => by rw [eq47]; simp
  generalize txB m = s at *
  go_enter Tryd.func9, Tryd.ntmps9
  go_wp2_with fail
  refine C1.out.mono ?_
  rintro e w1 ⟨v, rfl, hown, hev⟩
  obtain ⟨A1, c1, rfl, hr1⟩ := RdI.of_own hown (by omega)
  have HR1 := Lib.hid hr1
  have HE1 := Lib.hid hev
  clear hown hr1 hev
  go_wp2_with fail
  refine (CT.out A1 c1 w1 HR1.out).mono ?_
  rintro e w2 ⟨rfl, hev⟩
  have HE2 := Lib.hid hev
  clear hev
  go_wp2_with fail
  refine (CP.out w2).mono ?_
  rintro e w3 ⟨v, rfl, hown, hev⟩
  obtain ⟨A3, c3, rfl, hr3⟩ := RdI.of_own hown (by omega)
  have HR3 := Lib.hid (hr3.ev (Ev.alloc (Ev.refl w3) (.cells #[.int .i64 0, .int .i64 0] 47)))
  have HE3 := Lib.hid (hev.alloc (.cells #[.int .i64 0, .int .i64 0] 47))
  obtain ⟨d0, d1⟩ := box2_new w3 0 0 47
  clear hown hr3 hev
  go_upto_region 4 with fail
  generalize (w3.alloc (.cells #[.int .i64 0, .int .i64 0] 47)) = W3 at *
  have hf := HF.out
  go_wp2_with fail
  clear hf
  refine (sameI A3 A1 c3 c1 m W3 HR3.out (HR1.out.ev (HE2.out.step HE3.out))).mono ?_
  rintro e w4 ⟨rfl, hev⟩
  have HE4 := Lib.hid (((HE1.out.step HE2.out).step HE3.out).step hev)
  clear hev
  go_wp2_with fail
  refine (awake_any w4 (HTT.out.ev HE4.out)).mono ?_
  rintro e w5 ⟨rfl, hev⟩
  have HE5 := Lib.hid (HE4.out.step hev)
  clear hev
  go_wp2_with fail
  go_ret
  exact ⟨rfl, HE5.out⟩
end Go.Proofs.YtdkfedbjbcaajaaDoor
