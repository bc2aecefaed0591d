import Derived.Test.YtdkfedbjbcaajaaDoorRW
namespace Go.Proofs.YtdkfedbjbcaajaaDoor
open Go.RowKit
set_option maxRecDepth 100000 in
set_option maxHeartbeats 8000000 in
theorem counts_law (A : Option Addr) (c : Nat) (l : List Int) (x y : Int) (w : World) (hr : RdI w A l) (hT : Tab w) : Calls Tryd.prog 8 #[.slice A l.length c, .int .i64 x, .int .i64 y] w fun e w' => e = .returned (.bool true) ∧ Ev w w' := by
  have C1 := Lib.hid (made_any A c l w hr)
  have hm30 := mdL_len l
  have HG := Lib.hid (mdL_good l)
  have HTT := Lib.hid hT
  clear hr hT
  generalize mdL l = m at *
  have CC := Lib.hid fun A' c' W (h : RdI W A' m) => cts A' c' m W h (by omega) HG.out
  have CO := Lib.hid fun A' c' r W (h : RdI W A' m) h8 => ofs A' c' m r W h (by omega) HG.out h8
  have CX := Lib.hid fun A' c' k t W (h : RdI W A' m) hA hT hk ht => chg A' c' m k t W h (by omega) hA HG.out hT hk ht
  have h3' : (m.length : Int) ≤ 30 := by omega
  go_enter Tryd.func8, Tryd.ntmps8
  go_wp2_with fail
  refine C1.out.mono ?_
  rintro e w1 ⟨v, rfl, hown, hev⟩
  obtain ⟨A1, c1, rfl, hr1, hn1⟩ := RdI.of_own' hown (by omega)
  have HR1 := Lib.hid hr1
  have HN1 := Lib.hid hn1
  have HE1 := Lib.hid hev
  clear hown hr1 hev hn1
  go_wp2_with fail
  refine (CC.out A1 c1 w1 HR1.out).mono ?_
  rintro e w2 ⟨B2, d2, rfl, hr2, hev⟩
  have HR2 := Lib.hid hr2
  have HE2 := Lib.hid hev
  clear hr2 hev
  go_upto_region 7 with fail
  go_loopg [10, 11] 8 (fun gh sv iv wr => ∃ i : Nat, gh + i = 8 ∧ iv = .int .i64 i ∧ sv = .int .i64 (sumT m m.length i : Int) ∧ Ev w2 wr)
  case atStart => exact ⟨0, rfl, rfl, rfl, Ev.refl _⟩
  case round =>
    obtain ⟨i, hg, rfl, rfl, hev⟩ := hrel
    have HGI := Lib.hid hg
    have HV := Lib.hid hev
    clear hev
    by_cases h1 : i < 8
    · have h1' : (i : Int) < 8 := by omega
      have hi0' : (0 : Int) ≤ (i : Int) := by omega
      have H1 := Lib.hid h1
      have HS : Hid ((sumT m m.length (i + 1) : Int) = (sumT m m.length i : Int) + (cn m m.length i : Int)) := Lib.hid (by rw [sumT]; push_cast; rfl)
      have hle := sumT_le m m.length i
      have hle2 : i * m.length ≤ 8 * m.length := Nat.mul_le_mul_right _ (by omega)
      have hcl := cn_le m m.length i
      have hat := ctN_at m i h1
      have CO1 := Lib.hid (CO.out A1 c1 i wr (HR1.out.ev (HE2.out.step HV.out)) h1)
      have s0 : (0 : Int) ≤ (sumT m m.length i : Int) := by omega
      have s1 : (sumT m m.length i : Int) ≤ 1000 := by omega
      have s2 : (0 : Int) ≤ (cn m m.length i : Int) := by omega
      have s3 : (cn m m.length i : Int) ≤ 1000 := by omega
      have HR2' := Lib.hid fun W (h : Ev wr W) => ((HR2.out.ev HV.out).ev h).2 i (by rw [ctN_len]; exact h1)
      rw [hat] at HR2'
      generalize cn m m.length i = z at *
      generalize sumT m m.length i = sm at *
      clear hle hle2 hcl hat h1 hg
      have hq : ((z : Int) != (z : Int)) = false := by simp
      go_wp2_with fail
      refine CO1.out.mono ?_
      rintro e w5 ⟨A5, c5, rfl, hev⟩
      obtain ⟨b, o, rfl, hb, k1⟩ := HR2'.out w5 hev
      have HE5 := Lib.hid (HV.out.step hev)
      clear hev HR2'
      go_wp2_with fail
      go_roundg (gk - 1)
      case rel => exact ⟨i + 1, by have := HGI.out; have := H1.out; omega, by go_num, by rw [HS.out], HE5.out⟩
      case measure => have := HGI.out; have := H1.out; omega
    · obtain rfl : i = 8 := by omega
      have hs := sumT_all m m.length HG.out
      rw [hs]
      have hq : ((m.length : Int) != (m.length : Int)) = false := by simp
      clear h1 hg hs
      by_cases h0 : m.length = 0
      · have hq0 : ((m.length : Int) == 0) = true := by simp [h0]
        clear h0
        go_wp2_with fail
        refine (awake_any wr (HTT.out.ev ((HE1.out.step HE2.out).step HV.out))).mono ?_
        rintro e w5 ⟨rfl, hev⟩
        have HE5 := Lib.hid (((HE1.out.step HE2.out).step HV.out).step hev)
        clear hev
        go_wp2_with fail
        go_ret
        exact ⟨rfl, HE5.out⟩
      · have hq0 : ((m.length : Int) == 0) = false := beq_eq_false_iff_ne.2 (by omega)
        obtain ⟨k, hk, hke⟩ : ∃ k : Nat, k < m.length ∧ x % (m.length : Int) = (k : Int) := by
          have a1 := Int.emod_nonneg x (show (m.length : Int) ≠ 0 by omega)
          have a2 := Int.emod_lt_of_pos x (show 0 < (m.length : Int) by omega)
          exact ⟨(x % (m.length : Int)).toNat, by omega, by omega⟩
        have M1 := Lib.hid fun W => mod_any x m.length W (by omega) (by omega)
        rw [hke] at M1
        have hk' : (k : Int) < (m.length : Int) := by omega
        have hk0 : (0 : Int) ≤ (k : Int) := by omega
        have HK := Lib.hid hk
        obtain ⟨xr, hx8, hxe⟩ := isR_nat (HG.out k hk)
        have HX := Lib.hid hxe
        have HER := Lib.hid ((HE2.out.step HV.out))
        have HR2w := Lib.hid (HR2.out.ev HV.out)
        clear h0 hke hk hxe
        obtain ⟨b1, o1, rfl, hb1, k1⟩ := (HR1.out.ev HER.out).2 k HK.out
        rw [HX.out] at k1
        go_wp2_with fail
        refine (M1.out _).mono ?_
        rintro e w5 ⟨rfl, rfl⟩
        go_wp2_with fail
        refine (mod8_some _ _).mono ?_
        rintro e w5 ⟨t, ht, rfl, rfl⟩
        have CM := May_any (xr : Int) (t : Int) wr (HTT.out.ev (HE1.out.step HER.out))
        have hok : okM (xr : Int) (t : Int) = true := by unfold okM; rw [isR_of xr hx8, isR_of t ht]; rfl
        rw [hok, if_pos rfl, Bool.true_and, Int.toNat_natCast, Int.toNat_natCast] at CM
        have CM := Lib.hid CM
        have CO2 := Lib.hid (OwnInts_any _ c1 m wr (HR1.out.ev HER.out) HN1.out (by omega))
        have hml := HK.out
        by_cases hb : mb xr t = true
        · rw [hb] at CM
          have HB := Lib.hid hb
          clear hb hok
          go_wp2_with fail
          refine CM.out.mono ?_
          rintro e w6 ⟨rfl, rfl⟩
          go_wp2_with fail
          refine CO2.out.mono ?_
          rintro e w7 ⟨A7, c7, rfl, hr7, hn7, hev7⟩
          have CX7 := CX.out A7 c7 k t w7 hr7 hn7 (HTT.out.ev (HE1.out.step (HER.out.step hev7))) HK.out ht
          rw [HX.out, Int.toNat_natCast] at CX7
          simp only [HB.out, if_true] at CX7
          have HE7 := Lib.hid hev7
          have CX7 := Lib.hid CX7
          clear hr7 hn7 hev7
          go_wp2_with fail
          refine CX7.out.mono ?_
          rintro e w8 ⟨B8, d8, ⟨rfl, hr8⟩, hev8⟩
          have HE8 := Lib.hid (HE7.out.step hev8)
          have hg8 := good_set HG.out k (isR_of t ht)
          have C8 := cts B8 d8 (m.set k (t : Int)) w8 hr8 (by rw [List.length_set]; omega) hg8
          rw [List.length_set] at C8
          have C8 := Lib.hid C8
          clear hr8 hev8 hg8
          go_wp2_with fail
          refine C8.out.mono ?_
          rintro e w9 ⟨B9, d9, rfl, hr9, hev9⟩
          have HR9 := Lib.hid hr9
          have HE9 := Lib.hid (HE8.out.step hev9)
          have k9 : w9.cell? ⟨b1, o1 + k, none⟩ = some (.int .i64 (xr : Int)) := by
            obtain ⟨b', o', e, -, cc⟩ := (HR1.out.ev (HER.out.step HE9.out)).2 k HK.out
            cases e
            rw [cc, HX.out]
          clear hr9 hev9
          go_upto_region 28 with fail
          go_loopg [20] 8 (fun gh iv W => ∃ i : Nat, gh + i = 8 ∧ iv = .int .i64 i ∧ w9 = W)
          case atStart => exact ⟨0, rfl, rfl, rfl⟩
          case round =>
            obtain ⟨i, hg, rfl, rfl⟩ := hrel
            have HGJ := Lib.hid hg
            by_cases h1 : i < 8
            · have h1' : (i : Int) < 8 := by omega
              have hi0' : (0 : Int) ≤ (i : Int) := by omega
              have H1 := Lib.hid h1
              obtain ⟨b2, o2, rfl, -, q1⟩ := (HR2w.out.ev HE9.out).2 i (by rw [ctN_len]; exact h1)
              obtain ⟨b3, o3, rfl, -, q2⟩ := HR9.out.2 i (by rw [ctN_len]; exact h1)
              rw [ctN_at m i h1] at q1
              rw [ctN_at _ i h1, cn_set' m k t i HK.out, HX.out] at q2
              have hz := cn_le m m.length i
              have z0 : (0 : Int) ≤ (cn m m.length i : Int) := by omega
              have z1 : (cn m m.length i : Int) ≤ 30 := by omega
              generalize (cn m m.length i : Int) = z at *
              have hzz : z - 1 + 1 = z := by omega
              have HZ := Lib.hid hzz
              clear hzz hz h1 hg
              by_cases hx : i = xr
              · have ex : ((i : Int) == (xr : Int)) = true := by simp [hx]
                rw [if_pos (by omega)] at q2
                by_cases ht : i = t
                · have et : ((i : Int) == (t : Int)) = true := by simp [ht]
                  rw [if_pos (by omega), HZ.out] at q2
                  have hzz := HZ.out
                  clear hx ht
                  go_wp2_with fail
                  go_roundg (gk - 1)
                  case rel => exact ⟨i + 1, by have := HGJ.out; have := H1.out; omega, by go_num, rfl⟩
                  case measure => have := HGJ.out; have := H1.out; omega
                · have et : ((i : Int) == (t : Int)) = false := by simp; omega
                  rw [if_neg (by omega), Int.add_zero] at q2
                  clear hx ht
                  go_wp2_with fail
                  go_roundg (gk - 1)
                  case rel => exact ⟨i + 1, by have := HGJ.out; have := H1.out; omega, by go_num, rfl⟩
                  case measure => have := HGJ.out; have := H1.out; omega
              · have ex : ((i : Int) == (xr : Int)) = false := by simp; omega
                rw [if_neg (by omega), Int.sub_zero] at q2
                by_cases ht : i = t
                · have et : ((i : Int) == (t : Int)) = true := by simp [ht]
                  rw [if_pos (by omega)] at q2
                  clear hx ht
                  go_wp2_with fail
                  go_roundg (gk - 1)
                  case rel => exact ⟨i + 1, by have := HGJ.out; have := H1.out; omega, by go_num, rfl⟩
                  case measure => have := HGJ.out; have := H1.out; omega
                · have et : ((i : Int) == (t : Int)) = false := by simp; omega
                  rw [if_neg (by omega), Int.add_zero] at q2
                  clear hx ht
                  go_wp2_with fail
                  go_roundg (gk - 1)
                  case rel => exact ⟨i + 1, by have := HGJ.out; have := H1.out; omega, by go_num, rfl⟩
                  case measure => have := HGJ.out; have := H1.out; omega
            · obtain rfl : i = 8 := by omega
              clear h1 hg
              go_wp2_with fail
              refine (awake_any w9 (HTT.out.ev (HE1.out.step (HER.out.step HE9.out)))).mono ?_
              rintro e w10 ⟨rfl, hev⟩
              have HE10 := Lib.hid ((HE1.out.step (HER.out.step HE9.out)).step hev)
              clear hev
              go_wp2_with fail
              go_ret
              exact ⟨rfl, HE10.out⟩
        · have hb : mb xr t = false := by simpa using hb
          rw [hb] at CM
          have HB := Lib.hid hb
          clear hb hok
          go_wp2_with fail
          refine CM.out.mono ?_
          rintro e w6 ⟨rfl, rfl⟩
          go_wp2_with fail
          refine CO2.out.mono ?_
          rintro e w7 ⟨A7, c7, rfl, hr7, hn7, hev7⟩
          have CX7 := CX.out A7 c7 k t w7 hr7 hn7 (HTT.out.ev (HE1.out.step (HER.out.step hev7))) HK.out ht
          rw [HX.out, Int.toNat_natCast] at CX7
          simp only [HB.out, Bool.false_eq_true, if_false] at CX7
          have HE7 := Lib.hid hev7
          have CX7 := Lib.hid CX7
          clear hr7 hn7 hev7
          go_wp2_with fail
          refine CX7.out.mono ?_
          rintro e w8 ⟨B8, d8, rfl, hev8⟩
          have HE8 := Lib.hid (HE7.out.step hev8)
          clear hev8
          go_wp2_with fail
          refine (awake_any w8 (HTT.out.ev (HE1.out.step (HER.out.step HE8.out)))).mono ?_
          rintro e w10 ⟨rfl, hev⟩
          have HE10 := Lib.hid ((HE1.out.step (HER.out.step HE8.out)).step hev)
          clear hev
          go_wp2_with fail
          go_ret
          exact ⟨rfl, HE10.out⟩
end Go.Proofs.YtdkfedbjbcaajaaDoor
