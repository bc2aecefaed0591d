import Derived.Test.YtkneonfhikcdkaaDoorOJ
namespace Go.Proofs.YtkneonfhikcdkaaDoor
open Go.RowKit

set_option maxHeartbeats 2000000 in
theorem rcheckList_any (A : Option Addr) (cap : Nat) (l : List (Int × Int)) (w : World) (hr : RdP w A l) :
    Calls Tryd.prog 28 #[.slice A l.length cap] w fun e w' => e = .returned (.tuple #[.int .i64 (chkL 0 0 l).1, .int .i64 (chkL 0 0 l).2]) ∧ Ev w w' := by
  obtain ⟨R, hR⟩ : ∃ R, R = chkL 0 0 l := ⟨_, rfl⟩
  rw [← hR]
  have HR := Lib.hid hR
  have HRD := Lib.hid hr
  have hlen := hr.1
  clear hR hr
  go_enter Tryd.func28, Tryd.ntmps28
  go_wp2_with fail
  go_loopw [4] (fun i wr => ∃ (j : Nat) (e : Int), j ≤ l.length ∧ i = .int .i64 j ∧ (j = 0 → e = 0) ∧ (0 < j → blkE (l.getD (j - 1) (0, 0)).1 (l.getD (j - 1) (0, 0)).2 = 0 ∧ e = (l.getD (j - 1) (0, 0)).1 + sz (l.getD (j - 1) (0, 0)).2) ∧ chkL j e (l.drop j) = R ∧ Ev w wr) (fun i _ => l.length - (intOf i).toNat)
  case atStart => exact ⟨0, 0, by omega, rfl, fun _ => rfl, fun h => by omega, HR.out.symm, Ev.refl _⟩
  case round =>
    obtain ⟨j, e, hj, rfl, ej0, ej1, hc, hev⟩ := hrel
    by_cases hlt : j < l.length
    · have hd : l.drop j = l.getD j (0, 0) :: l.drop (j + 1) := by rw [List.drop_eq_getElem_cons hlt]; simp [List.getD, hlt]
      rw [hd] at hc
      obtain ⟨b, o, rfl, hb, c1, c2⟩ := (HRD.out.ev hev).2 j hlt
      generalize hxo : l.getD j (0, 0) = xo at *
      obtain ⟨x, k⟩ := xo
      have HXO := Lib.hid hxo
      clear hxo
      simp only at c1 c2
      have hlt' : (j : Int) < (l.length : Int) := by omega
      have hj0 : 0 ≤ (j : Int) := by omega
      have HC := Lib.hid hc
      have HEV := Lib.hid hev
      have H1 : Hid (∀ W, Ev w W → Calls Tryd.prog 23 #[bk x k] W fun e w' => e = .returned (.int .i64 (blkE x k)) ∧ Ev W w') := Lib.hid fun W _ => rcheck_any x k W
      by_cases hk : blkE x k = 0
      · rw [hk] at H1
        obtain ⟨k0, k6, x0, -, xs⟩ := blkE_ok hk
        by_cases hjp : 0 < j
        · obtain ⟨pk, pe⟩ := ej1 hjp
          obtain ⟨b2, o2, hb2, -, d1, d2⟩ := (HRD.out.ev HEV.out).2 (j - 1) (by omega)
          generalize l.getD (j - 1) (0, 0) = xo at *
          obtain ⟨x2, k2⟩ := xo
          simp only at d1 d2 pk pe
          obtain ⟨h1, h2⟩ : b = b2 ∧ o = o2 := by injection hb2 with h; injection h with h1 h2; exact ⟨h1, h2⟩
          subst h1 h2
          obtain ⟨q0, q6, y0, -, ys⟩ := blkE_ok pk
          have HSZ := Lib.hid fun W => rsize_any k2 W q0 q6
          obtain ⟨s1, s2⟩ := sz_bd k2
          have hRN : (x < e ∧ R = (8, (j : Int))) ∨ (¬ x < e ∧ chkL (j + 1) (x + sz k) (l.drop (j + 1)) = R) := by
            by_cases hx : x < e
            · exact .inl ⟨hx, by rw [← HC.out, chkL, if_neg (by simp [hk]), if_pos hx]⟩
            · exact .inr ⟨hx, by rw [← HC.out, chkL, if_neg (by simp [hk]), if_neg hx]⟩
          obtain ⟨m, rfl⟩ : ∃ m, j = m + 1 := ⟨j - 1, by omega⟩
          simp only [Nat.add_sub_cancel] at d1 d2
          have hl0 : (m : Int) < (l.length : Int) := by omega
          have hl1 : (m : Int) + 1 < (l.length : Int) := by omega
          have hm0 : 0 ≤ (m : Int) := by omega
          have hm1 : 0 ≤ (m : Int) + 1 := by omega
          have hm2 : 0 < (m : Int) + 1 := by omega
          have HK := Lib.hid hk
          have HRN := Lib.hid hRN
          have HPE := Lib.hid pe
          clear HC hc hev hd hk ej0 ej1 hjp hj0 hlt' hRN pk pe
          generalize sz k2 = z2 at *
          by_cases hx : x < x2 + z2
          · have hR : R = (8, ((m + 1 : Nat) : Int)) := by
              rcases HRN.out with h | h
              · exact h.2
              · exact absurd (by rw [HPE.out]; exact hx) h.1
            subst hR
            clear HRN HR HRD HPE
            go_wp2_with fail
            refine (H1.out _ HEV.out).mono ?_
            rintro e' w3 ⟨rfl, hev3⟩
            obtain ⟨cc, -⟩ := bc hev3
            have g1 := (cc _ _ hb).trans c1
            have g3 := (cc _ _ hb).trans d1
            have g4 := (cc _ _ hb).trans d2
            have hevf := HEV.out.step hev3
            clear hev3 cc c1 c2 d1 d2
            go_wp2_with fail
            go_quiet ((go_at_call 40; first | exact q1 fun W => HSZ.out W | exact q2 fun W => HSZ.out W))
            go_wp2_with fail
            go_ret2
            exact ⟨rfl, hevf.drewN _⟩
          · have hcn : chkL (m + 1 + 1) (x + sz k) (l.drop (m + 1 + 1)) = R := by
              rcases HRN.out with h | h
              · exact absurd (by have := h.1; rw [HPE.out] at this; exact this) hx
              · exact h.2
            have HCN := Lib.hid hcn
            clear HRN HPE hcn
            go_wp2_with fail
            refine (H1.out _ HEV.out).mono ?_
            rintro e' w3 ⟨rfl, hev3⟩
            obtain ⟨cc, -⟩ := bc hev3
            have g1 := (cc _ _ hb).trans c1
            have g3 := (cc _ _ hb).trans d1
            have g4 := (cc _ _ hb).trans d2
            have hevf := HEV.out.step hev3
            clear hev3 cc c1 c2 d1 d2
            go_wp2_with fail
            go_quiet ((go_at_call 40; first | exact q1 fun W => HSZ.out W | exact q2 fun W => HSZ.out W))
            go_wp2_with fail
            go_roundw
            case rel => exact ⟨m + 1 + 1, x + sz k, by omega, by go_num, fun h => by omega, fun _ => by rw [Nat.add_sub_cancel, HXO.out]; exact ⟨HK.out, rfl⟩, HCN.out, hevf.drewN _⟩
            case measure => simp [intOf]; omega
        · obtain rfl : j = 0 := by omega
          have he0 := ej0 rfl
          subst he0
          have hcn : chkL (0 + 1) (x + sz k) (l.drop (0 + 1)) = R := by rw [← HC.out, chkL, if_neg (by simp [hk]), if_neg (by omega)]
          have HCN := Lib.hid hcn
          have HK := Lib.hid hk
          simp only [Nat.zero_mul, Nat.add_zero] at c1 c2
          have hl0 : (0 : Int) < (l.length : Int) := by omega
          clear HC hc hev hd hcn hk ej0 ej1 hjp hj0 hlt'
          go_wp2_with fail
          refine (H1.out _ HEV.out).mono ?_
          rintro e w3 ⟨rfl, hev3⟩
          have hevf := HEV.out.step hev3
          clear hev3
          go_wp2_with fail
          go_quiet (fail)
          go_wp2_with fail
          go_roundw
          case rel => exact ⟨1, x + sz k, by omega, rfl, fun h => by omega, fun _ => by rw [show 1 - 1 = 0 from rfl, HXO.out]; exact ⟨HK.out, rfl⟩, HCN.out, hevf.drewN _⟩
          case measure => simp [intOf]; omega
      · have hR : R = (blkE x k, (j : Int)) := by rw [← HC.out, chkL, if_pos hk]
        subst hR
        have hk' : (blkE x k != 0) = true := by simpa using hk
        have hk2 : (blkE x k == 0) = false := by simpa using hk
        clear HC HR HRD hk hc hev hd ej0 ej1
        obtain ⟨er, her⟩ : ∃ er, er = blkE x k := ⟨_, rfl⟩
        rw [← her] at H1 hk' hk2
        have HER := Lib.hid her
        clear her
        go_wp2_with fail
        refine (H1.out _ HEV.out).mono ?_
        rintro e w3 ⟨rfl, hev3⟩
        have hevf := HEV.out.step hev3
        clear hev3
        go_wp2_with fail
        go_quiet (fail)
        go_wp2_with fail
        go_ret2
        exact ⟨ret_2 HER.out rfl, hevf.drewN _⟩
    · obtain rfl : j = l.length := by omega
      have hR : R = (0, 0) := by rw [← hc]; simp [chkL]
      subst hR
      clear HR HRD hc
      go_wp2_with fail
      go_ret2
      exact ⟨rfl, hev⟩
end Go.Proofs.YtkneonfhikcdkaaDoor
