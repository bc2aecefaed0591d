import Derived.Test.YtfiglmbnjfgdlaaDoorDW
namespace Go.Proofs.YtfiglmbnjfgdlaaDoor
open Go.RowKit
theorem muC1 (w : Int) : muC 1 w ≤ 5 := by
  unfold muC
  cases (w != -1) <;> decide
set_option maxRecDepth 100000 in
set_option maxHeartbeats 32000000 in
theorem frames_law (HK : ∀ W, Tab W → Calls Tryd.prog 5 #[] W fun x w' => x = .returned (.bool true) ∧ Ev W w') (n : Int) (A : Option Addr) (c : Nat) (l : List Int) (W : World) (hr : RdI W A l) (hT : Tab W) :
    Calls Tryd.prog 6 #[.int .i64 n, .slice A l.length c] W fun x w' => x = .returned (.bool true) ∧ Ev W w' := by
  have HTT := Lib.hid hT
  have HRN := Lib.hid hr
  have HKK := Lib.hid (HK W hT)
  clear hr hT HK
  go_enter Tryd.func6, Tryd.ntmps6
  go_wp2_with fail
  refine HKK.out.mono ?_
  rintro e w1 ⟨rfl, hev⟩
  have HE1 := Lib.hid hev
  clear hev
  go_wp2_with fail
  refine (made_any n _).mono ?_
  rintro e w2 ⟨wv, g1, g2, rfl, hev⟩
  have HE2 := Lib.hid ((HE1.out.step hev).alloc (rdO 1 (-1) wv))
  have HB2 := Lib.hid (BoxR.new w2 1 (-1) wv)
  have HPG : Hid (W.heap.size ≤ w2.heap.size) := Lib.hid (HE1.out.step hev).sz
  have HC2 : Hid (ck 1 (-1) wv = 0) := Lib.hid (ck_of _ _ _ (by omega))
  clear hev
  go_upto_region 5 with fail
  generalize (w2.alloc (rdO 1 (-1) wv)) = w3 at *
  generalize w2.heap.size = p6 at *
  go_upto_region 6 with fail
  have HA4 := Lib.hid (ArrR.new w3)
  have HB4 := Lib.hid (HB2.out.al (.cells Tryd.zeroCells51 51))
  have HE4 := Lib.hid (HE2.out.alloc (.cells Tryd.zeroCells51 51))
  have HLT : Hid (p6 < w3.heap.size) := Lib.hid (World.rowIs.lt HB2.out)
  clear HB2 HE2
  generalize (w3.alloc (.cells Tryd.zeroCells51 51)) = w4 at *
  generalize w3.heap.size = p8 at *
  obtain ⟨b0, b1, b2⟩ := HB4.out.c
  obtain ⟨bb, hbb⟩ : ∃ bb, decide (0 ≤ wv) = bb := ⟨_, rfl⟩
  go_upto_if 35 with fail
  clear b0 b1 b2
  go_cut [8] from 36 (fun s8 wx => s8 = .pointer (some ⟨p8, 0, none⟩) ∧ BoxR wx p6 1 (-1) wv ∧ ArrR wx p8 (cn (-1) wv) ∧ Ev W wx)
  case first =>
    rcases (show wv = -1 ∨ ∃ m : Nat, wv = (m : Int) ∧ m < 256 by
      rcases Int.lt_or_le wv 0 with h | h
      · exact .inl (by omega)
      · exact .inr ⟨wv.toNat, by omega, by omega⟩) with h1 | ⟨m, rfl, hm⟩
    · subst h1
      obtain rfl : bb = false := by rw [← hbb]; rfl
      go_wp2_with fail
      go_meet
      case rel => exact ⟨rfl, HB4.out, HA4.out.congr (fun k h0 h1 => by unfold cn; rw [hv_neg k h0]; rfl), HE4.out⟩
    · have c1 := HA4.out.c m hm
      have z1 := HA4.out.z m
      have hm1 : (m : Int) < 256 := by omega
      have hm0 : 0 ≤ (m : Int) := by omega
      obtain rfl : bb = true := by rw [← hbb]; exact decide_eq_true hm0
      obtain ⟨b0, b1, b2⟩ := HB4.out.c
      go_wp2_with fail
      go_meet
      case rel =>
        refine ⟨rfl, World.rowIs.setOther HB4.out (Nat.ne_of_lt HLT.out) _, (HA4.out.set m _).congr (fun k h0 h1 => ?_), HE4.out.setC (Nat.le_of_lt (Nat.lt_of_le_of_lt HPG.out HLT.out)) _⟩
        unfold cn
        rw [hv_neg k h0]
        unfold hv
        split <;> rfl
  case rest =>
  obtain ⟨rfl, hbx, har, hev⟩ := hcut
  have HB5 := Lib.hid hbx
  have HA5 := Lib.hid har
  have HE5 := Lib.hid hev
  clear hbx har hev HB4 HA4 HE4
  go_upto_region 10 with fail
  clear g1 g2
  go_loopg [9, 10] 12 (fun gh st iv wr => ∃ (i : Nat) (s f w : Int), gh + i = 12 ∧ st = .int .i64 i ∧ iv = .int .i64 i ∧ BoxR wr p6 s f w ∧ ArrR wr p8 (cn f w) ∧ ck s f w = 0 ∧ i + muC s w ≤ 5 ∧ Ev W wr)
  case atStart => exact ⟨0, 1, -1, wv, rfl, rfl, rfl, HB5.out, HA5.out, HC2.out, by have := muC1 wv; omega, HE5.out⟩
  case round =>
    obtain ⟨i, s, f, w, hg, rfl, rfl, hbx, har, hck, hmu, hev⟩ := hrel
    have HG := Lib.hid hg
    have HB := Lib.hid hbx
    have HA := Lib.hid har
    have HC := Lib.hid hck
    have HMU := Lib.hid hmu
    have HVW := Lib.hid hev
    obtain ⟨go1, hgo1⟩ : ∃ g, g + 1 = gk := ⟨gk - 1, by omega⟩
    have HGO := Lib.hid hgo1
    have hi5 : (i : Int) ≤ 5 := by omega
    have hi0 : (0 : Int) ≤ (i : Int) := by omega
    clear hbx har hck hmu hev hg hgo1 HB5 HA5 HE5
    go_upto_region 12 with fail
    have HS6 : Hid (∀ W', Ev wr W' → (W'.cell? ⟨p6, 0, none⟩ = some (.int .i64 s) ∧ W'.cell? ⟨p6, 1, none⟩ = some (.int .i64 f) ∧ W'.cell? ⟨p6, 2, none⟩ = some (.int .i64 w)) ∧ Ev wr W') := Lib.hid fun W' h => ⟨(HB.out.ev h).c, h⟩
    have C33 : Hid (∀ W', Ev wr W' → Calls Tryd.prog 33 #[.slice A l.length c, .int .i64 (i : Int)] W' fun e w' => SomeI W' e w') := Lib.hid fun W' h => at33 A c l i W' (HRN.out.ev (HVW.out.step h))
    unfold SomeI at C33
    have HTW := Lib.hid (HTT.out.ev HVW.out)
    have hev := Ev.refl wr
    have dd := HS6.out _ hev
    by_cases hne : evN s w 6 = []
    · have C32 := Lib.hid fun x W' (h : Ev wr W') => pickk_no s f w x W' (HTW.out.ev h) HC.out hne
      have C24 := Lib.hid fun W' (h : Ev wr W') => over_of s f w W' (HTW.out.ev h) HC.out hne
      clear hne
      go_region_held3 (fun W' => (W'.cell? ⟨p6, 0, none⟩ = some (.int .i64 s) ∧ W'.cell? ⟨p6, 1, none⟩ = some (.int .i64 f) ∧ W'.cell? ⟨p6, 2, none⟩ = some (.int .i64 w)) ∧ Ev wr W')
        ((refine HS6.out _ ?_; repeat (first | (with_reducible assumption) | (with_reducible exact Ev.refl _) | (with_reducible refine Ev.drew ?_) | (with_reducible refine Ev.alloc ?_ _) | (with_reducible refine Ev.setC ?_ (by simp) _))))
        (first | (go_at_call 33; refine (C33.out _ (by repeat (first | (with_reducible assumption) | (with_reducible exact Ev.refl _) | (with_reducible refine Ev.drew ?_) | (with_reducible refine Ev.alloc ?_ _) | (with_reducible refine Ev.setC ?_ (by simp) _)))).mono ?_; rintro e w' ⟨v33, rfl, rfl⟩) | (go_at_call 32; refine (C32.out _ _ (by repeat (first | (with_reducible assumption) | (with_reducible exact Ev.refl _) | (with_reducible refine Ev.drew ?_) | (with_reducible refine Ev.alloc ?_ _) | (with_reducible refine Ev.setC ?_ (by simp) _)))).mono ?_; rintro e w' ⟨rfl, hst⟩; (have hev2 : Ev wr w' := Ev.step (by repeat (first | (with_reducible assumption) | (with_reducible exact Ev.refl _) | (with_reducible refine Ev.drew ?_) | (with_reducible refine Ev.alloc ?_ _) | (with_reducible refine Ev.setC ?_ (by simp) _))) hst); clear hev; have hev := hev2; clear hev2))
      have HE5 := Lib.hid hev
      obtain ⟨d0, d1, d2⟩ := (HB.out.ev hev).c
      clear dd hev
      go_wp2_with fail
      refine (C24.out _ HE5.out).mono ?_
      rintro x w9 ⟨rfl, hev⟩
      have HE9 := Lib.hid (HVW.out.step (HE5.out.step hev))
      clear hev d0 d1 d2
      go_wp2_with fail
      go_ret
      exact ⟨rfl, HE9.out⟩
    · have C32 := Lib.hid fun x W' (h : Ev wr W') => pickk_any s f w x W' (HTW.out.ev h) HC.out hne
      unfold PickQ at C32
      have PK := Lib.hid fun e fr h1 h2 => pkk_step s f w e fr HC.out h1 h2
      clear hne
      go_region_held3 (fun W' => (W'.cell? ⟨p6, 0, none⟩ = some (.int .i64 s) ∧ W'.cell? ⟨p6, 1, none⟩ = some (.int .i64 f) ∧ W'.cell? ⟨p6, 2, none⟩ = some (.int .i64 w)) ∧ Ev wr W')
        ((refine HS6.out _ ?_; repeat (first | (with_reducible assumption) | (with_reducible exact Ev.refl _) | (with_reducible refine Ev.drew ?_) | (with_reducible refine Ev.alloc ?_ _) | (with_reducible refine Ev.setC ?_ (by simp) _))))
        (first | (go_at_call 33; refine (C33.out _ (by repeat (first | (with_reducible assumption) | (with_reducible exact Ev.refl _) | (with_reducible refine Ev.drew ?_) | (with_reducible refine Ev.alloc ?_ _) | (with_reducible refine Ev.setC ?_ (by simp) _)))).mono ?_; rintro e w' ⟨v33, rfl, rfl⟩) | (go_at_call 32; refine (C32.out _ _ (by repeat (first | (with_reducible assumption) | (with_reducible exact Ev.refl _) | (with_reducible refine Ev.drew ?_) | (with_reducible refine Ev.alloc ?_ _) | (with_reducible refine Ev.setC ?_ (by simp) _)))).mono ?_; rintro x w' ⟨e, fr, he, hfr, rfl, hst⟩; (have hev2 : Ev wr w' := Ev.step (by repeat (first | (with_reducible assumption) | (with_reducible exact Ev.refl _) | (with_reducible refine Ev.drew ?_) | (with_reducible refine Ev.alloc ?_ _) | (with_reducible refine Ev.setC ?_ (by simp) _))) hst); clear hev; have hev := hev2; clear hev2))
      obtain ⟨hE, s2, f2, w2', l2, m2, hR, hc2, hmu2, hm2, hl1, hl2, hcn⟩ := PK.out e fr he hfr
      have C12 := Lib.hid fun W' (h : Ev wr W') => step_ofR s f w e fr s2 f2 w2' m2 l2 hE hR W' (HTW.out.ev h)
      have C10 := Lib.hid fun W' => check_of s2 f2 w2' hc2 W'
      have C19 := Lib.hid fun W' => frames_of s2 f2 w2' hc2 W'
      unfold ListQ at C19
      have HMU2 : Hid (i + 1 + muC s2 w2' ≤ 5) := Lib.hid (by have := HMU.out; omega)
      have HC2x := Lib.hid hc2
      have HM2 : Hid (m2 = -1 ∨ 0 ≤ m2 ∧ m2 = f2 ∧ f2 < 256) := Lib.hid (by
        obtain ⟨q0, q1, _⟩ := ck_cases s2 f2 w2' hc2
        omega)
      have HL1 := Lib.hid hl1
      have HL2 := Lib.hid hl2
      have HFR := Lib.hid hfr
      have hcf : ∀ k : Nat, cn f2 w2' (k : Int) = if (k : Int) ∈ frL s2 f2 w2' then 1 else 0 := fun k => cn_frL s2 f2 w2' (k : Int) hc2 (by omega)
      have hl9 := frL_len s2 f2 w2'
      generalize frL s2 f2 w2' = L9 at *
      have HCF := Lib.hid hcf
      have HL9 := Lib.hid hl9
      have HCN := Lib.hid hcn
      have HEV6 := Lib.hid hev
      obtain ⟨be, hbe⟩ : ∃ b, (e == 1) = b := ⟨_, rfl⟩
      clear dd hE hR hc2 hmu2 hm2 hl1 hl2 hcn he hfr hev hcf hl9 PK
      obtain ⟨b0, b1, b2⟩ := (HB.out.ev HEV6.out).c
      go_wp2_with fail
      refine (C12.out _ HEV6.out).mono ?_
      rintro x w7 ⟨A7, c7, rfl, hr7, hf7, hev⟩
      have HB7 := Lib.hid ((HB.out.ev (HEV6.out.step hev)).al (rdO s2 f2 w2'))
      have HA7 := Lib.hid ((HA.out.ev (HEV6.out.step hev)).al (rdO s2 f2 w2'))
      have HV7 := Lib.hid ((HVW.out.step (HEV6.out.step hev)).alloc (rdO s2 f2 w2'))
      have HR7 := Lib.hid (hr7.ev (al1 _ (rdO s2 f2 w2')))
      have HN7 := Lib.hid (BoxR.new w7 s2 f2 w2')
      have HLT6 : Hid (p6 < w7.heap.size) := Lib.hid (World.rowIs.lt (HB.out.ev (HEV6.out.step hev)))
      have HLT8 : Hid (p8 < w7.heap.size) := Lib.hid (World.rowIs.lt (HA.out.ev (HEV6.out.step hev)))
      have HF7 : Hid (∀ a : Addr, A7 = some a → a.block ≠ p8) := Lib.hid (fun a h => by
        have h1 := hf7 a h
        have h2 := World.rowIs.lt HA.out
        have h3 := HEV6.out.sz
        omega)
      clear hev b0 b1 b2 hr7 hf7
      go_upto_region 15 with fail
      generalize (w7.alloc (rdO s2 f2 w2')) = w8 at *
      generalize w7.heap.size = p14 at *
      obtain ⟨d0, d1, d2⟩ := HN7.out.c
      go_wp2_with fail
      refine (C10.out _).mono ?_
      rintro x w9 ⟨rfl, hev⟩
      have HB9 := Lib.hid (HB7.out.ev hev)
      have HA9 := Lib.hid (HA7.out.ev hev)
      have HV9 := Lib.hid (HV7.out.step hev)
      have HN9 := Lib.hid (HN7.out.ev hev)
      have HR9 := Lib.hid (HR7.out.ev hev)
      clear hev d0 d1 d2
      go_upto_if 74 with fail
      go_cut [11] from 75 to 135 (fun s11 wx => s11 = .int .i64 e ∧ ArrR wx p8 (fun k => cn f w k + (if e = 1 then hv k fr else 0)) ∧ BoxR wx p14 s2 f2 w2' ∧ BoxR wx p6 s f w ∧ RdI wx A7 l2 ∧ Ev W wx)
      case first =>
        rcases be with _ | _
        · have he1 : ¬ e = 1 := by simpa using hbe
          go_wp2_with fail
          go_meet
          case rel => exact ⟨rfl, HA9.out.congr (fun k _ _ => by rw [if_neg he1]; omega), HN9.out, HB9.out, HR9.out, HV9.out⟩
        · obtain rfl : e = 1 := by simpa using hbe
          have hfr : 0 ≤ fr ∧ fr < 256 := by have := HFR.out; omega
          obtain ⟨m, rfl⟩ : ∃ m : Nat, fr = (m : Int) := ⟨fr.toNat, by omega⟩
          have hm1 : (m : Int) < 256 := hfr.2
          have hm0 : 0 ≤ (m : Int) := hfr.1
          have c1 := HA9.out.c m (by omega)
          have z1 := HA9.out.z m
          have HQ := Lib.hid (show cn f w (m : Int) = cn f w (m : Int) from rfl)
          obtain ⟨q, hq⟩ : ∃ q, cn f w (m : Int) = q := ⟨_, rfl⟩
          rw [hq] at c1
          have hq0 : 0 ≤ q ∧ q ≤ 2 := by
            rw [← hq]
            unfold cn hv
            split <;> split <;> omega
          have HQQ := Lib.hid hq
          obtain ⟨hqa, hqb⟩ := hq0
          clear hfr hq HQ hbe
          go_wp2_with fail
          go_meet
          case rel =>
            refine ⟨rfl, (HA9.out.set m _).congr (fun k h0 h1 => ?_), World.rowIs.setOther HN9.out (by have := HLT8.out; exact Nat.ne_of_gt this) _, World.rowIs.setOther HB9.out (Nat.ne_of_lt HLT.out) _, HR9.out.st p8 m _ HF7.out, HV9.out.setC (Nat.le_of_lt (Nat.lt_of_le_of_lt HPG.out HLT.out)) _⟩
            rw [if_pos trivial]
            unfold hv
            by_cases hk : k = (m : Int)
            · rw [if_pos hk, if_pos hk, hk, HQQ.out]
            · rw [if_neg hk, if_neg hk]; omega
      case rest =>
      obtain ⟨rfl, har, hnx, hbx, hrx, hev⟩ := hcut
      have hG0 : ∀ k, 0 ≤ cn f w k + (if e = 1 then hv k fr else 0) ∧ cn f w k + (if e = 1 then hv k fr else 0) ≤ 3 := by
        intro k
        unfold cn hv
        split <;> split <;> split <;> (try split) <;> omega
      have hcn := HCN.out
      generalize hGG : (fun k => cn f w k + (if e = 1 then hv k fr else 0)) = G at *
      have hG1 : ∀ k, 0 ≤ G k ∧ G k ≤ 3 := fun k => by have := hG0 k; rw [← hGG]; exact this
      have hcn1 : ∀ k, 0 ≤ k → cn f2 w2' k = G k - cl l2 k := fun k hk => by have := hcn k hk; rw [← hGG]; exact this
      have HG1 := Lib.hid hG1
      have HCN1 := Lib.hid hcn1
      have HAc := Lib.hid har
      have HNc := Lib.hid hnx
      have HBc := Lib.hid hbx
      have HRc := Lib.hid hrx
      have HVc := Lib.hid hev
      clear har hnx hbx hrx hev hG0 hcn hGG hG1 hcn1 HCN HA9 HN9 HB9 HR9 HV9 HA7 HN7 HB7 HR7 HV7 hbe
      have hl3' : (l2.length : Int) ≤ 1 := by have := HL1.out; omega
      go_upto_region 20 with fail
      go_loopg [18] l2.length (fun gh jv W2 => ∃ j : Nat, gh + j = l2.length ∧ jv = .int .i64 j ∧ ArrR W2 p8 (fun k => G k - cl (l2.take j) k) ∧ BoxR W2 p14 s2 f2 w2' ∧ BoxR W2 p6 s f w ∧ RdI W2 A7 l2 ∧ Ev W W2)
      case atStart => exact ⟨0, rfl, rfl, HAc.out.congr (fun k _ _ => by simp [cl]), HNc.out, HBc.out, HRc.out, HVc.out⟩
      case round =>
        obtain ⟨j, hg, rfl, har, hnx, hbx, hrx, hev⟩ := hrel
        have HGJ := Lib.hid hg
        have HAj := Lib.hid har
        have HNj := Lib.hid hnx
        have HBj := Lib.hid hbx
        have HRj := Lib.hid hrx
        have HVj := Lib.hid hev
        have hj0 : (0 : Int) ≤ (j : Int) := by omega
        by_cases hlt : j < l2.length
        · have hlt' : (j : Int) < (l2.length : Int) := by omega
          obtain ⟨x, hx⟩ : ∃ x, l2.getD j 0 = x := ⟨_, rfl⟩
          have hxm : x ∈ l2 := by
            rw [← hx, List.getD_eq_getElem?_getD, List.getElem?_eq_getElem hlt]
            exact List.getElem_mem hlt
          have hx2 := HL2.out x hxm
          obtain ⟨m, rfl⟩ : ∃ m : Nat, x = (m : Int) := ⟨x.toNat, by omega⟩
          obtain ⟨bl, ol, rfl, hbl1, k1⟩ := hrx.2 j hlt
          rw [hx] at k1
          have hm1 : (m : Int) < 256 := hx2.2
          have hm0 : 0 ≤ (m : Int) := hx2.1
          have HTK : Hid (∀ k, cl (l2.take (j + 1)) k = cl (l2.take j) k + hv k (m : Int)) := Lib.hid (fun k => by rw [cl_take l2 j hlt, hx])
          have c1 := har.c m (by omega)
          have z1 := har.z m
          have hcl : 0 ≤ cl (l2.take j) (m : Int) ∧ cl (l2.take j) (m : Int) ≤ 1 := by
            have hj : j = 0 := by omega
            subst hj
            simp [cl]
          obtain ⟨q, hq⟩ : ∃ q, G (m : Int) - cl (l2.take j) (m : Int) = q := ⟨_, rfl⟩
          have hq0 : -1 ≤ q ∧ q ≤ 3 := by have := HG1.out (m : Int); omega
          rw [hq] at c1
          have HQ := Lib.hid hq
          have HLTj := Lib.hid hlt
          obtain ⟨hqa, hqb⟩ := hq0
          clear hq hcl hx hxm hx2 hg har hnx hbx hrx hev hlt hbl1
          go_wp2_with fail
          go_roundg (gk - 1)
          case rel =>
            refine ⟨j + 1, by have := HGJ.out; have := HLTj.out; omega, by go_num, (HAj.out.set m _).congr (fun k h0 h1 => ?_), World.rowIs.setOther HNj.out (by have := HLT8.out; exact Nat.ne_of_gt this) _, World.rowIs.setOther HBj.out (Nat.ne_of_lt HLT.out) _, HRj.out.st p8 m _ HF7.out, HVj.out.setC (Nat.le_of_lt (Nat.lt_of_le_of_lt HPG.out HLT.out)) _⟩
            rw [HTK.out]
            unfold hv
            by_cases hk : k = (m : Int)
            · rw [if_pos hk, if_pos hk, hk, ← HQ.out]; omega
            · rw [if_neg hk, if_neg hk]; omega
          case measure => have := HGJ.out; have := HLTj.out; omega
        · obtain rfl : j = l2.length := by omega
          have HAz : Hid (ArrR wr p8 (cn f2 w2')) := Lib.hid (har.congr (fun k h0 _ => by rw [List.take_length, HCN1.out k h0]))
          clear hg har hnx hbx hrx hev hlt
          obtain ⟨d0, d1, d2⟩ := HNj.out.c
          go_upto_region 25 with fail
          go_cut [113] from 106 to 112 (fun s113 wx => s113 = .bool false ∧ wx = wr)
          case first =>
            rcases HM2.out with hm | ⟨hm, hm', hm''⟩
            · subst hm
              go_wp2_with fail
              go_meet
              case rel => exact ⟨rfl, rfl⟩
            · subst hm'
              have hq : (m2 != m2) = false := by simp
              go_wp2_with fail
              go_meet
              case rel => exact ⟨rfl, rfl⟩
          case rest =>
          obtain ⟨rfl, rfl⟩ := hcut
          obtain ⟨b0, b1, b2⟩ := HBj.out.c
          obtain ⟨z0, z1, z2⟩ := HBj.out.z
          have hne : ¬ p6 = p14 := by have := HLT6.out; omega
          have HF : Hid (Ev W (((wc.setCell ⟨p6, 0, none⟩ (.int .i64 s2)).setCell ⟨p6, 1, none⟩ (.int .i64 f2)).setCell ⟨p6, 2, none⟩ (.int .i64 w2'))) := Lib.hid (set3_ev HVj.out HPG.out s2 f2 w2')
          have HBF : Hid (BoxR (((wc.setCell ⟨p6, 0, none⟩ (.int .i64 s2)).setCell ⟨p6, 1, none⟩ (.int .i64 f2)).setCell ⟨p6, 2, none⟩ (.int .i64 w2')) p6 s2 f2 w2') := Lib.hid (set3_box HBj.out s2 f2 w2')
          have HAF : Hid (ArrR (((wc.setCell ⟨p6, 0, none⟩ (.int .i64 s2)).setCell ⟨p6, 1, none⟩ (.int .i64 f2)).setCell ⟨p6, 2, none⟩ (.int .i64 w2')) p8 (cn f2 w2')) := Lib.hid (HAz.out.set3 (Nat.ne_of_gt HLT.out) s2 f2 w2')
          go_upto_region 28 with fail
          clear b0 b1 b2 z0 z1 z2
          generalize (((wc.setCell ⟨p6, 0, none⟩ (.int .i64 s2)).setCell ⟨p6, 1, none⟩ (.int .i64 f2)).setCell ⟨p6, 2, none⟩ (.int .i64 w2')) = wz at *
          obtain ⟨b0, b1, b2⟩ := HBF.out.c
          go_wp2_with fail
          refine (C19.out _).mono ?_
          rintro x wq ⟨A9, c9, rfl, hr9, hev⟩
          have HBq := Lib.hid (HBF.out.ev hev)
          have HAq := Lib.hid (HAF.out.ev hev)
          have HVq := Lib.hid (HF.out.step hev)
          have HRq := Lib.hid hr9
          have hl9' : (L9.length : Int) ≤ 2 := by have := HL9.out; omega
          clear hev hr9 b0 b1 b2
          go_upto_region 33 with fail
          go_loopg [21] 256 (fun gh kv W3 => ∃ k : Nat, gh + k = 256 ∧ kv = .int .i64 k ∧ Ev wq W3)
          case atStart => exact ⟨0, rfl, rfl, Ev.refl _⟩
          case round =>
            obtain ⟨k, hg, rfl, hev⟩ := hrel
            have HGk := Lib.hid hg
            have HEk := Lib.hid hev
            have hk0 : (0 : Int) ≤ (k : Int) := by omega
            by_cases hlt : k < 256
            · have hlt' : (k : Int) < 256 := by omega
              have C34 := Lib.hid (has_any A9 c9 L9 (k : Int) wr (HRq.out.ev hev) (by omega))
              have hck := HCF.out k
              have HLTk := Lib.hid hlt
              rcases hbd : decide ((k : Int) ∈ L9) with _ | _
              · rw [if_neg (of_decide_eq_false hbd)] at hck
                rw [hbd] at C34
                clear hbd hg hev hlt
                go_wp2_with fail
                refine C34.out.mono ?_
                rintro x wh ⟨rfl, hev⟩
                have c1 := (HAq.out.ev (HEk.out.step hev)).c k HLTk.out
                rw [hck] at c1
                have HEh := Lib.hid (HEk.out.step hev)
                clear hev hck
                go_wp2_with fail
                go_roundg (gk - 1)
                case rel => exact ⟨k + 1, by have := HGk.out; have := HLTk.out; omega, by go_num, HEh.out⟩
                case measure => have := HGk.out; have := HLTk.out; omega
              · rw [if_pos (of_decide_eq_true hbd)] at hck
                rw [hbd] at C34
                clear hbd hg hev hlt
                go_wp2_with fail
                refine C34.out.mono ?_
                rintro x wh ⟨rfl, hev⟩
                have c1 := (HAq.out.ev (HEk.out.step hev)).c k HLTk.out
                rw [hck] at c1
                have HEh := Lib.hid (HEk.out.step hev)
                clear hev hck
                go_wp2_with fail
                go_roundg (gk - 1)
                case rel => exact ⟨k + 1, by have := HGk.out; have := HLTk.out; omega, by go_num, HEh.out⟩
                case measure => have := HGk.out; have := HLTk.out; omega
            · obtain rfl : k = 256 := by omega
              have HBe := Lib.hid (HBq.out.ev hev)
              have HAe := Lib.hid (HAq.out.ev hev)
              have HVe := Lib.hid (HVq.out.step hev)
              clear hg hev hlt
              go_wp2_with fail
              go_roundg go1
              case rel => exact ⟨i + 1, s2, f2, w2', by have := HG.out; have := HGO.out; omega, by go_num, by go_num, HBe.out, HAe.out, HC2x.out, HMU2.out, HVe.out⟩
              case measure => have := HGO.out; omega
end Go.Proofs.YtfiglmbnjfgdlaaDoor
