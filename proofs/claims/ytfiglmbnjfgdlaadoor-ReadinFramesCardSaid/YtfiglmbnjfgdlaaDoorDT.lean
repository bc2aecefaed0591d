import Derived.Test.YtfiglmbnjfgdlaaDoorDS
import Derived.Deep.CutRange
namespace Go.Proofs.YtfiglmbnjfgdlaaDoor
open Go.RowKit
theorem muA1 (w : Int) : muA 1 w ≤ 4 := by
  unfold muA
  cases (w != -1) <;> decide
/-- a list that lies below D -/
def RdL (D : Nat) (W : World) (A : Option Addr) (L : List Int) : Prop := ∀ j, j < L.length → ∃ b o, A = some ⟨b, o, none⟩ ∧ b < D ∧ W.cell? ⟨b, o + j, none⟩ = some (.int .i64 (L.getD j 0))
theorem RdL.of {W : World} {A : Option Addr} {L : List Int} (h : RdI W A L) : RdL W.heap.size W A L := fun j hj => h.2 j hj
theorem RdL.bel {D : Nat} {W W' : World} {A : Option Addr} {L : List Int} (h : RdL D W A L) (hb : Below D W W') : RdL D W' A L := fun j hj => by
  obtain ⟨b, o, h1, h2, h3⟩ := h j hj
  exact ⟨b, o, h1, h2, by rw [Below.cell hb (p := ⟨b, o + j, none⟩) h2]; exact h3⟩
theorem BoxR.bel {D : Nat} {W W' : World} {b : Nat} {s f w : Int} (h : BoxR W b s f w) (hb : Below D W W') (hlt : b < D) : BoxR W' b s f w := World.rowIs.of_block h (Below.block hb b hlt)
theorem bel_ev {D : Nat} {A B C : World} (h : Below D A B) (e : Ev B C) (hD : D ≤ B.heap.size) : Below D A C := Below.trans h (Below.mono e hD)
theorem needs_of (s f w : Int) (k : Int) (h0 : ck s f w = 0) (hk : ((shL s w).length : Int) = k) (W : World) : Calls Tryd.prog 17 #[rd s f w] W fun x w' => x = .returned (.tuple #[.int .i64 k, .int .i64 0]) ∧ Ev W w' := by
  have h := needs_any s f w W
  rwa [show ndV s f w = k from by unfold ndV; rw [if_pos h0, hk], h0] at h
theorem shortest_of (s f w : Int) (h0 : ck s f w = 0) (hs : s ≤ 5) (W : World) : Calls Tryd.prog 26 #[rd s f w] W fun x w' => ListQ W (shL s w) 0 x w' := by
  have h := shortest_any s f w W
  have h1 : seL s f w = shL s w := by unfold seL; rw [if_pos h0]
  have h2 : seE s f w = 0 := by
    unfold seE
    rw [if_pos h0, if_neg]
    rintro ⟨a, b⟩
    exact b (sh_end s f w h0 hs a)
  rwa [h1, h2] at h
theorem step_of (s f w e n s' f' w' m' : Int) (l' : List Int) (hE : stE s f w e n = 0) (hR : stR s f w e n = ⟨s', f', w', l', m'⟩) (W : World) (hT : Tab W) : Calls Tryd.prog 12 #[rd s f w, .int .i64 e, .int .i64 n] W fun x W' => ∃ A c, x = .returned (.tuple #[rd s' f' w', .slice A l'.length c, .int .i64 m', .int .i64 0]) ∧ Ev W W' := by
  have h := step_any s f w e n W hT
  rw [hE, hR] at h
  exact h.mono fun x W' ⟨A, c, h1, _, h3⟩ => ⟨A, c, h1, h3⟩
set_option maxRecDepth 100000 in
set_option maxHeartbeats 32000000 in
theorem arrives_law (HK : ∀ W, Tab W → Calls Tryd.prog 5 #[] W fun x w' => x = .returned (.bool true) ∧ Ev W w') (n : Int) (A : Option Addr) (c : Nat) (l : List Int) (W : World) (hr : RdI W A l) (hT : Tab W) :
    Calls Tryd.prog 7 #[.int .i64 n, .slice A l.length c] W fun x w' => x = .returned (.bool true) ∧ Ev W w' := by
  have HTT := Lib.hid hT
  have HRN := Lib.hid hr
  have HKK := Lib.hid (HK W hT)
  clear hr hT HK
  go_enter Tryd.func7, Tryd.ntmps7
  go_wp2_with fail
  refine HKK.out.mono ?_
  rintro e w1 ⟨rfl, hev⟩
  have HE1 := Lib.hid hev
  clear hev
  go_wp2_with fail
  refine (made_any n _).mono ?_
  rintro e w2 ⟨wv, g1, g2, rfl, hev⟩
  have HE2 := Lib.hid ((HE1.out.step hev).alloc (rdO 1 (-1) wv))
  have HB2 := Lib.hid (BoxR.new w2 1 (-1) wv)
  have HPG : Hid (W.heap.size ≤ w2.heap.size) := Lib.hid (HE1.out.step hev).sz
  have HC2 : Hid (ck 1 (-1) wv = 0) := Lib.hid (ck_of _ _ _ (by omega))
  clear hev g1 g2
  go_upto_region 6 with fail
  generalize (w2.alloc (rdO 1 (-1) wv)) = w3 at *
  generalize w2.heap.size = p6 at *
  go_loopg [8] 12 (fun gh iv wr => ∃ (i : Nat) (s f w : Int), gh + i = 12 ∧ iv = .int .i64 i ∧ BoxR wr p6 s f w ∧ ck s f w = 0 ∧ s ≤ 5 ∧ i + muA s w ≤ 4 ∧ Ev W wr)
  case atStart => exact ⟨0, 1, -1, wv, rfl, rfl, HB2.out, HC2.out, by decide, by have := muA1 wv; omega, HE2.out⟩
  case round =>
    obtain ⟨i, s, f, w, hg, rfl, hbx, hck, hs5, hmu, hev⟩ := hrel
    have HG := Lib.hid hg
    have HB := Lib.hid hbx
    have HC := Lib.hid hck
    have HS5 := Lib.hid hs5
    have HMU := Lib.hid hmu
    have HV := Lib.hid hev
    obtain ⟨go1, hgo1⟩ : ∃ g, g + 1 = gk := ⟨gk - 1, by omega⟩
    have HGO := Lib.hid hgo1
    have hi1 : (i : Int) < 12 := by omega
    have hi0 : (0 : Int) ≤ (i : Int) := by omega
    have CS := Lib.hid (shortest_of s f w hck hs5 wr)
    unfold ListQ at CS
    have CN := Lib.hid fun W => needs_of s f w _ hck rfl W
    have hl3 := shL_len s w
    have HLW := Lib.hid (show shL s w = shL s w from rfl)
    obtain ⟨L, hL⟩ : ∃ L, L = shL s w := ⟨_, rfl⟩
    rw [← hL] at CS CN hl3
    have HL := Lib.hid hL
    have hq : ((L.length : Int) != (L.length : Int)) = false := by simp
    clear hbx hck hs5 hmu hev hg hgo1 HLW hL
    obtain ⟨b0, b1, b2⟩ := HB.out.c
    go_wp2_with fail
    refine CS.out.mono ?_
    rintro e wa ⟨A9, c9, rfl, hr9, hev⟩
    have HBa := Lib.hid (HB.out.ev hev)
    have HVa := Lib.hid (HV.out.step hev)
    have HRa := Lib.hid hr9
    clear hev hr9 b0 b1 b2
    obtain ⟨b0, b1, b2⟩ := HBa.out.c
    go_wp2_with fail
    refine (CN.out _).mono ?_
    rintro e wb ⟨rfl, hev⟩
    have HBb := Lib.hid (HBa.out.ev hev)
    have HVb := Lib.hid (HVa.out.step hev)
    have HRb := Lib.hid (HRa.out.ev hev)
    clear hev b0 b1 b2
    obtain ⟨b0, b1, b2⟩ := HBb.out.c
    go_upto_region 14 with fail
    clear hq b0 b1 b2
    have HP0 := Lib.hid (BoxR.new wb s f w)
    have HB0 := Lib.hid (HBb.out.al (rdO s f w))
    have HV0 := Lib.hid (HVb.out.alloc (rdO s f w))
    have HRL0 : Hid (RdL wb.heap.size (wb.alloc (rdO s f w)) A9 L) := Lib.hid ((RdL.of HRb.out).bel ((Below.refl _ _).alloc (Nat.le_refl _) _))
    have HLT : Hid (p6 < wb.heap.size) := Lib.hid (World.rowIs.lt HBb.out)
    generalize (wb.alloc (rdO s f w)) = wo at *
    generalize wb.heap.size = p at *
    go_loopg [14] L.length (fun gh kv W2 => ∃ (k : Nat) (s1 f1 w1 : Int), gh + k = L.length ∧ kv = .int .i64 k ∧ BoxR W2 p s1 f1 w1 ∧ ck s1 f1 w1 = 0 ∧ s1 ≤ 5 ∧ shL s1 w1 = L.drop k ∧ Below p wo W2)
    case atStart => exact ⟨0, s, f, w, rfl, rfl, HP0.out, HC.out, HS5.out, by rw [HL.out]; rfl, Below.refl _ _⟩
    case round =>
      obtain ⟨k, s1, f1, w1, hg, rfl, hbx, hck, hs5, hsh, hbl⟩ := hrel
      have HGK := Lib.hid hg
      have HP := Lib.hid hbx
      have HC1 := Lib.hid hck
      have HS1 := Lib.hid hs5
      have HSH := Lib.hid hsh
      have HBL := Lib.hid hbl
      have HVW : Hid (Ev W wr) := Lib.hid (Below.trans HV0.out (Below.mono hbl (by have := HLT.out; have := HPG.out; omega)))
      have HBX : Hid (BoxR wr p6 s f w) := Lib.hid (HB0.out.bel hbl HLT.out)
      have hk0 : (0 : Int) ≤ (k : Int) := by omega
      have hl3' : (L.length : Int) ≤ 3 := by omega
      by_cases hlt : k < L.length
      · have hlt' : (k : Int) < (L.length : Int) := by omega
        have hdr : L.drop k = L.getD k 0 :: L.drop (k + 1) := by
          rw [List.drop_eq_getElem_cons hlt, List.getD_eq_getElem?_getD, List.getElem?_eq_getElem hlt]; rfl
        have HNX := Lib.hid (sh_step s1 f1 w1 (L.getD k 0) (L.drop (k + 1)) hck hs5 (by rw [hsh, hdr]))
        obtain ⟨bl, ol, rfl, hbl1, k1⟩ := (HRL0.out.bel hbl) k hlt
        have hbl2 : bl < wr.heap.size := by have := World.rowIs.lt hbx; omega
        have HLT1 := Lib.hid hlt
        generalize L.getD k 0 = e at *
        have hkk : ((L.drop (k + 1)).length : Int) = (L.length : Int) - (k : Int) - 1 := by rw [List.length_drop]; omega
        have HKK2 := Lib.hid hkk
        have HSS : Hid (∀ W', Ev wr W' → ((W'.cell? ⟨p, 0, none⟩ = some (.int .i64 s1) ∧ W'.cell? ⟨p, 1, none⟩ = some (.int .i64 f1) ∧ W'.cell? ⟨p, 2, none⟩ = some (.int .i64 w1)) ∧ W'.cell? ⟨bl, ol + k, none⟩ = some (.int .i64 e)) ∧ Ev wr W') := Lib.hid fun W' h => ⟨⟨(HP.out.ev h).c, (h.cell (p := ⟨bl, ol + k, none⟩) hbl2).trans k1⟩, h⟩
        have HTW := Lib.hid (HTT.out.ev HVW.out)
        clear hg hbx hck hs5 hsh hbl hbl1 hbl2 hlt hdr hkk
        by_cases he : e = 1
        · subst he
          obtain ⟨hE, s2, f2, w2', l2, m2, hR, hc2, hs2, hl2⟩ := HNX.out 7 rfl
          have C12 := Lib.hid fun W' (h : Ev wr W') => step_of s1 f1 w1 1 7 s2 f2 w2' m2 l2 hE hR W' (HTW.out.ev h)
          have C17 := Lib.hid fun W' => needs_of s2 f2 w2' ((L.length : Int) - (k : Int) - 1) hc2 (by rw [hl2]; exact HKK2.out) W'
          have HC2x := Lib.hid hc2
          have HS2x := Lib.hid hs2
          have HL2 := Lib.hid hl2
          clear hE hR hc2 hs2 hl2
          go_upto_region 19 with fail
          clear k1
          go_cut [16, 17, 18, 19] from 77 to 108 (fun s16 s17 s18 s19 wd => ∃ q, s16 = .pointer (some ⟨q, 0, none⟩) ∧ s19 = .int .i64 0 ∧ BoxR wd q s2 f2 w2' ∧ BoxR wd p s1 f1 w1 ∧ Below p wo wd ∧ p < q)
          case first =>
            have hev := Ev.refl wr
            have dd := HSS.out _ hev
            go_region_held3 (fun W' => ((W'.cell? ⟨p, 0, none⟩ = some (.int .i64 s1) ∧ W'.cell? ⟨p, 1, none⟩ = some (.int .i64 f1) ∧ W'.cell? ⟨p, 2, none⟩ = some (.int .i64 w1)) ∧ W'.cell? ⟨bl, ol + k, none⟩ = some (.int .i64 1)) ∧ Ev wr W')
              ((refine HSS.out _ ?_; repeat (first | (with_reducible assumption) | (with_reducible exact Ev.refl _) | (with_reducible refine Ev.drew ?_) | (with_reducible refine Ev.alloc ?_ _) | (with_reducible refine Ev.setC ?_ (by simp) _))))
              ((go_at_call 12; refine (C12.out _ (by repeat (first | (with_reducible assumption) | (with_reducible exact Ev.refl _) | (with_reducible refine Ev.drew ?_) | (with_reducible refine Ev.alloc ?_ _) | (with_reducible refine Ev.setC ?_ (by simp) _)))).mono ?_; rintro e w' ⟨A5, c5, rfl, hst⟩; (have hev2 : Ev wr w' := Ev.step (by repeat (first | (with_reducible assumption) | (with_reducible exact Ev.refl _) | (with_reducible refine Ev.drew ?_) | (with_reducible refine Ev.alloc ?_ _) | (with_reducible refine Ev.setC ?_ (by simp) _))) hst); clear hev; have hev := hev2; clear hev2; (try (have hbx := (BoxR.new wr 0 0 0).ev (Ev.step (Ev.drew (Ev.refl _)) hst); obtain ⟨n0, n1, n2⟩ := hbx.c; obtain ⟨m0, m1, m2⟩ := hbx.z))))
            all_goals
              have HEVx := Lib.hid hev
              go_wp2_with fail
              go_meet
              case rel =>
                first
                  | exact ⟨_, rfl, rfl, BoxR.new _ s2 f2 w2', (HP.out.ev HEVx.out).al _, bel_ev HBL.out (HEVx.out.alloc _) (Nat.le_of_lt (World.rowIs.lt HP.out)), World.rowIs.lt (HP.out.ev HEVx.out)⟩
                  | exact ⟨_, rfl, rfl, set3_box hbx s2 f2 w2', set3_oth (HP.out.ev HEVx.out) (Nat.ne_of_lt (World.rowIs.lt HP.out)) s2 f2 w2', bel_ev HBL.out (set3_ev HEVx.out (Nat.le_refl _) s2 f2 w2') (Nat.le_of_lt (World.rowIs.lt HP.out)), World.rowIs.lt HP.out⟩
          case rest =>
          skip
          obtain ⟨q, rfl, rfl, hbq, hbp, hbl, hpq⟩ := hcut
          have HQ1 := Lib.hid hbq
          have HP1 := Lib.hid hbp
          have HBL1 := Lib.hid hbl
          clear hbq hbp hbl
          obtain ⟨d0, d1, d2⟩ := HQ1.out.c
          go_wp2_with fail
          refine (C17.out _).mono ?_
          rintro x w9 ⟨rfl, hev⟩
          have HQ9 := Lib.hid (HQ1.out.ev hev)
          have HP9 := Lib.hid (HP1.out.ev hev)
          have HBL9 := Lib.hid (bel_ev HBL1.out hev (Nat.le_of_lt (World.rowIs.lt HP1.out)))
          clear hev d0 d1 d2
          obtain ⟨d0, d1, d2⟩ := HQ9.out.c
          obtain ⟨b0, b1, b2⟩ := HP9.out.c
          obtain ⟨z0, z1, z2⟩ := HP9.out.z
          have hne : ¬ p = q := by omega
          have HBF : Hid (BoxR (((w9.setCell ⟨p, 0, none⟩ (.int .i64 s2)).setCell ⟨p, 1, none⟩ (.int .i64 f2)).setCell ⟨p, 2, none⟩ (.int .i64 w2')) p s2 f2 w2') := Lib.hid (set3_box HP9.out s2 f2 w2')
          have HLF : Hid (Below p wo (((w9.setCell ⟨p, 0, none⟩ (.int .i64 s2)).setCell ⟨p, 1, none⟩ (.int .i64 f2)).setCell ⟨p, 2, none⟩ (.int .i64 w2'))) := Lib.hid (((HBL9.out.setCell (Nat.le_refl _) _).setCell (Nat.le_refl _) _).setCell (Nat.le_refl _) _)
          clear hpq
          go_wp2_with fail
          go_roundg (gk - 1)
          case rel => exact ⟨k + 1, s2, f2, w2', by have := HGK.out; have := HLT1.out; omega, by go_num, HBF.out, HC2x.out, HS2x.out, HL2.out, HLF.out⟩
          case measure => have := HGK.out; have := HLT1.out; omega
        · have he1 : (e == 1) = false := by simp [he]
          obtain ⟨hE, s2, f2, w2', l2, m2, hR, hc2, hs2, hl2⟩ := HNX.out (-1) (by rw [if_neg he])
          have C12 := Lib.hid fun W' (h : Ev wr W') => step_of s1 f1 w1 e (-1) s2 f2 w2' m2 l2 hE hR W' (HTW.out.ev h)
          have C17 := Lib.hid fun W' => needs_of s2 f2 w2' ((L.length : Int) - (k : Int) - 1) hc2 (by rw [hl2]; exact HKK2.out) W'
          have HC2x := Lib.hid hc2
          have HS2x := Lib.hid hs2
          have HL2 := Lib.hid hl2
          clear hE hR hc2 hs2 hl2 he
          go_upto_region 19 with fail
          clear k1
          go_cut [16, 17, 18, 19] from 77 to 108 (fun s16 s17 s18 s19 wd => ∃ q, s16 = .pointer (some ⟨q, 0, none⟩) ∧ s19 = .int .i64 0 ∧ BoxR wd q s2 f2 w2' ∧ BoxR wd p s1 f1 w1 ∧ Below p wo wd ∧ p < q)
          case first =>
            have hev := Ev.refl wr
            have dd := HSS.out _ hev
            go_region_held3 (fun W' => ((W'.cell? ⟨p, 0, none⟩ = some (.int .i64 s1) ∧ W'.cell? ⟨p, 1, none⟩ = some (.int .i64 f1) ∧ W'.cell? ⟨p, 2, none⟩ = some (.int .i64 w1)) ∧ W'.cell? ⟨bl, ol + k, none⟩ = some (.int .i64 e)) ∧ Ev wr W')
              ((refine HSS.out _ ?_; repeat (first | (with_reducible assumption) | (with_reducible exact Ev.refl _) | (with_reducible refine Ev.drew ?_) | (with_reducible refine Ev.alloc ?_ _) | (with_reducible refine Ev.setC ?_ (by simp) _))))
              ((go_at_call 12; refine (C12.out _ (by repeat (first | (with_reducible assumption) | (with_reducible exact Ev.refl _) | (with_reducible refine Ev.drew ?_) | (with_reducible refine Ev.alloc ?_ _) | (with_reducible refine Ev.setC ?_ (by simp) _)))).mono ?_; rintro e w' ⟨A5, c5, rfl, hst⟩; (have hev2 : Ev wr w' := Ev.step (by repeat (first | (with_reducible assumption) | (with_reducible exact Ev.refl _) | (with_reducible refine Ev.drew ?_) | (with_reducible refine Ev.alloc ?_ _) | (with_reducible refine Ev.setC ?_ (by simp) _))) hst); clear hev; have hev := hev2; clear hev2; (try (have hbx := (BoxR.new wr 0 0 0).ev (Ev.step (Ev.drew (Ev.refl _)) hst); obtain ⟨n0, n1, n2⟩ := hbx.c; obtain ⟨m0, m1, m2⟩ := hbx.z))))
            all_goals
              have HEVx := Lib.hid hev
              go_wp2_with fail
              go_meet
              case rel =>
                first
                  | exact ⟨_, rfl, rfl, BoxR.new _ s2 f2 w2', (HP.out.ev HEVx.out).al _, bel_ev HBL.out (HEVx.out.alloc _) (Nat.le_of_lt (World.rowIs.lt HP.out)), World.rowIs.lt (HP.out.ev HEVx.out)⟩
                  | exact ⟨_, rfl, rfl, set3_box hbx s2 f2 w2', set3_oth (HP.out.ev HEVx.out) (Nat.ne_of_lt (World.rowIs.lt HP.out)) s2 f2 w2', bel_ev HBL.out (set3_ev HEVx.out (Nat.le_refl _) s2 f2 w2') (Nat.le_of_lt (World.rowIs.lt HP.out)), World.rowIs.lt HP.out⟩
          case rest =>
          skip
          obtain ⟨q, rfl, rfl, hbq, hbp, hbl, hpq⟩ := hcut
          have HQ1 := Lib.hid hbq
          have HP1 := Lib.hid hbp
          have HBL1 := Lib.hid hbl
          clear hbq hbp hbl
          obtain ⟨d0, d1, d2⟩ := HQ1.out.c
          go_wp2_with fail
          refine (C17.out _).mono ?_
          rintro x w9 ⟨rfl, hev⟩
          have HQ9 := Lib.hid (HQ1.out.ev hev)
          have HP9 := Lib.hid (HP1.out.ev hev)
          have HBL9 := Lib.hid (bel_ev HBL1.out hev (Nat.le_of_lt (World.rowIs.lt HP1.out)))
          clear hev d0 d1 d2
          obtain ⟨d0, d1, d2⟩ := HQ9.out.c
          obtain ⟨b0, b1, b2⟩ := HP9.out.c
          obtain ⟨z0, z1, z2⟩ := HP9.out.z
          have hne : ¬ p = q := by omega
          have HBF : Hid (BoxR (((w9.setCell ⟨p, 0, none⟩ (.int .i64 s2)).setCell ⟨p, 1, none⟩ (.int .i64 f2)).setCell ⟨p, 2, none⟩ (.int .i64 w2')) p s2 f2 w2') := Lib.hid (set3_box HP9.out s2 f2 w2')
          have HLF : Hid (Below p wo (((w9.setCell ⟨p, 0, none⟩ (.int .i64 s2)).setCell ⟨p, 1, none⟩ (.int .i64 f2)).setCell ⟨p, 2, none⟩ (.int .i64 w2'))) := Lib.hid (((HBL9.out.setCell (Nat.le_refl _) _).setCell (Nat.le_refl _) _).setCell (Nat.le_refl _) _)
          clear hpq
          go_wp2_with fail
          go_roundg (gk - 1)
          case rel => exact ⟨k + 1, s2, f2, w2', by have := HGK.out; have := HLT1.out; omega, by go_num, HBF.out, HC2x.out, HS2x.out, HL2.out, HLF.out⟩
          case measure => have := HGK.out; have := HLT1.out; omega
      · obtain rfl : k = L.length := by omega
        have h5 : s1 = 5 := sh_end s1 f1 w1 hck hs5 (by rw [hsh, List.drop_length])
        subst h5
        clear hg hbx hck hs5 hsh hbl hlt
        obtain ⟨c0, c1, c2⟩ := HP.out.c
        go_upto_region 26 with fail
        clear c0 c1 c2
        have HS6 : Hid (∀ W', Ev wr W' → (W'.cell? ⟨p6, 0, none⟩ = some (.int .i64 s) ∧ W'.cell? ⟨p6, 1, none⟩ = some (.int .i64 f) ∧ W'.cell? ⟨p6, 2, none⟩ = some (.int .i64 w)) ∧ Ev wr W') := Lib.hid fun W' h => ⟨(HBX.out.ev h).c, h⟩
        have C33 : Hid (∀ W', Ev wr W' → Calls Tryd.prog 33 #[.slice A l.length c, .int .i64 (i : Int)] W' fun e w' => SomeI W' e w') := Lib.hid fun W' h => at33 A c l i W' (HRN.out.ev (HVW.out.step h))
        unfold SomeI at C33
        have HTW := Lib.hid (HTT.out.ev HVW.out)
        have hev := Ev.refl wr
        have dd := HS6.out _ hev
        by_cases h5 : s = 5
        · subst h5
          have C32 := Lib.hid fun x W' (h : Ev wr W') => pick_any5 f w x W' (HTW.out.ev h) HC.out
          go_region_held3 (fun W' => (W'.cell? ⟨p6, 0, none⟩ = some (.int .i64 5) ∧ W'.cell? ⟨p6, 1, none⟩ = some (.int .i64 f) ∧ W'.cell? ⟨p6, 2, none⟩ = some (.int .i64 w)) ∧ Ev wr W')
            ((refine HS6.out _ ?_; repeat (first | (with_reducible assumption) | (with_reducible exact Ev.refl _) | (with_reducible refine Ev.drew ?_) | (with_reducible refine Ev.alloc ?_ _) | (with_reducible refine Ev.setC ?_ (by simp) _))))
            (first | (go_at_call 33; refine (C33.out _ (by repeat (first | (with_reducible assumption) | (with_reducible exact Ev.refl _) | (with_reducible refine Ev.drew ?_) | (with_reducible refine Ev.alloc ?_ _) | (with_reducible refine Ev.setC ?_ (by simp) _)))).mono ?_; rintro e w' ⟨v33, rfl, rfl⟩) | (go_at_call 32; refine (C32.out _ _ (by repeat (first | (with_reducible assumption) | (with_reducible exact Ev.refl _) | (with_reducible refine Ev.drew ?_) | (with_reducible refine Ev.alloc ?_ _) | (with_reducible refine Ev.setC ?_ (by simp) _)))).mono ?_; rintro e w' ⟨rfl, hst⟩; (have hev2 : Ev wr w' := Ev.step (by repeat (first | (with_reducible assumption) | (with_reducible exact Ev.refl _) | (with_reducible refine Ev.drew ?_) | (with_reducible refine Ev.alloc ?_ _) | (with_reducible refine Ev.setC ?_ (by simp) _))) hst); clear hev; have hev := hev2; clear hev2))
          have HE5 := Lib.hid (HVW.out.step hev)
          obtain ⟨d0, d1, d2⟩ := (HBX.out.ev hev).c
          clear dd
          go_wp2_with fail
          go_ret
          exact ⟨rfl, HE5.out⟩
        · have hs4 : s ≤ 4 := by have := HS5.out; omega
          have C32 := Lib.hid fun x W' (h : Ev wr W') => pick_any0 s f w x W' (HTW.out.ev h) HC.out hs4
          unfold PickQ at C32
          have PK := Lib.hid fun e fr h1 h2 => pk_step s f w e fr HC.out hs4 h1 h2
          clear h5 hs4
          go_region_held3 (fun W' => (W'.cell? ⟨p6, 0, none⟩ = some (.int .i64 s) ∧ W'.cell? ⟨p6, 1, none⟩ = some (.int .i64 f) ∧ W'.cell? ⟨p6, 2, none⟩ = some (.int .i64 w)) ∧ Ev wr W')
            ((refine HS6.out _ ?_; repeat (first | (with_reducible assumption) | (with_reducible exact Ev.refl _) | (with_reducible refine Ev.drew ?_) | (with_reducible refine Ev.alloc ?_ _) | (with_reducible refine Ev.setC ?_ (by simp) _))))
            (first | (go_at_call 33; refine (C33.out _ (by repeat (first | (with_reducible assumption) | (with_reducible exact Ev.refl _) | (with_reducible refine Ev.drew ?_) | (with_reducible refine Ev.alloc ?_ _) | (with_reducible refine Ev.setC ?_ (by simp) _)))).mono ?_; rintro e w' ⟨v33, rfl, rfl⟩) | (go_at_call 32; refine (C32.out _ _ (by repeat (first | (with_reducible assumption) | (with_reducible exact Ev.refl _) | (with_reducible refine Ev.drew ?_) | (with_reducible refine Ev.alloc ?_ _) | (with_reducible refine Ev.setC ?_ (by simp) _)))).mono ?_; rintro x w' ⟨e, fr, he, hfr, rfl, hst⟩; (have hev2 : Ev wr w' := Ev.step (by repeat (first | (with_reducible assumption) | (with_reducible exact Ev.refl _) | (with_reducible refine Ev.drew ?_) | (with_reducible refine Ev.alloc ?_ _) | (with_reducible refine Ev.setC ?_ (by simp) _))) hst); clear hev; have hev := hev2; clear hev2))
          obtain ⟨hE, s2, f2, w2', l2, m2, hR, hc2, hs2, hm2, hle⟩ := PK.out e fr he hfr
          have C12 := Lib.hid fun W' (h : Ev wr W') => step_of s f w e fr s2 f2 w2' m2 l2 hE hR W' (HTW.out.ev h)
          have C17 := Lib.hid fun W' => needs_of s2 f2 w2' _ hc2 rfl W'
          have HMU2 : Hid (i + 1 + muA s2 w2' ≤ 4) := Lib.hid (by have := HMU.out; omega)
          have HC2x := Lib.hid hc2
          have HS2x := Lib.hid hs2
          have hle2 : ¬ ((L.length : Int) < ((shL s2 w2').length : Int)) ∨ ((L.length : Int) < ((shL s2 w2').length : Int)) ∧ e = 4 := by
            rw [HL.out]
            rcases hle with h | h
            · exact .inl (by omega)
            · by_cases h2 : ((shL s w).length : Int) < ((shL s2 w2').length : Int)
              · exact .inr ⟨h2, h⟩
              · exact .inl h2
          have hm3 := shL_len s2 w2'
          generalize (shL s2 w2').length = M at *
          have HEV6 := Lib.hid hev
          have HLE2 := Lib.hid hle2
          have hm3' : (M : Int) ≤ 3 := by omega
          clear dd hE hR hc2 hs2 hm2 hle he hfr hev hle2 hm3 PK
          obtain ⟨b0, b1, b2⟩ := (HBX.out.ev HEV6.out).c
          go_wp2_with fail
          refine (C12.out _ HEV6.out).mono ?_
          rintro x w7 ⟨A7, c7, rfl, hev⟩
          have HB7 := Lib.hid ((HBX.out.ev (HEV6.out.step hev)).al (rdO s2 f2 w2'))
          have HV7 := Lib.hid ((HVW.out.step (HEV6.out.step hev)).alloc (rdO s2 f2 w2'))
          have HN7 := Lib.hid (BoxR.new w7 s2 f2 w2')
          have HLT7 : Hid (p6 < w7.heap.size) := Lib.hid (World.rowIs.lt (HBX.out.ev (HEV6.out.step hev)))
          clear hev b0 b1 b2
          go_upto_region 29 with fail
          generalize (w7.alloc (rdO s2 f2 w2')) = w8 at *
          generalize w7.heap.size = p25 at *
          obtain ⟨d0, d1, d2⟩ := HN7.out.c
          go_wp2_with fail
          refine (C17.out _).mono ?_
          rintro x w9 ⟨rfl, hev⟩
          have HB9 := Lib.hid (HB7.out.ev hev)
          have HV9 := Lib.hid (HV7.out.step hev)
          have HN9 := Lib.hid (HN7.out.ev hev)
          clear hev d0 d1 d2
          obtain ⟨d0, d1, d2⟩ := HN9.out.c
          obtain ⟨b0, b1, b2⟩ := HB9.out.c
          obtain ⟨z0, z1, z2⟩ := HB9.out.z
          have hne : ¬ p6 = p25 := by have := HLT7.out; omega
          have HF : Hid (Ev W (((w9.setCell ⟨p6, 0, none⟩ (.int .i64 s2)).setCell ⟨p6, 1, none⟩ (.int .i64 f2)).setCell ⟨p6, 2, none⟩ (.int .i64 w2'))) := Lib.hid (set3_ev HV9.out HPG.out s2 f2 w2')
          have HBF : Hid (BoxR (((w9.setCell ⟨p6, 0, none⟩ (.int .i64 s2)).setCell ⟨p6, 1, none⟩ (.int .i64 f2)).setCell ⟨p6, 2, none⟩ (.int .i64 w2')) p6 s2 f2 w2') := Lib.hid (set3_box HB9.out s2 f2 w2')
          rcases HLE2.out with hle | ⟨hle, h4⟩
          · go_wp2_with fail
            go_roundg go1
            case rel => exact ⟨i + 1, s2, f2, w2', by have := HG.out; have := HGO.out; omega, by go_num, HBF.out, HC2x.out, HS2x.out, HMU2.out, HF.out⟩
            case measure => have := HGO.out; omega
          · have h4' : (e != 4) = false := by simp [h4]
            clear h4
            go_wp2_with fail
            go_roundg go1
            case rel => exact ⟨i + 1, s2, f2, w2', by have := HG.out; have := HGO.out; omega, by go_num, HBF.out, HC2x.out, HS2x.out, HMU2.out, HF.out⟩
            case measure => have := HGO.out; omega
end Go.Proofs.YtfiglmbnjfgdlaaDoor
