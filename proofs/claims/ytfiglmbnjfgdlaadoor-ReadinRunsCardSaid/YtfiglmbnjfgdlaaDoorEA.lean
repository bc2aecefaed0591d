import Derived.Test.YtfiglmbnjfgdlaaDoorDN
import Derived.Deep.CutRange
namespace Go.Proofs.YtfiglmbnjfgdlaaDoor
open Go.RowKit
/-- The slice at A reads as these events: frame, event. -/
def RdC (w : World) (A : Option Addr) (l : List (Int × Int)) : Prop :=
  ∀ j, j < l.length → ∃ b o, A = some ⟨b, o, none⟩ ∧ b < w.heap.size ∧ w.cell? ⟨b, o + j * 2, none⟩ = some (.int .i64 (l.getD j (0, 0)).1) ∧ w.cell? ⟨b, o + j * 2 + 1, none⟩ = some (.int .i64 (l.getD j (0, 0)).2)
theorem RdC.ev {w w' : World} {A : Option Addr} {l : List (Int × Int)} (h : RdC w A l) (e : Ev w w') : RdC w' A l := fun j hj => by
  obtain ⟨b, o, h1, h2, h3, h4⟩ := h j hj
  have := e.sz
  exact ⟨b, o, h1, by omega, by rw [e.cell (p := ⟨b, o + j * 2, none⟩) h2]; exact h3, by rw [e.cell (p := ⟨b, o + j * 2 + 1, none⟩) h2]; exact h4⟩
structure RunV where
  s : Int
  f : Int
  w : Int
  n : Nat
  e : Int
/-- what a run of events gives -/
def ru (s f w : Int) : List (Int × Int) → Nat → RunV
  | [], i => ⟨s, f, w, i, 0⟩
  | (fr, e) :: t, i => if stE s f w e fr = 0 then ru (stR s f w e fr).s (stR s f w e fr).f (stR s f w e fr).w t (i + 1) else ⟨s, f, w, i, stE s f w e fr⟩
def ruA (s f w : Int) (cs : List (Int × Int)) : RunV := if ck s f w = 0 then ru s f w cs 0 else ⟨0, 0, 0, 0, ck s f w⟩
def RunQ (W : World) (V : RunV) (x : Ending) (w' : World) : Prop := x = .returned (.tuple #[rd V.s V.f V.w, .int .i64 V.n, .int .i64 V.e]) ∧ Ev W w'
set_option maxRecDepth 100000 in
set_option maxHeartbeats 8000000 in
theorem rrun_any (s f w : Int) (B : Option Addr) (d : Nat) (cs : List (Int × Int)) (W : World) (hcs : RdC W B cs) (hlen : cs.length ≤ 4000000000) :
    Calls Tryd.prog 23 #[rd s f w, .slice B cs.length d] W fun x w' => RunQ W (ruA s f w cs) x w' := by
  have HLEN := Lib.hid hlen
  have HE0 : Hid (Ev W (W.alloc (rdO s f w))) := Lib.hid (al1 _ _)
  have HB0 := Lib.hid (BoxR.new W s f w)
  have HE1 : Hid (Ev W ((W.alloc (rdO s f w)).alloc (rdO 0 0 0))) := Lib.hid (HE0.out.alloc _)
  have HB1 := Lib.hid (HB0.out.al (rdO 0 0 0))
  have HZ1 : Hid (BoxR ((W.alloc (rdO s f w)).alloc (rdO 0 0 0)) (W.heap.size + 1) 0 0 0) := Lib.hid (by
    have h := BoxR.new (W.alloc (rdO s f w)) 0 0 0
    rwa [show (W.alloc (rdO s f w)).heap.size = W.heap.size + 1 from by simp] at h)
  have HLT : Hid (W.heap.size < W.heap.size + 1) := Lib.hid (Nat.lt_succ_self _)
  have HP4 : Hid (W.heap.size ≤ W.heap.size + 1) := Lib.hid (Nat.le_succ _)
  have CK := Lib.hid fun W => rcheck_any s f w W
  have HCS := Lib.hid hcs
  clear hcs hlen
  by_cases h0 : ck s f w = 0
  · have HR0 : Hid (ruA s f w cs = ru s f w cs 0) := Lib.hid (by unfold ruA; rw [if_pos h0])
    rw [h0] at CK
    clear h0
    go_enter Tryd.func23, Tryd.ntmps23
    go_upto_region 1 with fail
    generalize ((W.alloc (rdO s f w)).alloc (rdO 0 0 0)) = w1 at *
    obtain ⟨b0, b1, b2⟩ := HB1.out.c
    go_wp2_with fail
    refine (CK.out _).mono ?_
    rintro e w5 ⟨rfl, hev⟩
    have HE5 := Lib.hid (HE1.out.step hev)
    have HB5 := Lib.hid (HB1.out.ev hev)
    have HZ5 := Lib.hid (HZ1.out.ev hev)
    clear hev b0 b1 b2
    go_upto_region 5 with fail
    go_loopg [8] cs.length (fun gh iv wr => ∃ (i : Nat) (s1 f1 w1 : Int), gh + i = cs.length ∧ iv = .int .i64 i ∧ BoxR wr W.heap.size s1 f1 w1 ∧ BoxR wr (W.heap.size + 1) 0 0 0 ∧ ru s1 f1 w1 (cs.drop i) i = ru s f w cs 0 ∧ Ev W wr)
    case atStart => exact ⟨0, s, f, w, rfl, rfl, HB5.out, HZ5.out, rfl, HE5.out⟩
    case round =>
      obtain ⟨i, s1, f1, w1, hg, rfl, hbx, hzx, hru, hev⟩ := hrel
      have HG := Lib.hid hg
      have HB := Lib.hid hbx
      have HZ := Lib.hid hzx
      have HRU := Lib.hid hru
      have HV := Lib.hid hev
      have hi0 : (0 : Int) ≤ (i : Int) := by omega
      have hn4 : (cs.length : Int) ≤ 4000000000 := by have := HLEN.out; omega
      by_cases h1 : i < cs.length
      · have h1' : (i : Int) < (cs.length : Int) := by omega
        obtain ⟨b, o, rfl, hb, k1, k2⟩ := (HCS.out.ev hev) i h1
        have hdrop : cs.drop i = cs.getD i (0, 0) :: cs.drop (i + 1) := by
          rw [List.drop_eq_getElem_cons h1, List.getD_eq_getElem?_getD, List.getElem?_eq_getElem h1]; rfl
        obtain ⟨fr, e, hfr⟩ : ∃ fr e, cs.getD i (0, 0) = (fr, e) := ⟨_, _, rfl⟩
        rw [hfr] at k1 k2 hdrop
        simp only [] at k1 k2
        have HST : Hid (ru s f w cs 0 = if stE s1 f1 w1 e fr = 0 then ru (stR s1 f1 w1 e fr).s (stR s1 f1 w1 e fr).f (stR s1 f1 w1 e fr).w (cs.drop (i + 1)) (i + 1) else ⟨s1, f1, w1, i, stE s1 f1 w1 e fr⟩) := Lib.hid (by rw [← hru, hdrop]; rfl)
        have C13 := Lib.hid fun W' => rstep_any s1 f1 w1 e fr W'
        unfold StepQ at C13
        have H1 := Lib.hid h1
        generalize stE s1 f1 w1 e fr = er at *
        generalize stR s1 f1 w1 e fr = R at *
        obtain ⟨s2, f2, w2, l2, m2⟩ := R
        simp only [] at HST C13
        have HSS : Hid (∀ W', Ev wr W' → ((W'.cell? ⟨W.heap.size, 0, none⟩ = some (.int .i64 s1) ∧ W'.cell? ⟨W.heap.size, 1, none⟩ = some (.int .i64 f1) ∧ W'.cell? ⟨W.heap.size, 2, none⟩ = some (.int .i64 w1)) ∧ W'.cell? ⟨b, o + i * 2, none⟩ = some (.int .i64 fr) ∧ W'.cell? ⟨b, o + i * 2 + 1, none⟩ = some (.int .i64 e)) ∧ Ev wr W') := Lib.hid fun W' h => ⟨⟨(HB.out.ev h).c, (h.cell (p := ⟨b, o + i * 2, none⟩) hb).trans k1, (h.cell (p := ⟨b, o + i * 2 + 1, none⟩) hb).trans k2⟩, h⟩
        clear hdrop hfr hg h1 hbx hzx hru hev k1 k2 hb
        go_upto_region 7 with fail
        go_cut [9, 10, 11, 12] from 19 to 47 (fun s9 s10 s11 s12 wd => ∃ q, s9 = .pointer (some ⟨q, 0, none⟩) ∧ s12 = .int .i64 er ∧ BoxR wd q s2 f2 w2 ∧ BoxR wd W.heap.size s1 f1 w1 ∧ BoxR wd (W.heap.size + 1) 0 0 0 ∧ Ev W wd ∧ W.heap.size < q)
        case first =>
          have hev := Ev.refl wr
          have dd := HSS.out _ hev
          go_region_held3 (fun W' => ((W'.cell? ⟨W.heap.size, 0, none⟩ = some (.int .i64 s1) ∧ W'.cell? ⟨W.heap.size, 1, none⟩ = some (.int .i64 f1) ∧ W'.cell? ⟨W.heap.size, 2, none⟩ = some (.int .i64 w1)) ∧ W'.cell? ⟨b, o + i * 2, none⟩ = some (.int .i64 fr) ∧ W'.cell? ⟨b, o + i * 2 + 1, none⟩ = some (.int .i64 e)) ∧ Ev wr W')
            ((refine HSS.out _ ?_; repeat (first | (with_reducible assumption) | (with_reducible exact Ev.refl _) | (with_reducible refine Ev.drew ?_) | (with_reducible refine Ev.alloc ?_ _) | (with_reducible refine Ev.setC ?_ (by simp) _))))
            ((go_at_call 13; refine (C13.out _).mono ?_; rintro e w' ⟨A5, c5, rfl, _, hst⟩; (have hev2 : Ev wr w' := Ev.step (by repeat (first | (with_reducible assumption) | (with_reducible exact Ev.refl _) | (with_reducible refine Ev.drew ?_) | (with_reducible refine Ev.alloc ?_ _) | (with_reducible refine Ev.setC ?_ (by simp) _))) hst); clear hev; have hev := hev2; clear hev2; (try (have hbx := (BoxR.new wr 0 0 0).ev (Ev.step (Ev.drew (Ev.refl _)) hst); obtain ⟨n0, n1, n2⟩ := hbx.c; obtain ⟨m0, m1, m2⟩ := hbx.z))))
          all_goals
            have HEVx := Lib.hid hev
            go_wp2_with fail
            go_meet
            case rel =>
              first
                | exact ⟨_, rfl, rfl, BoxR.new _ s2 f2 w2, (HB.out.ev HEVx.out).al _, (HZ.out.ev HEVx.out).al _, (HV.out.step HEVx.out).alloc _, World.rowIs.lt (HB.out.ev HEVx.out)⟩
                | exact ⟨_, rfl, rfl, set3_box hbx s2 f2 w2, set3_oth (HB.out.ev HEVx.out) (Nat.ne_of_lt (World.rowIs.lt HB.out)) s2 f2 w2, set3_oth (HZ.out.ev HEVx.out) (Nat.ne_of_lt (World.rowIs.lt HZ.out)) s2 f2 w2, set3_ev (HV.out.step HEVx.out) HV.out.sz s2 f2 w2, World.rowIs.lt HB.out⟩
        case rest =>
        obtain ⟨q, rfl, rfl, hbq, hbp, hbz, hev, hpq⟩ := hcut
        have HQ1 := Lib.hid hbq
        have HP1 := Lib.hid hbp
        have HZ1' := Lib.hid hbz
        have HV1 := Lib.hid hev
        clear hbq hbp hbz hev
        by_cases h0 : er = 0
        · subst h0
          have HQ : Hid (ru s f w cs 0 = ru s2 f2 w2 (cs.drop (i + 1)) (i + 1)) := Lib.hid (by rw [HST.out, if_pos rfl])
          obtain ⟨d0, d1, d2⟩ := HQ1.out.c
          obtain ⟨b0, b1, b2⟩ := HP1.out.c
          obtain ⟨z0, z1, z2⟩ := HP1.out.z
          have hne : ¬ W.heap.size = q := by omega
          have HBF : Hid (BoxR (((wc.setCell ⟨W.heap.size, 0, none⟩ (.int .i64 s2)).setCell ⟨W.heap.size, 1, none⟩ (.int .i64 f2)).setCell ⟨W.heap.size, 2, none⟩ (.int .i64 w2)) W.heap.size s2 f2 w2) := Lib.hid (set3_box HP1.out s2 f2 w2)
          have HZF : Hid (BoxR (((wc.setCell ⟨W.heap.size, 0, none⟩ (.int .i64 s2)).setCell ⟨W.heap.size, 1, none⟩ (.int .i64 f2)).setCell ⟨W.heap.size, 2, none⟩ (.int .i64 w2)) (W.heap.size + 1) 0 0 0) := Lib.hid (set3_oth HZ1'.out (Nat.ne_of_gt HLT.out) s2 f2 w2)
          have HF : Hid (Ev W (((wc.setCell ⟨W.heap.size, 0, none⟩ (.int .i64 s2)).setCell ⟨W.heap.size, 1, none⟩ (.int .i64 f2)).setCell ⟨W.heap.size, 2, none⟩ (.int .i64 w2))) := Lib.hid (set3_ev HV1.out (Nat.le_refl _) s2 f2 w2)
          clear hpq
          go_wp2_with fail
          go_roundg (gk - 1)
          case rel => exact ⟨i + 1, s2, f2, w2, by have := HG.out; have := H1.out; omega, by go_num, HBF.out, HZF.out, HQ.out.symm, HF.out⟩
          case measure => have := HG.out; have := H1.out; omega
        · have HQ : Hid (ru s f w cs 0 = ⟨s1, f1, w1, i, er⟩) := Lib.hid (by rw [HST.out, if_neg h0])
          have hq : (er != 0) = true := by simpa using h0
          obtain ⟨d0, d1, d2⟩ := HP1.out.c
          obtain ⟨b0, b1, b2⟩ := HZ1'.out.c
          obtain ⟨z0, z1, z2⟩ := HZ1'.out.z
          have hne : ¬ W.heap.size + 1 = W.heap.size := by have := HLT.out; omega
          have HF : Hid (Ev W (((wc.setCell ⟨W.heap.size + 1, 0, none⟩ (.int .i64 s1)).setCell ⟨W.heap.size + 1, 1, none⟩ (.int .i64 f1)).setCell ⟨W.heap.size + 1, 2, none⟩ (.int .i64 w1))) := Lib.hid (set3_ev HV1.out HP4.out s1 f1 w1)
          clear h0 hpq
          go_wp2_with fail
          exact bodyPost_ret (v := .tuple #[rd s1 f1 w1, .int .i64 (i : Nat), .int .i64 er]) (by simp [results, Tryd.results23, go_sem, *]) rfl ⟨by rw [HR0.out, HQ.out], HF.out⟩
      · obtain rfl : i = cs.length := by omega
        rw [List.drop_length] at hru
        have HQ : Hid (ru s f w cs 0 = ⟨s1, f1, w1, cs.length, 0⟩) := Lib.hid hru.symm
        obtain ⟨d0, d1, d2⟩ := hbx.c
        obtain ⟨b0, b1, b2⟩ := hzx.c
        obtain ⟨z0, z1, z2⟩ := hzx.z
        have hne : ¬ W.heap.size + 1 = W.heap.size := by have := HLT.out; omega
        have HF : Hid (Ev W (((wr.setCell ⟨W.heap.size + 1, 0, none⟩ (.int .i64 s1)).setCell ⟨W.heap.size + 1, 1, none⟩ (.int .i64 f1)).setCell ⟨W.heap.size + 1, 2, none⟩ (.int .i64 w1))) := Lib.hid (set3_ev HV.out HP4.out s1 f1 w1)
        clear hg hbx hzx hru hev h1
        go_wp2_with fail
        exact bodyPost_ret (v := .tuple #[rd s1 f1 w1, .int .i64 (cs.length : Nat), .int .i64 0]) (by simp [results, Tryd.results23, go_sem, *]) rfl ⟨by rw [HR0.out, HQ.out], HF.out⟩
  · have HR0 : Hid (ruA s f w cs = ⟨0, 0, 0, 0, ck s f w⟩) := Lib.hid (by unfold ruA; rw [if_neg h0])
    generalize ck s f w = er at *
    have hq : (er != 0) = true := by simpa using h0
    clear h0
    go_enter Tryd.func23, Tryd.ntmps23
    go_upto_region 1 with fail
    generalize ((W.alloc (rdO s f w)).alloc (rdO 0 0 0)) = w1 at *
    obtain ⟨b0, b1, b2⟩ := HB1.out.c
    go_wp2_with fail
    refine (CK.out _).mono ?_
    rintro e w5 ⟨rfl, hev⟩
    have HE5 := Lib.hid (HE1.out.step hev)
    have HZ5 := Lib.hid (HZ1.out.ev hev)
    clear hev b0 b1 b2
    obtain ⟨d0, d1, d2⟩ := HZ5.out.c
    obtain ⟨z0, z1, z2⟩ := HZ5.out.z
    have HF : Hid (Ev W (((w5.setCell ⟨W.heap.size + 1, 0, none⟩ (.int .i64 0)).setCell ⟨W.heap.size + 1, 1, none⟩ (.int .i64 0)).setCell ⟨W.heap.size + 1, 2, none⟩ (.int .i64 0))) := Lib.hid (set3_ev HE5.out HP4.out 0 0 0)
    go_wp2_with fail
    exact bodyPost_ret (v := .tuple #[rd 0 0 0, .int .i64 0, .int .i64 er]) (by simp [results, Tryd.results23, go_sem, *]) rfl ⟨by rw [HR0.out]; rfl, HF.out⟩
end Go.Proofs.YtfiglmbnjfgdlaaDoor
