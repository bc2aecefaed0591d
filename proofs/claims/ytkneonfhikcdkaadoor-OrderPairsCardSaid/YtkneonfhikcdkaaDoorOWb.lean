import Derived.Test.YtkneonfhikcdkaaDoorOV
import Derived.Sort.CutIn
namespace Go.Proofs.YtkneonfhikcdkaaDoor
open Go.RowKit Go.Shelf
set_option maxRecDepth 100000 in
set_option maxHeartbeats 4000000 in
theorem pairs_2 (at' k m x : Int) (w : World) (hT : Tab w) (h2 : 2 ≤ w.heap.size) (hk : k % 6 = 2) (hm : at' % 64 = m) (hx : m * 4 = x) (hb : blkE x 2 = 0) : Calls Tryd.prog 9 #[.int .i64 at', .int .i64 k] w fun e w' => e = .returned (.bool true) ∧ Ev w w' := by
  obtain ⟨g1, g2, g3, g4, g5, g6, g7, g8⟩ := pairF hb (by decide)
  have HM1 : Hid (∀ W, Calls Tryd.prog 36 #[.int .i64 k, .int .i64 6] W fun e w' => e = .returned (.int .i64 2) ∧ W = w') := Lib.hid fun W => by have h := mod_any k 6 W (by omega) (by omega); rw [hk] at h; exact h
  have HM2 : Hid (∀ W, Calls Tryd.prog 36 #[.int .i64 at', .int .i64 64] W fun e w' => e = .returned (.int .i64 m) ∧ W = w') := Lib.hid fun W => by have h := mod_any at' 64 W (by omega) (by omega); rw [hm] at h; exact h
  have hm0 : 0 ≤ m ∧ m < 64 := by omega
  have HBB : Hid (∀ w0 W, Ev w0 W → Calls Tryd.prog 35 #[.int .i64 x, .int .i64 2] W fun e w' => e = .returned (bk x 2) ∧ Ev w0 w') := Lib.hid fun w0 W e => evN e (b_any x 2 W)
  have c1 : childE x 2 = 0 := by unfold childE; rw [if_neg (by simp [hb]), if_neg (by decide)]
  have c2 : childE (bud x 2) 2 = 0 := by unfold childE; rw [if_neg (by simp [g1]), if_neg (by decide)]
  have H18x : Hid (∀ w0 W, Ev w0 W → Calls Tryd.prog 18 #[bk x 2] W fun e w' => e = .returned (.tuple #[bk (bud x 2) 2, .int .i64 0]) ∧ Ev w0 w') := Lib.hid fun w0 W e => evN e (by have h := buddy_any x 2 W; rw [c1] at h; exact h)
  have H18y : Hid (∀ w0 W, Ev w0 W → Calls Tryd.prog 18 #[bk (bud x 2) 2] W fun e w' => e = .returned (.tuple #[bk x 2, .int .i64 0]) ∧ Ev w0 w') := Lib.hid fun w0 W e => evN e (by have h := buddy_any (bud x 2) 2 W; rw [c2, g2] at h; exact h)
  have H20x : Hid (∀ w0 W, Ev w0 W → Calls Tryd.prog 20 #[bk x 2] W fun e w' => e = .returned (.tuple #[bk (par x 2) 3, .int .i64 0]) ∧ Ev w0 w') := Lib.hid fun w0 W e => evN e (by have h := parent_any x 2 W; rw [c1] at h; exact h)
  have H20y : Hid (∀ w0 W, Ev w0 W → Calls Tryd.prog 20 #[bk (bud x 2) 2] W fun e w' => e = .returned (.tuple #[bk (par x 2) 3, .int .i64 0]) ∧ Ev w0 w') := Lib.hid fun w0 W e => evN e (by have h := parent_any (bud x 2) 2 W; rw [c2, g3] at h; exact h)
  have HF1 : Hid (∀ X W A c, Ev X W → RdP W A [(par x 2, 3)] → Calls Tryd.prog 31 #[.slice A 1 c] W fun e w' => ∃ B d, e = .returned (.tuple #[.slice B (fV x 2).length d, .int .i64 0]) ∧ RdI w' B (fV x 2) ∧ Ev X w') := Lib.hid fun X W A c e hr => fr_any hb (by decide) [(par x 2, 3)] (.inr rfl) X W A 1 c rfl e hr
  have HLH : Hid ((bud x 2 < x ∧ ∀ X W A c, Ev X W → RdP W A [(bud x 2, 2), (x, 2)] → Calls Tryd.prog 31 #[.slice A 2 c] W fun e w' => ∃ B d, e = .returned (.tuple #[.slice B (fV x 2).length d, .int .i64 0]) ∧ RdI w' B (fV x 2) ∧ Ev X w') ∨ (¬ bud x 2 < x ∧ ∀ X W A c, Ev X W → RdP W A [(x, 2), (bud x 2, 2)] → Calls Tryd.prog 31 #[.slice A 2 c] W fun e w' => ∃ B d, e = .returned (.tuple #[.slice B (fV x 2).length d, .int .i64 0]) ∧ RdI w' B (fV x 2) ∧ Ev X w')) := Lib.hid (by
    by_cases h : bud x 2 < x
    · refine .inl ⟨h, fun X W A c e hr => fr_any hb (by decide) _ (.inl ?_) X W A 2 c rfl e hr⟩
      rw [(g6 h).1, ← (g6 h).2]
    · refine .inr ⟨h, fun X W A c e hr => fr_any hb (by decide) _ (.inl ?_) X W A 2 c rfl e hr⟩
      rw [(g7 h).1, ← (g7 h).2])
  have HAW : Hid (∀ W, Ev w W → Calls Tryd.prog 17 #[] W fun e w' => e = .returned (.bool true) ∧ Ev w w') := Lib.hid fun W e => evN e (awake_any W (hT.ev h2 e) (by have := e.sz; omega))
  have hyx : (bud x 2 == x) = false := by simpa using g5
  clear hT hk hm g1 g2 g3 g4 g5 g6 g7 g8 c1 c2 hb
  generalize bud x 2 = y at *
  generalize par x 2 = p at *
  generalize fV x 2 = L at *
  have hev := Ev.refl w
  go_enter Tryd.func9, Tryd.ntmps9
  go_wp2_with fail
  refine (HM1.out _).mono ?_
  rintro e w' ⟨rfl, rfl⟩
  go_wp2_with fail
  refine (HM2.out _).mono ?_
  rintro e w' ⟨rfl, rfl⟩
  go_wp2_with fail
  clear hx
  refine (HBB.out w w (Ev.refl _)).mono ?_
  rintro e w1 ⟨rfl, hv⟩
  replace hev := hev.step hv
  clear hv
  go_upto_region 4 with fail
  have hq7 := Bq.new w1 x 2 28
  replace hev := hev.step (Ev.new3 w1 x 2 28)
  obtain ⟨p7, hp7⟩ : ∃ p, p = w1.heap.size := ⟨_, rfl⟩
  rw [← hp7] at hq7 ⊢
  generalize w1.alloc (.cells #[.int .i64 x, .int .i64 2] 28) = wb7 at *
  clear hp7
  obtain ⟨-, x7, y7⟩ := id hq7
  go_wp2_with fail
  refine (H18x.out wb7 wb7 (Ev.refl _)).mono ?_
  rintro e w2 ⟨rfl, hv⟩
  replace hq7 := hq7.ev hv
  replace hev := hev.step hv
  clear hv
  clear x7 y7
  go_upto_region 5 with fail
  have hq8 := Bq.new w2 y 2 28
  replace hq7 := hq7.ev (Ev.new3 w2 y 2 28)
  replace hev := hev.step (Ev.new3 w2 y 2 28)
  obtain ⟨p8, hp8⟩ : ∃ p, p = w2.heap.size := ⟨_, rfl⟩
  rw [← hp8] at hq8 ⊢
  generalize w2.alloc (.cells #[.int .i64 y, .int .i64 2] 28) = wb8 at *
  clear hp8
  obtain ⟨-, x8, y8⟩ := id hq8
  go_wp2_with fail
  refine (H18y.out wb8 wb8 (Ev.refl _)).mono ?_
  rintro e w3 ⟨rfl, hv⟩
  replace hq7 := hq7.ev hv
  replace hq8 := hq8.ev hv
  replace hev := hev.step hv
  clear hv
  clear x8 y8
  go_upto_region 6 with fail
  have hq10 := Bq.new w3 x 2 28
  replace hq7 := hq7.ev (Ev.new3 w3 x 2 28)
  replace hq8 := hq8.ev (Ev.new3 w3 x 2 28)
  replace hev := hev.step (Ev.new3 w3 x 2 28)
  obtain ⟨p10, hp10⟩ : ∃ p, p = w3.heap.size := ⟨_, rfl⟩
  rw [← hp10] at hq10 ⊢
  generalize w3.alloc (.cells #[.int .i64 x, .int .i64 2] 28) = wb10 at *
  clear hp10
  obtain ⟨-, x7, y7⟩ := id hq7
  go_wp2_with fail
  refine (H20x.out wb10 wb10 (Ev.refl _)).mono ?_
  rintro e w4 ⟨rfl, hv⟩
  replace hq7 := hq7.ev hv
  replace hq8 := hq8.ev hv
  replace hq10 := hq10.ev hv
  replace hev := hev.step hv
  clear hv
  clear x7 y7
  go_upto_region 7 with fail
  have hq12 := Bq.new w4 p 3 28
  replace hq7 := hq7.ev (Ev.new3 w4 p 3 28)
  replace hq8 := hq8.ev (Ev.new3 w4 p 3 28)
  replace hq10 := hq10.ev (Ev.new3 w4 p 3 28)
  replace hev := hev.step (Ev.new3 w4 p 3 28)
  obtain ⟨p12, hp12⟩ : ∃ p, p = w4.heap.size := ⟨_, rfl⟩
  rw [← hp12] at hq12 ⊢
  generalize w4.alloc (.cells #[.int .i64 p, .int .i64 3] 28) = wb12 at *
  clear hp12
  obtain ⟨-, x8, y8⟩ := id hq8
  go_wp2_with fail
  refine (H20y.out wb12 wb12 (Ev.refl _)).mono ?_
  rintro e w5 ⟨rfl, hv⟩
  replace hq7 := hq7.ev hv
  replace hq8 := hq8.ev hv
  replace hq10 := hq10.ev hv
  replace hq12 := hq12.ev hv
  replace hev := hev.step hv
  clear hv
  clear x8 y8
  go_upto_region 8 with fail
  have hq14 := Bq.new w5 p 3 28
  replace hq7 := hq7.ev (Ev.new3 w5 p 3 28)
  replace hq8 := hq8.ev (Ev.new3 w5 p 3 28)
  replace hq10 := hq10.ev (Ev.new3 w5 p 3 28)
  replace hq12 := hq12.ev (Ev.new3 w5 p 3 28)
  replace hev := hev.step (Ev.new3 w5 p 3 28)
  obtain ⟨p14, hp14⟩ : ∃ p, p = w5.heap.size := ⟨_, rfl⟩
  rw [← hp14] at hq14 ⊢
  generalize w5.alloc (.cells #[.int .i64 p, .int .i64 3] 28) = wb14 at *
  clear hp14
  obtain ⟨-, x7, y7⟩ := id hq7
  obtain ⟨-, x8, y8⟩ := id hq8
  obtain ⟨-, x10, y10⟩ := id hq10
  obtain ⟨-, x12, y12⟩ := id hq12
  obtain ⟨-, x14, y14⟩ := id hq14
  go_wp2_with fail
  go_cut [16, 17] from 89 (fun a b wc => ∃ pa pb, a = .pointer (some ⟨pa, 0, none⟩) ∧ b = .pointer (some ⟨pb, 0, none⟩) ∧ TwoB wb14 wc pa pb x y 2)
  case first =>
    have z7 := hq7.1
    have z8 := hq8.1
    clear hq7 hq8 hq10 hq12 hq14 hev HLH
    go_region
    all_goals go_wp2_with fail
    all_goals go_meet
    all_goals
      refine ⟨_, _, rfl, rfl, ?_⟩
      repeat (with_reducible apply TwoB.drew)
      first
        | with_reducible exact TwoB.a wb14 x y 2
        | with_reducible exact TwoB.b wb14 x y 2
        | exact TwoB.a wb14 x y 2
        | exact TwoB.b wb14 x y 2
  case rest =>
    generalize wc = wd at *
    obtain ⟨pa, pb, rfl, rfl, ht1, ht2, ht3, ht4, ht5, ht6, ht7, hv⟩ := hcut
    clear x7 y7 x8 y8 x10 y10 x12 y12 x14 y14 hq10 hq14
    have K12 := Lib.hid hq12
    have KE := Lib.hid hev
    have KV := Lib.hid hv
    have KZ := Lib.hid (And.intro ht2 ht3)
    have KN : Hid ((pa ≠ p7 ∧ p7 ≠ pa ∧ pa ≠ p8 ∧ p8 ≠ pa) ∧ (pb ≠ p7 ∧ p7 ≠ pb ∧ pb ≠ p8 ∧ p8 ≠ pb)) := Lib.hid (by have := hq7.1; have := hq8.1; omega)
    replace hq7 := hq7.ev hv
    replace hq8 := hq8.ev hv
    replace hq12 := hq12.ev hv
    replace hev := hev.step hv
    clear hv ht2 ht3
    obtain ⟨-, x7, y7⟩ := id hq7
    obtain ⟨-, x8, y8⟩ := id hq8
    rcases HLH.out with ⟨hlt, hF⟩ | ⟨hlt, hF⟩
    · have HF := Lib.hid hF
      clear hF HLH
      have HT6 := Lib.hid ht6
      have HT7 := Lib.hid ht7
      clear ht6 ht7
      go_wp2_with fail
      go_cut [] from 96 (fun we => SwR wb14 we pa pb x y 2)
      case first =>
        clear hq12 hev HF K12 KE
        obtain ⟨⟨u0, u1⟩, u2, u3⟩ := HT6.out
        obtain ⟨⟨v0, v1⟩, v2, v3⟩ := HT7.out
        have n1 := ht1.symm
        obtain ⟨⟨a1, a2, a3, a4⟩, a5, a6, a7, a8⟩ := KN.out
        go_region
        all_goals go_wp2_with fail
        all_goals go_meet
        all_goals
          repeat (with_reducible apply SwR.drew)
          first
            | with_reducible exact swapA ht1 HT6.out HT7.out KV.out KZ.out.1 KZ.out.2
            | with_reducible exact swapB ht1 HT6.out HT7.out KV.out KZ.out.1 KZ.out.2
      case rest =>
        generalize wc = we at *
        obtain ⟨hA, hB, hv2⟩ := hcut
        clear x7 y7 x8 y8 hq7 hq8 hq12 hev HT6 HT7
        have hq12 := K12.out.ev hv2
        have hev := KE.out.step hv2
        clear hv2
        obtain ⟨⟨u0, u1⟩, -, -⟩ := id hA
        obtain ⟨⟨v0, v1⟩, -, -⟩ := id hB
        go_wp2_with fail
        refine (HF.out we _ _ _ ((Ev.refl _).alloc _) (RdP.two we _ _ _ _)).mono ?_
        rintro e w6 ⟨B, d, rfl, hr, hv⟩
        replace hq12 := hq12.ev hv
        replace hev := hev.step hv
        have HR1 := Lib.hid hr
        clear hr hv u0 u1 v0 v1 hA hB
        obtain ⟨-, x12, y12⟩ := id hq12
        go_wp2_with fail
        refine (HF1.out w6 _ _ _ ((Ev.refl _).alloc _) (RdP.one w6 _ _)).mono ?_
        rintro e w7 ⟨B2, d2, rfl, hr2, hv⟩
        have HR2 := Lib.hid hr2
        have HV := Lib.hid hv
        clear hr2 hv x12 y12
        go_wp2_with fail
        refine (sameI _ _ _ _ L w7 (HR1.out.ev HV.out) HR2.out).mono ?_
        rintro e w8 ⟨rfl, hv2⟩
        replace hev := hev.step (HV.out.step hv2)
        clear hv2
        go_wp2_with fail
        refine (HAW.out _ hev).mono ?_
        rintro e w9 ⟨rfl, hev9⟩
        go_wp2_with fail
        go_ret
        exact ⟨rfl, hev9⟩
    · have HF := Lib.hid hF
      clear hF HLH
      have hle : x ≤ y := by omega
      have hA := ht6
      have hB := ht7
      clear ht6 ht7
      obtain ⟨⟨u0, u1⟩, -, -⟩ := id hA
      obtain ⟨⟨v0, v1⟩, -, -⟩ := id hB
      go_wp2_with fail
      refine (HF.out wd _ _ _ ((Ev.refl _).alloc _) (RdP.two wd _ _ _ _)).mono ?_
      rintro e w6 ⟨B, d, rfl, hr, hv⟩
      replace hq12 := hq12.ev hv
      replace hev := hev.step hv
      have HR1 := Lib.hid hr
      clear hr hv u0 u1 v0 v1 hA hB
      obtain ⟨-, x12, y12⟩ := id hq12
      go_wp2_with fail
      refine (HF1.out w6 _ _ _ ((Ev.refl _).alloc _) (RdP.one w6 _ _)).mono ?_
      rintro e w7 ⟨B2, d2, rfl, hr2, hv⟩
      have HR2 := Lib.hid hr2
      have HV := Lib.hid hv
      clear hr2 hv x12 y12
      go_wp2_with fail
      refine (sameI _ _ _ _ L w7 (HR1.out.ev HV.out) HR2.out).mono ?_
      rintro e w8 ⟨rfl, hv2⟩
      replace hev := hev.step (HV.out.step hv2)
      clear hv2
      go_wp2_with fail
      refine (HAW.out _ hev).mono ?_
      rintro e w9 ⟨rfl, hev9⟩
      go_wp2_with fail
      go_ret
      exact ⟨rfl, hev9⟩
set_option maxRecDepth 100000 in
set_option maxHeartbeats 4000000 in
theorem pairs_3 (at' k m x : Int) (w : World) (hT : Tab w) (h2 : 2 ≤ w.heap.size) (hk : k % 6 = 3) (hm : at' % 32 = m) (hx : m * 8 = x) (hb : blkE x 3 = 0) : Calls Tryd.prog 9 #[.int .i64 at', .int .i64 k] w fun e w' => e = .returned (.bool true) ∧ Ev w w' := by
  obtain ⟨g1, g2, g3, g4, g5, g6, g7, g8⟩ := pairF hb (by decide)
  have HM1 : Hid (∀ W, Calls Tryd.prog 36 #[.int .i64 k, .int .i64 6] W fun e w' => e = .returned (.int .i64 3) ∧ W = w') := Lib.hid fun W => by have h := mod_any k 6 W (by omega) (by omega); rw [hk] at h; exact h
  have HM2 : Hid (∀ W, Calls Tryd.prog 36 #[.int .i64 at', .int .i64 32] W fun e w' => e = .returned (.int .i64 m) ∧ W = w') := Lib.hid fun W => by have h := mod_any at' 32 W (by omega) (by omega); rw [hm] at h; exact h
  have hm0 : 0 ≤ m ∧ m < 32 := by omega
  have HBB : Hid (∀ w0 W, Ev w0 W → Calls Tryd.prog 35 #[.int .i64 x, .int .i64 3] W fun e w' => e = .returned (bk x 3) ∧ Ev w0 w') := Lib.hid fun w0 W e => evN e (b_any x 3 W)
  have c1 : childE x 3 = 0 := by unfold childE; rw [if_neg (by simp [hb]), if_neg (by decide)]
  have c2 : childE (bud x 3) 3 = 0 := by unfold childE; rw [if_neg (by simp [g1]), if_neg (by decide)]
  have H18x : Hid (∀ w0 W, Ev w0 W → Calls Tryd.prog 18 #[bk x 3] W fun e w' => e = .returned (.tuple #[bk (bud x 3) 3, .int .i64 0]) ∧ Ev w0 w') := Lib.hid fun w0 W e => evN e (by have h := buddy_any x 3 W; rw [c1] at h; exact h)
  have H18y : Hid (∀ w0 W, Ev w0 W → Calls Tryd.prog 18 #[bk (bud x 3) 3] W fun e w' => e = .returned (.tuple #[bk x 3, .int .i64 0]) ∧ Ev w0 w') := Lib.hid fun w0 W e => evN e (by have h := buddy_any (bud x 3) 3 W; rw [c2, g2] at h; exact h)
  have H20x : Hid (∀ w0 W, Ev w0 W → Calls Tryd.prog 20 #[bk x 3] W fun e w' => e = .returned (.tuple #[bk (par x 3) 4, .int .i64 0]) ∧ Ev w0 w') := Lib.hid fun w0 W e => evN e (by have h := parent_any x 3 W; rw [c1] at h; exact h)
  have H20y : Hid (∀ w0 W, Ev w0 W → Calls Tryd.prog 20 #[bk (bud x 3) 3] W fun e w' => e = .returned (.tuple #[bk (par x 3) 4, .int .i64 0]) ∧ Ev w0 w') := Lib.hid fun w0 W e => evN e (by have h := parent_any (bud x 3) 3 W; rw [c2, g3] at h; exact h)
  have HF1 : Hid (∀ X W A c, Ev X W → RdP W A [(par x 3, 4)] → Calls Tryd.prog 31 #[.slice A 1 c] W fun e w' => ∃ B d, e = .returned (.tuple #[.slice B (fV x 3).length d, .int .i64 0]) ∧ RdI w' B (fV x 3) ∧ Ev X w') := Lib.hid fun X W A c e hr => fr_any hb (by decide) [(par x 3, 4)] (.inr rfl) X W A 1 c rfl e hr
  have HLH : Hid ((bud x 3 < x ∧ ∀ X W A c, Ev X W → RdP W A [(bud x 3, 3), (x, 3)] → Calls Tryd.prog 31 #[.slice A 2 c] W fun e w' => ∃ B d, e = .returned (.tuple #[.slice B (fV x 3).length d, .int .i64 0]) ∧ RdI w' B (fV x 3) ∧ Ev X w') ∨ (¬ bud x 3 < x ∧ ∀ X W A c, Ev X W → RdP W A [(x, 3), (bud x 3, 3)] → Calls Tryd.prog 31 #[.slice A 2 c] W fun e w' => ∃ B d, e = .returned (.tuple #[.slice B (fV x 3).length d, .int .i64 0]) ∧ RdI w' B (fV x 3) ∧ Ev X w')) := Lib.hid (by
    by_cases h : bud x 3 < x
    · refine .inl ⟨h, fun X W A c e hr => fr_any hb (by decide) _ (.inl ?_) X W A 2 c rfl e hr⟩
      rw [(g6 h).1, ← (g6 h).2]
    · refine .inr ⟨h, fun X W A c e hr => fr_any hb (by decide) _ (.inl ?_) X W A 2 c rfl e hr⟩
      rw [(g7 h).1, ← (g7 h).2])
  have HAW : Hid (∀ W, Ev w W → Calls Tryd.prog 17 #[] W fun e w' => e = .returned (.bool true) ∧ Ev w w') := Lib.hid fun W e => evN e (awake_any W (hT.ev h2 e) (by have := e.sz; omega))
  have hyx : (bud x 3 == x) = false := by simpa using g5
  clear hT hk hm g1 g2 g3 g4 g5 g6 g7 g8 c1 c2 hb
  generalize bud x 3 = y at *
  generalize par x 3 = p at *
  generalize fV x 3 = L at *
  have hev := Ev.refl w
  go_enter Tryd.func9, Tryd.ntmps9
  go_wp2_with fail
  refine (HM1.out _).mono ?_
  rintro e w' ⟨rfl, rfl⟩
  go_wp2_with fail
  refine (HM2.out _).mono ?_
  rintro e w' ⟨rfl, rfl⟩
  go_wp2_with fail
  clear hx
  refine (HBB.out w w (Ev.refl _)).mono ?_
  rintro e w1 ⟨rfl, hv⟩
  replace hev := hev.step hv
  clear hv
  go_upto_region 4 with fail
  have hq7 := Bq.new w1 x 3 28
  replace hev := hev.step (Ev.new3 w1 x 3 28)
  obtain ⟨p7, hp7⟩ : ∃ p, p = w1.heap.size := ⟨_, rfl⟩
  rw [← hp7] at hq7 ⊢
  generalize w1.alloc (.cells #[.int .i64 x, .int .i64 3] 28) = wb7 at *
  clear hp7
  obtain ⟨-, x7, y7⟩ := id hq7
  go_wp2_with fail
  refine (H18x.out wb7 wb7 (Ev.refl _)).mono ?_
  rintro e w2 ⟨rfl, hv⟩
  replace hq7 := hq7.ev hv
  replace hev := hev.step hv
  clear hv
  clear x7 y7
  go_upto_region 5 with fail
  have hq8 := Bq.new w2 y 3 28
  replace hq7 := hq7.ev (Ev.new3 w2 y 3 28)
  replace hev := hev.step (Ev.new3 w2 y 3 28)
  obtain ⟨p8, hp8⟩ : ∃ p, p = w2.heap.size := ⟨_, rfl⟩
  rw [← hp8] at hq8 ⊢
  generalize w2.alloc (.cells #[.int .i64 y, .int .i64 3] 28) = wb8 at *
  clear hp8
  obtain ⟨-, x8, y8⟩ := id hq8
  go_wp2_with fail
  refine (H18y.out wb8 wb8 (Ev.refl _)).mono ?_
  rintro e w3 ⟨rfl, hv⟩
  replace hq7 := hq7.ev hv
  replace hq8 := hq8.ev hv
  replace hev := hev.step hv
  clear hv
  clear x8 y8
  go_upto_region 6 with fail
  have hq10 := Bq.new w3 x 3 28
  replace hq7 := hq7.ev (Ev.new3 w3 x 3 28)
  replace hq8 := hq8.ev (Ev.new3 w3 x 3 28)
  replace hev := hev.step (Ev.new3 w3 x 3 28)
  obtain ⟨p10, hp10⟩ : ∃ p, p = w3.heap.size := ⟨_, rfl⟩
  rw [← hp10] at hq10 ⊢
  generalize w3.alloc (.cells #[.int .i64 x, .int .i64 3] 28) = wb10 at *
  clear hp10
  obtain ⟨-, x7, y7⟩ := id hq7
  go_wp2_with fail
  refine (H20x.out wb10 wb10 (Ev.refl _)).mono ?_
  rintro e w4 ⟨rfl, hv⟩
  replace hq7 := hq7.ev hv
  replace hq8 := hq8.ev hv
  replace hq10 := hq10.ev hv
  replace hev := hev.step hv
  clear hv
  clear x7 y7
  go_upto_region 7 with fail
  have hq12 := Bq.new w4 p 4 28
  replace hq7 := hq7.ev (Ev.new3 w4 p 4 28)
  replace hq8 := hq8.ev (Ev.new3 w4 p 4 28)
  replace hq10 := hq10.ev (Ev.new3 w4 p 4 28)
  replace hev := hev.step (Ev.new3 w4 p 4 28)
  obtain ⟨p12, hp12⟩ : ∃ p, p = w4.heap.size := ⟨_, rfl⟩
  rw [← hp12] at hq12 ⊢
  generalize w4.alloc (.cells #[.int .i64 p, .int .i64 4] 28) = wb12 at *
  clear hp12
  obtain ⟨-, x8, y8⟩ := id hq8
  go_wp2_with fail
  refine (H20y.out wb12 wb12 (Ev.refl _)).mono ?_
  rintro e w5 ⟨rfl, hv⟩
  replace hq7 := hq7.ev hv
  replace hq8 := hq8.ev hv
  replace hq10 := hq10.ev hv
  replace hq12 := hq12.ev hv
  replace hev := hev.step hv
  clear hv
  clear x8 y8
  go_upto_region 8 with fail
  have hq14 := Bq.new w5 p 4 28
  replace hq7 := hq7.ev (Ev.new3 w5 p 4 28)
  replace hq8 := hq8.ev (Ev.new3 w5 p 4 28)
  replace hq10 := hq10.ev (Ev.new3 w5 p 4 28)
  replace hq12 := hq12.ev (Ev.new3 w5 p 4 28)
  replace hev := hev.step (Ev.new3 w5 p 4 28)
  obtain ⟨p14, hp14⟩ : ∃ p, p = w5.heap.size := ⟨_, rfl⟩
  rw [← hp14] at hq14 ⊢
  generalize w5.alloc (.cells #[.int .i64 p, .int .i64 4] 28) = wb14 at *
  clear hp14
  obtain ⟨-, x7, y7⟩ := id hq7
  obtain ⟨-, x8, y8⟩ := id hq8
  obtain ⟨-, x10, y10⟩ := id hq10
  obtain ⟨-, x12, y12⟩ := id hq12
  obtain ⟨-, x14, y14⟩ := id hq14
  go_wp2_with fail
  go_cut [16, 17] from 89 (fun a b wc => ∃ pa pb, a = .pointer (some ⟨pa, 0, none⟩) ∧ b = .pointer (some ⟨pb, 0, none⟩) ∧ TwoB wb14 wc pa pb x y 3)
  case first =>
    have z7 := hq7.1
    have z8 := hq8.1
    clear hq7 hq8 hq10 hq12 hq14 hev HLH
    go_region
    all_goals go_wp2_with fail
    all_goals go_meet
    all_goals
      refine ⟨_, _, rfl, rfl, ?_⟩
      repeat (with_reducible apply TwoB.drew)
      first
        | with_reducible exact TwoB.a wb14 x y 3
        | with_reducible exact TwoB.b wb14 x y 3
        | exact TwoB.a wb14 x y 3
        | exact TwoB.b wb14 x y 3
  case rest =>
    generalize wc = wd at *
    obtain ⟨pa, pb, rfl, rfl, ht1, ht2, ht3, ht4, ht5, ht6, ht7, hv⟩ := hcut
    clear x7 y7 x8 y8 x10 y10 x12 y12 x14 y14 hq10 hq14
    have K12 := Lib.hid hq12
    have KE := Lib.hid hev
    have KV := Lib.hid hv
    have KZ := Lib.hid (And.intro ht2 ht3)
    have KN : Hid ((pa ≠ p7 ∧ p7 ≠ pa ∧ pa ≠ p8 ∧ p8 ≠ pa) ∧ (pb ≠ p7 ∧ p7 ≠ pb ∧ pb ≠ p8 ∧ p8 ≠ pb)) := Lib.hid (by have := hq7.1; have := hq8.1; omega)
    replace hq7 := hq7.ev hv
    replace hq8 := hq8.ev hv
    replace hq12 := hq12.ev hv
    replace hev := hev.step hv
    clear hv ht2 ht3
    obtain ⟨-, x7, y7⟩ := id hq7
    obtain ⟨-, x8, y8⟩ := id hq8
    rcases HLH.out with ⟨hlt, hF⟩ | ⟨hlt, hF⟩
    · have HF := Lib.hid hF
      clear hF HLH
      have HT6 := Lib.hid ht6
      have HT7 := Lib.hid ht7
      clear ht6 ht7
      go_wp2_with fail
      go_cut [] from 96 (fun we => SwR wb14 we pa pb x y 3)
      case first =>
        clear hq12 hev HF K12 KE
        obtain ⟨⟨u0, u1⟩, u2, u3⟩ := HT6.out
        obtain ⟨⟨v0, v1⟩, v2, v3⟩ := HT7.out
        have n1 := ht1.symm
        obtain ⟨⟨a1, a2, a3, a4⟩, a5, a6, a7, a8⟩ := KN.out
        go_region
        all_goals go_wp2_with fail
        all_goals go_meet
        all_goals
          repeat (with_reducible apply SwR.drew)
          first
            | with_reducible exact swapA ht1 HT6.out HT7.out KV.out KZ.out.1 KZ.out.2
            | with_reducible exact swapB ht1 HT6.out HT7.out KV.out KZ.out.1 KZ.out.2
      case rest =>
        generalize wc = we at *
        obtain ⟨hA, hB, hv2⟩ := hcut
        clear x7 y7 x8 y8 hq7 hq8 hq12 hev HT6 HT7
        have hq12 := K12.out.ev hv2
        have hev := KE.out.step hv2
        clear hv2
        obtain ⟨⟨u0, u1⟩, -, -⟩ := id hA
        obtain ⟨⟨v0, v1⟩, -, -⟩ := id hB
        go_wp2_with fail
        refine (HF.out we _ _ _ ((Ev.refl _).alloc _) (RdP.two we _ _ _ _)).mono ?_
        rintro e w6 ⟨B, d, rfl, hr, hv⟩
        replace hq12 := hq12.ev hv
        replace hev := hev.step hv
        have HR1 := Lib.hid hr
        clear hr hv u0 u1 v0 v1 hA hB
        obtain ⟨-, x12, y12⟩ := id hq12
        go_wp2_with fail
        refine (HF1.out w6 _ _ _ ((Ev.refl _).alloc _) (RdP.one w6 _ _)).mono ?_
        rintro e w7 ⟨B2, d2, rfl, hr2, hv⟩
        have HR2 := Lib.hid hr2
        have HV := Lib.hid hv
        clear hr2 hv x12 y12
        go_wp2_with fail
        refine (sameI _ _ _ _ L w7 (HR1.out.ev HV.out) HR2.out).mono ?_
        rintro e w8 ⟨rfl, hv2⟩
        replace hev := hev.step (HV.out.step hv2)
        clear hv2
        go_wp2_with fail
        refine (HAW.out _ hev).mono ?_
        rintro e w9 ⟨rfl, hev9⟩
        go_wp2_with fail
        go_ret
        exact ⟨rfl, hev9⟩
    · have HF := Lib.hid hF
      clear hF HLH
      have hle : x ≤ y := by omega
      have hA := ht6
      have hB := ht7
      clear ht6 ht7
      obtain ⟨⟨u0, u1⟩, -, -⟩ := id hA
      obtain ⟨⟨v0, v1⟩, -, -⟩ := id hB
      go_wp2_with fail
      refine (HF.out wd _ _ _ ((Ev.refl _).alloc _) (RdP.two wd _ _ _ _)).mono ?_
      rintro e w6 ⟨B, d, rfl, hr, hv⟩
      replace hq12 := hq12.ev hv
      replace hev := hev.step hv
      have HR1 := Lib.hid hr
      clear hr hv u0 u1 v0 v1 hA hB
      obtain ⟨-, x12, y12⟩ := id hq12
      go_wp2_with fail
      refine (HF1.out w6 _ _ _ ((Ev.refl _).alloc _) (RdP.one w6 _ _)).mono ?_
      rintro e w7 ⟨B2, d2, rfl, hr2, hv⟩
      have HR2 := Lib.hid hr2
      have HV := Lib.hid hv
      clear hr2 hv x12 y12
      go_wp2_with fail
      refine (sameI _ _ _ _ L w7 (HR1.out.ev HV.out) HR2.out).mono ?_
      rintro e w8 ⟨rfl, hv2⟩
      replace hev := hev.step (HV.out.step hv2)
      clear hv2
      go_wp2_with fail
      refine (HAW.out _ hev).mono ?_
      rintro e w9 ⟨rfl, hev9⟩
      go_wp2_with fail
      go_ret
      exact ⟨rfl, hev9⟩
end Go.Proofs.YtkneonfhikcdkaaDoor
