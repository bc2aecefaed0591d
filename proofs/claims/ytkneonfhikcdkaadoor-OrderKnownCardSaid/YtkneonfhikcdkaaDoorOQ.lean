import Derived.Test.YtkneonfhikcdkaaDoorOP
namespace Go.Proofs.YtkneonfhikcdkaaDoor
open Go.RowKit

theorem cut_whole : cutC 256 0 256 = [.int .i64 0, .int .i64 6, .int .i64 64, .int .i64 6, .int .i64 128, .int .i64 6, .int .i64 192, .int .i64 6] := by rfl
theorem RdK.lit6 (X : World) : RdK (X.alloc (.cells #[.int .i64 0, .int .i64 6, .int .i64 64, .int .i64 6, .int .i64 128, .int .i64 6, .int .i64 192, .int .i64 6] 28)) (some ⟨X.heap.size, 0, none⟩) 4 (cutC 256 0 256) := by
  rw [cut_whole]
  intro j hj
  rcases (show j = 0 ∨ j = 1 ∨ j = 2 ∨ j = 3 by omega) with rfl | rfl | rfl | rfl <;>
    exact ⟨X.heap.size, _, _, rfl, by simp, rfl, rfl, by simp, by simp⟩
theorem same_lit6 (w0 X W : World) (A : Option Addr) (c : Nat) (hr : RdK w0 A 4 (cutC 256 0 256)) (e : Ev w0 X) (hW : W = X.alloc (.cells #[.int .i64 0, .int .i64 6, .int .i64 64, .int .i64 6, .int .i64 128, .int .i64 6, .int .i64 192, .int .i64 6] 28)) :
    Calls Tryd.prog 26 #[.slice A 4 c, .slice (some ⟨X.heap.size, 0, none⟩) 4 4] W fun e w' => e = .returned (.bool true) ∧ Ev w0 w' := by
  subst hW
  exact evN (e.alloc _) (same_eq _ _ _ _ 4 _ _ (hr.ev (e.alloc _)) (RdK.lit6 X) (by omega))
abbrev jL : List Value := [.int .i64 0, .int .i64 2, .int .i64 8, .int .i64 0]
theorem RdK.lit2 (X : World) : RdK (X.alloc (.cells #[.int .i64 0, .int .i64 2, .int .i64 8, .int .i64 0] 28)) (some ⟨X.heap.size, 0, none⟩) 2 jL := by
  intro j hj
  rcases (show j = 0 ∨ j = 1 by omega) with rfl | rfl <;>
    exact ⟨X.heap.size, _, _, rfl, by simp, rfl, rfl, by simp, by simp⟩
theorem same_lit2 (w0 X W : World) (A : Option Addr) (c : Nat) (hr : RdK w0 A 2 jL) (e : Ev w0 X) (hW : W = X.alloc (.cells #[.int .i64 0, .int .i64 2, .int .i64 8, .int .i64 0] 28)) :
    Calls Tryd.prog 26 #[.slice A 2 c, .slice (some ⟨X.heap.size, 0, none⟩) 2 2] W fun e w' => e = .returned (.bool true) ∧ Ev w0 w' := by
  subst hW
  exact evN (e.alloc _) (same_eq _ _ _ _ 2 _ _ (hr.ev (e.alloc _)) (RdK.lit2 X) (by omega))
theorem RdP.lit4 (X : World) : RdP (X.alloc (.cells #[.int .i64 0, .int .i64 0, .int .i64 1, .int .i64 0, .int .i64 2, .int .i64 1, .int .i64 8, .int .i64 0] 28)) (some ⟨X.heap.size, 0, none⟩) l0 :=
  ⟨by decide, fun j hj => by
    have hj' : j < 4 := hj
    rcases (show j = 0 ∨ j = 1 ∨ j = 2 ∨ j = 3 by omega) with rfl | rfl | rfl | rfl <;>
      exact ⟨X.heap.size, 0, rfl, by simp, by simp [l0], by simp [l0]⟩⟩
theorem RdP.lit2 (X : World) : RdP (X.alloc (.cells #[.int .i64 0, .int .i64 1, .int .i64 1, .int .i64 0] 28)) (some ⟨X.heap.size, 0, none⟩) [(0, 1), (1, 0)] :=
  ⟨by decide, fun j hj => by
    have hj' : j < 2 := hj
    rcases (show j = 0 ∨ j = 1 by omega) with rfl | rfl <;>
      exact ⟨X.heap.size, 0, rfl, by simp, by simp, by simp⟩⟩
set_option maxRecDepth 100000 in
set_option maxHeartbeats 4000000 in
theorem known_any (w : World) (hT : Tab w) (h2 : 2 ≤ w.heap.size) : Calls Tryd.prog 7 #[] w fun e w' => e = .returned (.bool true) ∧ Ev w w' := by
  have H11 : Hid (∀ W, Calls Tryd.prog 11 #[.int .i64 0] W fun e w' => e = .returned (.tuple #[.int .i64 0, .int .i64 2]) ∧ W = w') := Lib.hid fun W => log_any 0 W (by omega)
  have HS6 : Hid (∀ W, Calls Tryd.prog 15 #[.int .i64 6] W fun e w' => e = .returned (.tuple #[.int .i64 64, .int .i64 0]) ∧ W = w') := Lib.hid fun W => Size_any 6 W
  have HS7 : Hid (∀ W, Calls Tryd.prog 15 #[.int .i64 7] W fun e w' => e = .returned (.tuple #[.int .i64 0, .int .i64 2]) ∧ W = w') := Lib.hid fun W => Size_any 7 W
  have HLa : Hid (∀ W, Calls Tryd.prog 34 #[.int .i64 1, .int .i64 0, .int .i64 0] W fun e w' => e = .returned (.bool true) ∧ W = w') := Lib.hid fun W => logs_any 1 0 0 W (by omega) (by omega) (by decide) (by decide)
  have HLb : Hid (∀ W, Calls Tryd.prog 34 #[.int .i64 9, .int .i64 3, .int .i64 4] W fun e w' => e = .returned (.bool true) ∧ W = w') := Lib.hid fun W => logs_any 9 3 4 W (by omega) (by omega) (by decide) (by decide)
  have HLc : Hid (∀ W, Calls Tryd.prog 34 #[.int .i64 8, .int .i64 3, .int .i64 3] W fun e w' => e = .returned (.bool true) ∧ W = w') := Lib.hid fun W => logs_any 8 3 3 W (by omega) (by omega) (by decide) (by decide)
  have HBB : Hid (∀ w0 x o W, Ev w0 W → Calls Tryd.prog 35 #[.int .i64 x, .int .i64 o] W fun e w' => e = .returned (bk x o) ∧ Ev w0 w') := Lib.hid fun w0 x o W e => evN e (b_any x o W)
  have HB : Hid (∀ x o W, Ev w W → Calls Tryd.prog 35 #[.int .i64 x, .int .i64 o] W fun e w' => e = .returned (bk x o) ∧ Ev w w') := Lib.hid fun x o W e => evN e (b_any x o W)
  have HC1 : Hid (∀ W, Ev w W → Calls Tryd.prog 22 #[bk 8 3] W fun e w' => e = .returned (.int .i64 0) ∧ Ev w w') := Lib.hid fun W e => evN e (check_any 8 3 W)
  have HC2 : Hid (∀ W, Ev w W → Calls Tryd.prog 22 #[bk 4 3] W fun e w' => e = .returned (.int .i64 13) ∧ Ev w w') := Lib.hid fun W e => evN e (check_any 4 3 W)
  have HC3 : Hid (∀ W, Ev w W → Calls Tryd.prog 22 #[bk 256 0] W fun e w' => e = .returned (.int .i64 2) ∧ Ev w w') := Lib.hid fun W e => evN e (check_any 256 0 W)
  have HC4 : Hid (∀ W, Ev w W → Calls Tryd.prog 22 #[bk (-1) 9] W fun e w' => e = .returned (.int .i64 2) ∧ Ev w w') := Lib.hid fun W e => evN e (check_any (-1) 9 W)
  have HB1 : Hid (∀ W, Ev w W → Calls Tryd.prog 18 #[bk 8 3] W fun e w' => e = .returned (.tuple #[bk 0 3, .int .i64 0]) ∧ Ev w w') := Lib.hid fun W e => evN e (buddy_any 8 3 W)
  have HB6 : Hid (∀ w0 W, Ev w0 W → Calls Tryd.prog 18 #[bk 0 6] W fun e w' => e = .returned (.tuple #[bk 0 0, .int .i64 2]) ∧ Ev w0 w') := Lib.hid fun w0 W e => evN e (buddy_any 0 6 W)
  have HP1 : Hid (∀ w0 W, Ev w0 W → Calls Tryd.prog 20 #[bk 20 2] W fun e w' => e = .returned (.tuple #[bk 16 3, .int .i64 0]) ∧ Ev w0 w') := Lib.hid fun w0 W e => evN e (parent_any 20 2 W)
  have HCU : Hid (∀ W, Ev w W → Calls Tryd.prog 24 #[.int .i64 0, .int .i64 256] W fun e w' => ∃ A c, e = .returned (.tuple #[.slice A 4 c, .int .i64 0]) ∧ RdK w' A 4 (cutC 256 0 256) ∧ Ev W w') := Lib.hid fun W e =>
    (cut_any 0 256 W (hT.ev h2 e) (by have := e.sz; omega)).mono fun e w' hh => by
      obtain ⟨v, rfl, ⟨n, hn⟩, hev⟩ := hh
      obtain ⟨hl, A, c, rfl, hr⟩ := RdK.of_own hn (cutC_int _ _ _)
      have h4 : (cutC 256 0 256).length = 8 := by rw [cut_whole]; rfl
      have hl' : (cutC 256 0 256).length = n * 2 := hl
      obtain rfl : n = 4 := by omega
      exact ⟨A, c, rfl, hr, hev⟩
  have HJ : Hid (∀ X W, Ev w X → W = X.alloc (.cells #[.int .i64 0, .int .i64 0, .int .i64 1, .int .i64 0, .int .i64 2, .int .i64 1, .int .i64 8, .int .i64 0] 28) → Calls Tryd.prog 29 #[.slice (some ⟨X.heap.size, 0, none⟩) 4 4] W fun e w' => ∃ B d, e = .returned (.tuple #[.slice B 2 d, .int .i64 0]) ∧ RdK w' B 2 jL ∧ Ev w w') := Lib.hid fun X W e hW => by
    subst hW
    refine (join_any _ 4 _ (RdP.lit4 X)).mono fun e' w' hh => ?_
    obtain ⟨v, rfl, ⟨n, hn⟩, hev⟩ := hh
    obtain ⟨hl, B, d, rfl, hr⟩ := RdK.of_own hn (by intro v hv; simp at hv; rcases hv with rfl | rfl | rfl | rfl <;> exact ⟨_, rfl⟩)
    have hl' : 4 = n * 2 := hl
    obtain rfl : n = 2 := by omega
    exact ⟨B, d, rfl, hr, (e.alloc _).step hev⟩
  have HCL : Hid (∀ w0 X W, Ev w0 X → W = X.alloc (.cells #[.int .i64 0, .int .i64 1, .int .i64 1, .int .i64 0] 28) → Calls Tryd.prog 27 #[.slice (some ⟨X.heap.size, 0, none⟩) 2 2] W fun e w' => e = .returned (.tuple #[.int .i64 8, .int .i64 1]) ∧ Ev w0 w') := Lib.hid fun w0 X W e hW => by
    subst hW
    exact evN (e.alloc _) (checkList_any _ 2 [(0, 1), (1, 0)] _ (RdP.lit2 X))
  have HAW : Hid (∀ W, Ev w W → Calls Tryd.prog 17 #[] W fun e w' => e = .returned (.bool true) ∧ Ev w w') := Lib.hid fun W e => evN e (awake_any W (hT.ev h2 e) (by have := e.sz; omega))
  clear hT
  go_enter Tryd.func7, Tryd.ntmps7
  go_wp2_with fail
  refine (H11.out _).mono ?_
  rintro e w1 ⟨rfl, rfl⟩
  go_wp2_with fail
  refine (HS6.out _).mono ?_
  rintro e w1 ⟨rfl, rfl⟩
  go_wp2_with fail
  refine (HS7.out _).mono ?_
  rintro e w1 ⟨rfl, rfl⟩
  go_wp2_with fail
  refine (HLa.out _).mono ?_
  rintro e w1 ⟨rfl, rfl⟩
  go_wp2_with fail
  refine (HLb.out _).mono ?_
  rintro e w1 ⟨rfl, rfl⟩
  go_wp2_with fail
  refine (HLc.out _).mono ?_
  rintro e w1 ⟨rfl, rfl⟩
  go_wp2_with fail
  have hev := Ev.refl w
  refine (HB.out 8 3 _ hev).mono ?_
  clear hev
  rintro e w1 ⟨rfl, hev⟩
  go_wp2_with fail
  refine (HC1.out _ hev).mono ?_
  clear hev
  rintro e w1 ⟨rfl, hev⟩
  go_wp2_with fail
  refine (HB.out 4 3 _ hev).mono ?_
  clear hev
  rintro e w1 ⟨rfl, hev⟩
  go_wp2_with fail
  refine (HC2.out _ hev).mono ?_
  clear hev
  rintro e w1 ⟨rfl, hev⟩
  go_wp2_with fail
  refine (HB.out 256 0 _ hev).mono ?_
  clear hev
  rintro e w1 ⟨rfl, hev⟩
  go_wp2_with fail
  refine (HC3.out _ hev).mono ?_
  clear hev
  rintro e w1 ⟨rfl, hev⟩
  go_wp2_with fail
  refine (HB.out (-1) 9 _ hev).mono ?_
  clear hev
  rintro e w1 ⟨rfl, hev⟩
  go_wp2_with fail
  refine (HC4.out _ hev).mono ?_
  clear hev
  rintro e w1 ⟨rfl, hev⟩
  go_wp2_with fail
  refine (HB.out 8 3 _ hev).mono ?_
  clear hev
  rintro e w1 ⟨rfl, hev⟩
  go_wp2_with fail
  refine (HB1.out _ hev).mono ?_
  clear hev
  rintro e w1 ⟨rfl, hev⟩
  go_wp2_with fail
  have hq7 := Bq.new w1 0 3 28
  have hev' := hev.alloc (.cells #[.int .i64 0, .int .i64 3] 28)
  clear hev
  obtain ⟨p7, hp7⟩ : ∃ p, p = w1.heap.size := ⟨_, rfl⟩
  rw [← hp7] at hq7 ⊢
  generalize w1.alloc (.cells #[.int .i64 0, .int .i64 3] 28) = w7 at *
  have hev := hev'
  clear hev' hp7
  refine (HBB.out w7 20 2 _ (Ev.refl _)).mono ?_
  rintro e w8 ⟨rfl, hv⟩
  replace hq7 := hq7.ev hv
  replace hev := hev.step hv
  clear hv
  go_wp2_with fail
  refine (HP1.out w8 _ (Ev.refl _)).mono ?_
  rintro e w9 ⟨rfl, hv⟩
  replace hq7 := hq7.ev hv
  replace hev := hev.step hv
  clear hv
  go_wp2_with fail
  have hq8 := Bq.new w9 16 3 28
  replace hq7 := hq7.ev (Ev.new2 w9 16 3 28)
  replace hev := hev.step (Ev.new2 w9 16 3 28)
  obtain ⟨p8, hp8⟩ : ∃ p, p = w9.heap.size := ⟨_, rfl⟩
  rw [← hp8] at hq8 ⊢
  generalize w9.alloc (.cells #[.int .i64 16, .int .i64 3] 28) = wA at *
  clear hp8
  refine (HBB.out wA 0 6 _ (Ev.refl _)).mono ?_
  rintro e wB ⟨rfl, hv⟩
  replace hq7 := hq7.ev hv
  replace hq8 := hq8.ev hv
  replace hev := hev.step hv
  clear hv
  go_wp2_with fail
  refine (HB6.out wB _ (Ev.refl _)).mono ?_
  rintro e wC ⟨rfl, hv⟩
  replace hq7 := hq7.ev hv
  replace hq8 := hq8.ev hv
  replace hev := hev.step hv
  clear hv
  go_wp2_with fail
  refine (HCU.out _ hev).mono ?_
  rintro e w4 ⟨A, c, rfl, hr, hv⟩
  replace hq7 := hq7.ev hv
  replace hq8 := hq8.ev hv
  replace hev := hev.step hv
  clear hv
  obtain ⟨z7, x0, x1⟩ := id hq7
  obtain ⟨z8, y0, y1⟩ := id hq8
  clear z7 z8
  have HEW := Lib.hid hev
  clear hev
  go_wp2_with fail
  have HS : Hid (∀ W, Ev w4 W → ((W.cell? ⟨p7, 0, none⟩ = some (.int .i64 0) ∧ W.cell? ⟨p7, 1, none⟩ = some (.int .i64 3)) ∧ (W.cell? ⟨p8, 0, none⟩ = some (.int .i64 16) ∧ W.cell? ⟨p8, 1, none⟩ = some (.int .i64 3))) ∧ Ev w4 W) := Lib.hid fun W e =>
    ⟨⟨(hq7.ev e).2, (hq8.ev e).2⟩, e⟩
  have H1 : Hid (∀ x o W, Ev w4 W → Calls Tryd.prog 35 #[.int .i64 x, .int .i64 o] W fun e w' => e = .returned (bk x o) ∧ Ev w4 w') := Lib.hid fun x o W e => HBB.out w4 x o W e
  have H2 : Hid (∀ X W, Ev w4 X → W = X.alloc (.cells #[.int .i64 0, .int .i64 6, .int .i64 64, .int .i64 6, .int .i64 128, .int .i64 6, .int .i64 192, .int .i64 6] 28) → Calls Tryd.prog 26 #[.slice A 4 c, .slice (some ⟨X.heap.size, 0, none⟩) 4 4] W fun e w' => e = .returned (.bool true) ∧ Ev w4 w') := Lib.hid fun X W e hW => same_lit6 w4 X W A c hr e hW
  clear hr x0 x1 y0 y1 hq7 hq8
  have hev := Ev.refl w4
  go_region_held3 (fun w' => ((w'.cell? ⟨p7, 0, none⟩ = some (.int .i64 0) ∧ w'.cell? ⟨p7, 1, none⟩ = some (.int .i64 3)) ∧ (w'.cell? ⟨p8, 0, none⟩ = some (.int .i64 16) ∧ w'.cell? ⟨p8, 1, none⟩ = some (.int .i64 3))) ∧ Ev w4 w')
    (first | with_reducible exact HS.out _ (by with_reducible assumption) | with_reducible exact HS.out _ (Ev.drew (by with_reducible assumption)) | with_reducible exact HS.out _ (Ev.alloc (by with_reducible assumption) _) | with_reducible exact HS.out _ (Ev.alloc (Ev.drew (by with_reducible assumption)) _))
    (first | (go_at_call 35; refine (H1.out _ _ _ (by first | assumption | exact Ev.drew (by with_reducible assumption))).mono ?_; clear hev; rintro e w' ⟨rfl, hev⟩) | (go_at_call 26; ((with_reducible refine (H2.out _ _ (by first | assumption | exact Ev.drew (by with_reducible assumption)) rfl).mono ?_); clear hev; rintro e w' ⟨rfl, hev⟩)))
  have hev2 : Ev w w' := HEW.out.step hev
  clear hev HS H1 H2 HEW
  have hev := hev2
  clear hev2
  go_wp2_with fail
  refine (HB.out 0 0 _ hev).mono ?_
  clear hev
  rintro e w1 ⟨rfl, hev⟩
  go_wp2_with fail
  refine (HB.out 1 0 _ hev).mono ?_
  clear hev
  rintro e w1 ⟨rfl, hev⟩
  go_wp2_with fail
  refine (HB.out 2 1 _ hev).mono ?_
  clear hev
  rintro e w1 ⟨rfl, hev⟩
  go_wp2_with fail
  refine (HB.out 8 0 _ hev).mono ?_
  clear hev
  rintro e w1 ⟨rfl, hev⟩
  go_wp2_with fail
  refine (HJ.out w1 _ hev rfl).mono ?_
  clear hev
  rintro e w2 ⟨B, d, rfl, hrb, hev⟩
  have HRB := Lib.hid hrb
  clear hrb
  go_wp2_with fail
  refine (HBB.out w2 0 1 _ (Ev.refl _)).mono ?_
  rintro e w3 ⟨rfl, hv⟩
  go_wp2_with fail
  refine (HBB.out w2 1 0 _ hv).mono ?_
  clear hv
  rintro e w5 ⟨rfl, hv⟩
  go_wp2_with fail
  refine (HCL.out w2 w5 _ hv rfl).mono ?_
  clear hv
  rintro e w6 ⟨rfl, hv⟩
  go_wp2_with fail
  refine (HBB.out w2 0 2 _ hv).mono ?_
  clear hv
  rintro e w7 ⟨rfl, hv⟩
  go_wp2_with fail
  refine (HBB.out w2 8 0 _ hv).mono ?_
  clear hv
  rintro e w8 ⟨rfl, hv⟩
  go_wp2_with fail
  refine (same_lit2 w2 w8 _ B d HRB.out hv rfl).mono ?_
  clear hv
  rintro e w9 ⟨rfl, hv⟩
  replace hev := hev.step hv
  clear hv
  go_wp2_with fail
  refine (HAW.out _ hev).mono ?_
  clear hev
  rintro e wA ⟨rfl, hev⟩
  go_wp2_with fail
  go_ret
  exact ⟨rfl, hev⟩
end Go.Proofs.YtkneonfhikcdkaaDoor
