import Derived.Test.YtfiglmbnjfgdlaaDoorDL
namespace Go.Proofs.YtfiglmbnjfgdlaaDoor
open Go.RowKit
theorem bg1 : bgV (-1) = rd 1 (-1) (-1) ∧ bgE (-1) = 0 := by
  have h : bgE (-1) = 0 := by decide
  exact ⟨by unfold bgV; rw [if_pos h], h⟩
theorem bg9 : bgV 9 = rd 1 (-1) 9 ∧ bgE 9 = 0 := by
  have h : bgE 9 = 0 := by decide
  exact ⟨by unfold bgV; rw [if_pos h], h⟩
theorem begin1 (W : World) : Calls Tryd.prog 8 #[.int .i64 (-1)] W fun x w' => x = .returned (.tuple #[rd 1 (-1) (-1), .int .i64 0]) ∧ Ev W w' := by
  have h := begin_any (-1) W
  rwa [bg1.1, bg1.2] at h
theorem begin9 (W : World) : Calls Tryd.prog 8 #[.int .i64 9] W fun x w' => x = .returned (.tuple #[rd 1 (-1) 9, .int .i64 0]) ∧ Ev W w' := by
  have h := begin_any 9 W
  rwa [bg9.1, bg9.2] at h
theorem short9 (W : World) : Calls Tryd.prog 26 #[rd 1 (-1) 9] W fun x w' => ∃ A c, x = .returned (.tuple #[.slice A 2 c, .int .i64 0]) ∧ RdI w' A [2, 4] ∧ Ev W w' := by
  have h := shortest_any 1 (-1) 9 W
  unfold ListQ at h
  rw [show seL 1 (-1) 9 = [2, 4] from by decide, show seE 1 (-1) 9 = 0 from by decide] at h
  exact h
set_option maxRecDepth 100000 in
set_option maxHeartbeats 16000000 in
theorem awake_any (W : World) (hT : Tab W) : Calls Tryd.prog 21 #[] W fun x w' => x = .returned (.bool true) ∧ Ev W w' := by
  have HTT := Lib.hid hT
  have HF := Lib.hid eqR
  clear hT
  go_enter Tryd.func21, Tryd.ntmps21
  go_wp2_with fail
  refine (begin1 _).mono ?_
  rintro e w1 ⟨rfl, hev⟩
  have HE1 := Lib.hid hev
  clear hev
  go_wp2_with fail
  refine (begin9 _).mono ?_
  rintro e w2 ⟨rfl, hev⟩
  have HB1 := Lib.hid ((BoxR.new w1 1 (-1) (-1)).ev hev)
  have HE2 := Lib.hid ((HE1.out.alloc (rdO 1 (-1) (-1))).step hev)
  have HLT2 := Lib.hid (World.rowIs.lt HB1.out)
  clear hev
  have HB1 := Lib.hid (HB1.out.al (rdO 1 (-1) 9))
  have HB2 := Lib.hid (BoxR.new w2 1 (-1) 9)
  have HE2 := Lib.hid (HE2.out.alloc (rdO 1 (-1) 9))
  go_upto_region 3 with fail
  generalize (w2.alloc (rdO 1 (-1) 9)) = w3 at *
  have hlt := HLT2.out
  generalize w2.heap.size = p2 at *
  generalize w1.heap.size = p1 at *
  obtain ⟨c0, c1, c2⟩ := HB2.out.c
  clear hlt
  go_wp2_with fail
  refine (short9 _).mono ?_
  rintro e w4 ⟨A4, c4, rfl, hr4, hev⟩
  have HR4 := Lib.hid hr4
  have HE4 := Lib.hid (HE2.out.step hev)
  have HB14 := Lib.hid (HB1.out.ev hev)
  have HB24 := Lib.hid (HB2.out.ev hev)
  clear hr4 hev c0 c1 c2
  go_wp2_with fail
  obtain ⟨c0, c1, c2⟩ := HB14.out.c
  obtain ⟨d0, d1, d2⟩ := HB24.out.c
  have hz1 := World.rowIs.lt HB14.out
  have hz2 := World.rowIs.lt HB24.out
  have HS : Hid (∀ W', Ev w4 W' → ((W'.cell? ⟨p1, 0, none⟩ = some (.int .i64 1) ∧ W'.cell? ⟨p1, 1, none⟩ = some (.int .i64 (-1)) ∧ W'.cell? ⟨p1, 2, none⟩ = some (.int .i64 (-1))) ∧ W'.cell? ⟨p2, 0, none⟩ = some (.int .i64 1) ∧ W'.cell? ⟨p2, 1, none⟩ = some (.int .i64 (-1)) ∧ W'.cell? ⟨p2, 2, none⟩ = some (.int .i64 9)) ∧ Ev w4 W') := Lib.hid fun W' e =>
    ⟨⟨(HB14.out.ev e).c, (HB24.out.ev e).c⟩, e⟩
  have H1 : Hid (∀ s f w W', Ev w4 W' → Calls Tryd.prog 28 #[.int .i64 s, .int .i64 f, .int .i64 w] W' fun e w' => e = .returned (rd s f w) ∧ Ev w4 w') := Lib.hid fun s f w W' e => ev_call e (at_any s f w W')
  have HT4 := Lib.hid (HTT.out.ev HE4.out)
  have H2 : Hid (∀ s f w e n s' f' w' m W', stE s f w e n = 0 → stR s f w e n = ⟨s', f', w', [], m⟩ → Ev w4 W' → Calls Tryd.prog 29 #[rd s f w, .int .i64 e, .int .i64 n, rd s' f' w', .int .i64 m, .slice none 0 0] W' fun e w' => e = .returned (.bool true) ∧ Ev w4 w') := Lib.hid fun s f w e n s' f' w' m W' h1 h2 ev => ev_call ev (goes_any s f w e n s' f' w' m [] none 0 W' (HT4.out.ev ev) (RdI.nil _) h1 h2)
  have H3 : Hid (∀ X W', Ev w4 X → W' = X.alloc (.cells #[.int .i64 2, .int .i64 4] 3) → Calls Tryd.prog 14 #[.slice A4 2 c4, .slice (some ⟨X.heap.size, 0, none⟩) 2 2] W' fun e w' => e = .returned (.bool true) ∧ Ev w4 w') := Lib.hid fun X W' ev hW => by
    subst hW
    exact ev_call (ev.alloc _) (sameI A4 _ c4 2 [2, 4] _ ((HR4.out.ev ev).ev ((Ev.refl _).alloc _)) (RdI.lit _ _ _ [2, 4] rfl (by decide)))
  have HE := Lib.hid HE4.out
  clear hz1 hz2 c0 c1 c2 d0 d1 d2
  have hev := Ev.refl w4
  have dd := HS.out _ hev
  have hf := HF.out
  go_region_held3 (fun W' => ((W'.cell? ⟨p1, 0, none⟩ = some (.int .i64 1) ∧ W'.cell? ⟨p1, 1, none⟩ = some (.int .i64 (-1)) ∧ W'.cell? ⟨p1, 2, none⟩ = some (.int .i64 (-1))) ∧ W'.cell? ⟨p2, 0, none⟩ = some (.int .i64 1) ∧ W'.cell? ⟨p2, 1, none⟩ = some (.int .i64 (-1)) ∧ W'.cell? ⟨p2, 2, none⟩ = some (.int .i64 9)) ∧ Ev w4 W')
    (first | with_reducible exact HS.out _ (by with_reducible assumption) | with_reducible exact HS.out _ (Ev.drew (by with_reducible assumption)) | with_reducible exact HS.out _ (Ev.alloc (by with_reducible assumption) _) | with_reducible exact HS.out _ (Ev.alloc (Ev.drew (by with_reducible assumption)) _))
    (first | (go_at_call 28; refine (H1.out _ _ _ _ (by first | assumption | exact Ev.drew (by with_reducible assumption))).mono ?_; clear hev; rintro e w' ⟨rfl, hev⟩) | (go_at_call 29; refine (H2.out _ _ _ _ _ _ _ _ _ _ (by decide +kernel) (by rfl) (by first | assumption | exact Ev.drew (by with_reducible assumption))).mono ?_; clear hev; rintro e w' ⟨rfl, hev⟩) | (go_at_call 14; ((with_reducible refine (H3.out _ _ (by first | assumption | exact Ev.drew (by with_reducible assumption)) rfl).mono ?_); clear hev; rintro e w' ⟨rfl, hev⟩)))
  go_wp2_with fail
  go_ret
  exact ⟨rfl, HE.out.step hev⟩
end Go.Proofs.YtfiglmbnjfgdlaaDoor
