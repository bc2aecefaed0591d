import Derived.Test.YtfiglmbnjfgdlaaDoorDO
namespace Go.Proofs.YtfiglmbnjfgdlaaDoor
open Go.RowKit
set_option maxRecDepth 100000 in
set_option maxHeartbeats 32000000 in
theorem known_law (W : World) (hT : Tab W) : Calls Tryd.prog 5 #[] W fun x w' => x = .returned (.bool true) ∧ Ev W w' := by
  have HTT := Lib.hid hT
  clear hT
  go_enter Tryd.func5, Tryd.ntmps5
  go_wp2_with fail
  refine (begin1 _).mono ?_
  rintro e w1 ⟨rfl, hev⟩
  have HE1 := Lib.hid (hev.alloc (rdO 1 (-1) (-1)))
  clear hev
  go_wp2_with fail
  refine (begin9 _).mono ?_
  rintro e w2 ⟨rfl, hev⟩
  have HB1 := Lib.hid (((BoxR.new w1 1 (-1) (-1)).ev hev).al (rdO 1 (-1) 9))
  have HB3 := Lib.hid (BoxR.new w2 1 (-1) 9)
  have HE2 := Lib.hid ((HE1.out.step hev).alloc (rdO 1 (-1) 9))
  clear hev
  go_wp2_with fail
  refine (at_any 2 5 9 _).mono ?_
  rintro e w3 ⟨rfl, hev⟩
  have HB1 := Lib.hid ((HB1.out.ev hev).al (rdO 2 5 9))
  have HB3 := Lib.hid ((HB3.out.ev hev).al (rdO 2 5 9))
  have HB5 := Lib.hid (BoxR.new w3 2 5 9)
  have HE3 := Lib.hid ((HE2.out.step hev).alloc (rdO 2 5 9))
  clear hev
  go_upto_region 4 with fail
  generalize (w3.alloc (rdO 2 5 9)) = w4 at *
  generalize w3.heap.size = p5 at *
  generalize w2.heap.size = p3 at *
  generalize w1.heap.size = p1 at *
  go_wp2_with fail
  refine (at_any 2 5 (-1) _).mono ?_
  rintro e wk1 ⟨rfl, hev⟩
  have HEV1 := Lib.hid hev
  clear hev
  go_wp2_with fail
  refine (at_any 3 5 (-1) _).mono ?_
  rintro e wk2 ⟨rfl, hev⟩
  have HEV2 := Lib.hid hev
  clear hev
  go_wp2_with fail
  refine (goes_any 2 5 (-1) 3 (-1) 3 5 (-1) (-1) [] none 0 _ (HTT.out.ev (HE3.out.step (((Ev.refl _).step HEV1.out).step HEV2.out))) (RdI.nil _) (by decide +kernel) (by rfl)).mono ?_
  rintro e wk3 ⟨rfl, hev⟩
  have HEV3 := Lib.hid hev
  clear hev
  go_wp2_with fail
  refine (at_any 4 (-1) 9 _).mono ?_
  rintro e wk4 ⟨rfl, hev⟩
  have HEV4 := Lib.hid hev
  clear hev
  go_wp2_with fail
  refine (at_any 5 9 (-1) _).mono ?_
  rintro e wk5 ⟨rfl, hev⟩
  have HEV5 := Lib.hid hev
  clear hev
  go_wp2_with fail
  refine (goes_any 4 (-1) 9 4 (-1) 5 9 (-1) 9 [] none 0 _ (HTT.out.ev (HE3.out.step ((((((Ev.refl _).step HEV1.out).step HEV2.out).step HEV3.out).step HEV4.out).step HEV5.out))) (RdI.nil _) (by decide +kernel) (by rfl)).mono ?_
  rintro e wk6 ⟨rfl, hev⟩
  have HEV6 := Lib.hid hev
  clear hev
  go_upto_region 5 with fail
  go_cut [7] from 34 (fun sx wa => sx = .bool true ∧ Ev wk6 wa)
  case first =>
    have HSK : Hid (∀ W', Ev wk6 W' → ((W'.cell? ⟨p1, 0, none⟩ = some (.int .i64 1) ∧ W'.cell? ⟨p1, 1, none⟩ = some (.int .i64 (-1)) ∧ W'.cell? ⟨p1, 2, none⟩ = some (.int .i64 (-1))) ∧ (W'.cell? ⟨p3, 0, none⟩ = some (.int .i64 1) ∧ W'.cell? ⟨p3, 1, none⟩ = some (.int .i64 (-1)) ∧ W'.cell? ⟨p3, 2, none⟩ = some (.int .i64 9)) ∧ (W'.cell? ⟨p5, 0, none⟩ = some (.int .i64 2) ∧ W'.cell? ⟨p5, 1, none⟩ = some (.int .i64 5) ∧ W'.cell? ⟨p5, 2, none⟩ = some (.int .i64 9))) ∧ Ev wk6 W') := Lib.hid fun W' e => ⟨⟨(HB1.out.ev (Ev.step (((((((Ev.refl _).step HEV1.out).step HEV2.out).step HEV3.out).step HEV4.out).step HEV5.out).step HEV6.out) e)).c, (HB3.out.ev (Ev.step (((((((Ev.refl _).step HEV1.out).step HEV2.out).step HEV3.out).step HEV4.out).step HEV5.out).step HEV6.out) e)).c, (HB5.out.ev (Ev.step (((((((Ev.refl _).step HEV1.out).step HEV2.out).step HEV3.out).step HEV4.out).step HEV5.out).step HEV6.out) e)).c⟩, e⟩
    have H1 : Hid (∀ s f w W', Ev wk6 W' → Calls Tryd.prog 28 #[.int .i64 s, .int .i64 f, .int .i64 w] W' fun e w' => e = .returned (rd s f w) ∧ Ev wk6 w' ∧ Ev W' w') := Lib.hid fun s f w W' e => (at_any s f w W').mono fun _ _ h => ⟨h.1, e.step h.2, h.2⟩
    have HTK := Lib.hid (HTT.out.ev (HE3.out.step (((((((Ev.refl _).step HEV1.out).step HEV2.out).step HEV3.out).step HEV4.out).step HEV5.out).step HEV6.out)))
    have H2 : Hid (∀ s f w e n s' f' w' m W', stE s f w e n = 0 → ((stR s f w e n).s = s' ∧ (stR s f w e n).f = f' ∧ (stR s f w e n).w = w' ∧ (stR s f w e n).l = [] ∧ (stR s f w e n).m = m) → Ev wk6 W' → Calls Tryd.prog 29 #[rd s f w, .int .i64 e, .int .i64 n, rd s' f' w', .int .i64 m, .slice none 0 0] W' fun e w' => e = .returned (.bool true) ∧ Ev wk6 w') := Lib.hid fun s f w e n s' f' w' m W' h1 h2 ev => ev_call ev (goes_any s f w e n s' f' w' m [] none 0 W' (HTK.out.ev ev) (RdI.nil _) h1 (res_eq h2))
    have H3 : Hid (∀ s f w e n s' f' w' m x (a : Addr) W', stE s f w e n = 0 → ((stR s f w e n).s = s' ∧ (stR s f w e n).f = f' ∧ (stR s f w e n).w = w' ∧ (stR s f w e n).l = [x] ∧ (stR s f w e n).m = m) → Ev wk6 W' → RdI W' (some a) [x] → Calls Tryd.prog 29 #[rd s f w, .int .i64 e, .int .i64 n, rd s' f' w', .int .i64 m, .slice (some a) 1 1] W' fun e w' => e = .returned (.bool true) ∧ Ev wk6 w') := Lib.hid fun s f w e n s' f' w' m x a W' h1 h2 ev hr => ev_call ev (goes_any s f w e n s' f' w' m [x] (some a) 1 W' (HTK.out.ev ev) hr h1 (res_eq h2))
    have hev := Ev.refl wk6
    have dd := HSK.out _ hev
    clear HTK HTT HB1 HB3 HB5
    as_aux_lemma =>
    go_region_held3 (fun W' => ((W'.cell? ⟨p1, 0, none⟩ = some (.int .i64 1) ∧ W'.cell? ⟨p1, 1, none⟩ = some (.int .i64 (-1)) ∧ W'.cell? ⟨p1, 2, none⟩ = some (.int .i64 (-1))) ∧ (W'.cell? ⟨p3, 0, none⟩ = some (.int .i64 1) ∧ W'.cell? ⟨p3, 1, none⟩ = some (.int .i64 (-1)) ∧ W'.cell? ⟨p3, 2, none⟩ = some (.int .i64 9)) ∧ (W'.cell? ⟨p5, 0, none⟩ = some (.int .i64 2) ∧ W'.cell? ⟨p5, 1, none⟩ = some (.int .i64 5) ∧ W'.cell? ⟨p5, 2, none⟩ = some (.int .i64 9))) ∧ Ev wk6 W')
      ((refine HSK.out _ ?_; first | (with_reducible assumption) | (with_reducible exact Ev.drew (by with_reducible assumption)) | (with_reducible exact Ev.alloc (by with_reducible assumption) _) | (with_reducible exact Ev.drew (Ev.alloc (by with_reducible assumption) _)) | (with_reducible exact Ev.alloc (Ev.drew (by with_reducible assumption)) _)))
      (first | (go_at_call 28; refine (H1.out _ _ _ _ (by first | (with_reducible assumption) | (with_reducible exact Ev.drew (by with_reducible assumption)) | (with_reducible exact Ev.alloc (by with_reducible assumption) _) | (with_reducible exact Ev.drew (Ev.alloc (by with_reducible assumption) _)) | (with_reducible exact Ev.alloc (Ev.drew (by with_reducible assumption)) _))).mono ?_; clear hev; rintro e w' ⟨rfl, hev, hst⟩) | (go_at_call 29; ((with_reducible refine (H2.out _ _ _ _ _ _ _ _ _ _ (by decide +kernel) (by decide +kernel) (by first | (with_reducible assumption) | (with_reducible exact Ev.drew (by with_reducible assumption)) | (with_reducible exact Ev.alloc (by with_reducible assumption) _) | (with_reducible exact Ev.drew (Ev.alloc (by with_reducible assumption) _)) | (with_reducible exact Ev.alloc (Ev.drew (by with_reducible assumption)) _))).mono ?_); clear hev; rintro e w' ⟨rfl, hev⟩)) | (go_at_call 29; ((with_reducible refine (H3.out _ _ _ _ _ _ _ _ _ 9 _ _ (by decide +kernel) (by decide +kernel) (by first | (with_reducible assumption) | (with_reducible exact Ev.drew (by with_reducible assumption)) | (with_reducible exact Ev.alloc (by with_reducible assumption) _) | (with_reducible exact Ev.drew (Ev.alloc (by with_reducible assumption) _)) | (with_reducible exact Ev.alloc (Ev.drew (by with_reducible assumption)) _)) (by first | (with_reducible exact rd1 9 _) | (refine rdA 9 ?_; assumption) | (refine rdB 9 ?_; assumption) | (apply rdC 9 <;> assumption) | (apply rdD 9 <;> assumption))).mono ?_); clear hev; rintro e w' ⟨rfl, hev⟩)))
    all_goals
      go_wp2_with fail
      go_meet
      case rel => exact ⟨rfl, hev⟩
  case rest =>
  generalize wc = wa at *
  obtain ⟨rfl, hev⟩ := hcut
  have HEwa := Lib.hid hev
  clear hev
  go_upto_region 6 with fail
  go_cut [8] from 43 (fun sx wb => sx = .bool true ∧ Ev wa wb)
  case first =>
    have HSK : Hid (∀ W', Ev wa W' → ((W'.cell? ⟨p1, 0, none⟩ = some (.int .i64 1) ∧ W'.cell? ⟨p1, 1, none⟩ = some (.int .i64 (-1)) ∧ W'.cell? ⟨p1, 2, none⟩ = some (.int .i64 (-1))) ∧ (W'.cell? ⟨p3, 0, none⟩ = some (.int .i64 1) ∧ W'.cell? ⟨p3, 1, none⟩ = some (.int .i64 (-1)) ∧ W'.cell? ⟨p3, 2, none⟩ = some (.int .i64 9)) ∧ (W'.cell? ⟨p5, 0, none⟩ = some (.int .i64 2) ∧ W'.cell? ⟨p5, 1, none⟩ = some (.int .i64 5) ∧ W'.cell? ⟨p5, 2, none⟩ = some (.int .i64 9))) ∧ Ev wa W') := Lib.hid fun W' e => ⟨⟨(HB1.out.ev (Ev.step ((((((((Ev.refl _).step HEV1.out).step HEV2.out).step HEV3.out).step HEV4.out).step HEV5.out).step HEV6.out).step HEwa.out) e)).c, (HB3.out.ev (Ev.step ((((((((Ev.refl _).step HEV1.out).step HEV2.out).step HEV3.out).step HEV4.out).step HEV5.out).step HEV6.out).step HEwa.out) e)).c, (HB5.out.ev (Ev.step ((((((((Ev.refl _).step HEV1.out).step HEV2.out).step HEV3.out).step HEV4.out).step HEV5.out).step HEV6.out).step HEwa.out) e)).c⟩, e⟩
    have H1 : Hid (∀ s f w W', Ev wa W' → Calls Tryd.prog 28 #[.int .i64 s, .int .i64 f, .int .i64 w] W' fun e w' => e = .returned (rd s f w) ∧ Ev wa w' ∧ Ev W' w') := Lib.hid fun s f w W' e => (at_any s f w W').mono fun _ _ h => ⟨h.1, e.step h.2, h.2⟩
    have HTK := Lib.hid (HTT.out.ev (HE3.out.step ((((((((Ev.refl _).step HEV1.out).step HEV2.out).step HEV3.out).step HEV4.out).step HEV5.out).step HEV6.out).step HEwa.out)))
    have H2 : Hid (∀ s f w e n s' f' w' m W', stE s f w e n = 0 → ((stR s f w e n).s = s' ∧ (stR s f w e n).f = f' ∧ (stR s f w e n).w = w' ∧ (stR s f w e n).l = [] ∧ (stR s f w e n).m = m) → Ev wa W' → Calls Tryd.prog 29 #[rd s f w, .int .i64 e, .int .i64 n, rd s' f' w', .int .i64 m, .slice none 0 0] W' fun e w' => e = .returned (.bool true) ∧ Ev wa w') := Lib.hid fun s f w e n s' f' w' m W' h1 h2 ev => ev_call ev (goes_any s f w e n s' f' w' m [] none 0 W' (HTK.out.ev ev) (RdI.nil _) h1 (res_eq h2))
    have H3 : Hid (∀ s f w e n s' f' w' m x (a : Addr) W', stE s f w e n = 0 → ((stR s f w e n).s = s' ∧ (stR s f w e n).f = f' ∧ (stR s f w e n).w = w' ∧ (stR s f w e n).l = [x] ∧ (stR s f w e n).m = m) → Ev wa W' → RdI W' (some a) [x] → Calls Tryd.prog 29 #[rd s f w, .int .i64 e, .int .i64 n, rd s' f' w', .int .i64 m, .slice (some a) 1 1] W' fun e w' => e = .returned (.bool true) ∧ Ev wa w') := Lib.hid fun s f w e n s' f' w' m x a W' h1 h2 ev hr => ev_call ev (goes_any s f w e n s' f' w' m [x] (some a) 1 W' (HTK.out.ev ev) hr h1 (res_eq h2))
    have hev := Ev.refl wa
    have dd := HSK.out _ hev
    clear HTK HTT HB1 HB3 HB5
    as_aux_lemma =>
    go_region_held3 (fun W' => ((W'.cell? ⟨p1, 0, none⟩ = some (.int .i64 1) ∧ W'.cell? ⟨p1, 1, none⟩ = some (.int .i64 (-1)) ∧ W'.cell? ⟨p1, 2, none⟩ = some (.int .i64 (-1))) ∧ (W'.cell? ⟨p3, 0, none⟩ = some (.int .i64 1) ∧ W'.cell? ⟨p3, 1, none⟩ = some (.int .i64 (-1)) ∧ W'.cell? ⟨p3, 2, none⟩ = some (.int .i64 9)) ∧ (W'.cell? ⟨p5, 0, none⟩ = some (.int .i64 2) ∧ W'.cell? ⟨p5, 1, none⟩ = some (.int .i64 5) ∧ W'.cell? ⟨p5, 2, none⟩ = some (.int .i64 9))) ∧ Ev wa W')
      ((refine HSK.out _ ?_; first | (with_reducible assumption) | (with_reducible exact Ev.drew (by with_reducible assumption)) | (with_reducible exact Ev.alloc (by with_reducible assumption) _) | (with_reducible exact Ev.drew (Ev.alloc (by with_reducible assumption) _)) | (with_reducible exact Ev.alloc (Ev.drew (by with_reducible assumption)) _)))
      (first | (go_at_call 28; refine (H1.out _ _ _ _ (by first | (with_reducible assumption) | (with_reducible exact Ev.drew (by with_reducible assumption)) | (with_reducible exact Ev.alloc (by with_reducible assumption) _) | (with_reducible exact Ev.drew (Ev.alloc (by with_reducible assumption) _)) | (with_reducible exact Ev.alloc (Ev.drew (by with_reducible assumption)) _))).mono ?_; clear hev; rintro e w' ⟨rfl, hev, hst⟩) | (go_at_call 29; ((with_reducible refine (H2.out _ _ _ _ _ _ _ _ _ _ (by decide +kernel) (by decide +kernel) (by first | (with_reducible assumption) | (with_reducible exact Ev.drew (by with_reducible assumption)) | (with_reducible exact Ev.alloc (by with_reducible assumption) _) | (with_reducible exact Ev.drew (Ev.alloc (by with_reducible assumption) _)) | (with_reducible exact Ev.alloc (Ev.drew (by with_reducible assumption)) _))).mono ?_); clear hev; rintro e w' ⟨rfl, hev⟩)) | (go_at_call 29; ((with_reducible refine (H3.out _ _ _ _ _ _ _ _ _ 5 _ _ (by decide +kernel) (by decide +kernel) (by first | (with_reducible assumption) | (with_reducible exact Ev.drew (by with_reducible assumption)) | (with_reducible exact Ev.alloc (by with_reducible assumption) _) | (with_reducible exact Ev.drew (Ev.alloc (by with_reducible assumption) _)) | (with_reducible exact Ev.alloc (Ev.drew (by with_reducible assumption)) _)) (by first | (with_reducible exact rd1 5 _) | (refine rdA 5 ?_; assumption) | (refine rdB 5 ?_; assumption) | (apply rdC 5 <;> assumption) | (apply rdD 5 <;> assumption))).mono ?_); clear hev; rintro e w' ⟨rfl, hev⟩)) | (go_at_call 29; ((with_reducible refine (H3.out _ _ _ _ _ _ _ _ _ 9 _ _ (by decide +kernel) (by decide +kernel) (by first | (with_reducible assumption) | (with_reducible exact Ev.drew (by with_reducible assumption)) | (with_reducible exact Ev.alloc (by with_reducible assumption) _) | (with_reducible exact Ev.drew (Ev.alloc (by with_reducible assumption) _)) | (with_reducible exact Ev.alloc (Ev.drew (by with_reducible assumption)) _)) (by first | (with_reducible exact rd1 9 _) | (refine rdA 9 ?_; assumption) | (refine rdB 9 ?_; assumption) | (apply rdC 9 <;> assumption) | (apply rdD 9 <;> assumption))).mono ?_); clear hev; rintro e w' ⟨rfl, hev⟩)))
    all_goals
      go_wp2_with fail
      go_meet
      case rel => exact ⟨rfl, hev⟩
  case rest =>
  generalize wc = wb at *
  obtain ⟨rfl, hev⟩ := hcut
  have HEwb := Lib.hid hev
  clear hev
  go_wp2_with fail
  refine (at_any 3 5 (-1) _).mono ?_
  rintro e wk7 ⟨rfl, hev⟩
  have HEV7 := Lib.hid hev
  clear hev
  go_wp2_with fail
  refine (at_any 6 5 (-1) _).mono ?_
  rintro e wk8 ⟨rfl, hev⟩
  have HEV8 := Lib.hid hev
  clear hev
  go_wp2_with fail
  refine (goes_any 3 5 (-1) 6 (-1) 6 5 (-1) (-1) [] none 0 _ (HTT.out.ev (HE3.out.step (((((((((((Ev.refl _).step HEV1.out).step HEV2.out).step HEV3.out).step HEV4.out).step HEV5.out).step HEV6.out).step HEwa.out).step HEwb.out).step HEV7.out).step HEV8.out))) (RdI.nil _) (by decide +kernel) (by rfl)).mono ?_
  rintro e wk9 ⟨rfl, hev⟩
  have HEV9 := Lib.hid hev
  clear hev
  go_wp2_with fail
  refine (at_any 6 5 (-1) _).mono ?_
  rintro e wk10 ⟨rfl, hev⟩
  have HEV10 := Lib.hid hev
  clear hev
  go_wp2_with fail
  refine (at_any 8 (-1) (-1) _).mono ?_
  rintro e wk11 ⟨rfl, hev⟩
  have HEV11 := Lib.hid hev
  clear hev
  go_wp2_with fail
  refine (goes_any 6 5 (-1) 5 (-1) 8 (-1) (-1) (-1) [5] _ _ _ (HTT.out.ev (HE3.out.step (((((((((((((((Ev.refl _).step HEV1.out).step HEV2.out).step HEV3.out).step HEV4.out).step HEV5.out).step HEV6.out).step HEwa.out).step HEwb.out).step HEV7.out).step HEV8.out).step HEV9.out).step HEV10.out).step HEV11.out).step ((Ev.refl _).alloc _)))) (rd1 5 _) (by decide +kernel) (by rfl)).mono ?_
  rintro e wk12 ⟨rfl, hev⟩
  have HEV12 := Lib.hid hev
  clear hev
  obtain ⟨b0, b1, b2⟩ := (HB1.out.ev ((((((((((((((((Ev.refl _).step HEV1.out).step HEV2.out).step HEV3.out).step HEV4.out).step HEV5.out).step HEV6.out).step HEwa.out).step HEwb.out).step HEV7.out).step HEV8.out).step HEV9.out).step HEV10.out).step HEV11.out).step ((Ev.refl _).alloc _)).step HEV12.out)).c
  obtain ⟨d0, d1, d2⟩ := (HB3.out.ev ((((((((((((((((Ev.refl _).step HEV1.out).step HEV2.out).step HEV3.out).step HEV4.out).step HEV5.out).step HEV6.out).step HEwa.out).step HEwb.out).step HEV7.out).step HEV8.out).step HEV9.out).step HEV10.out).step HEV11.out).step ((Ev.refl _).alloc _)).step HEV12.out)).c
  go_wp2_with fail
  refine (rfK 1 (-1) (-1) 3 (-1) 9 (by decide +kernel) _ (HTT.out.ev (HE3.out.step ((((((((((((((((Ev.refl _).step HEV1.out).step HEV2.out).step HEV3.out).step HEV4.out).step HEV5.out).step HEV6.out).step HEwa.out).step HEwb.out).step HEV7.out).step HEV8.out).step HEV9.out).step HEV10.out).step HEV11.out).step ((Ev.refl _).alloc _)).step HEV12.out)))).mono ?_
  rintro e wk13 ⟨rfl, hev⟩
  have HEV13 := Lib.hid hev
  clear hev
  clear b0 b1 b2 d0 d1 d2
  obtain ⟨b0, b1, b2⟩ := (HB1.out.ev (((((((((((((((((Ev.refl _).step HEV1.out).step HEV2.out).step HEV3.out).step HEV4.out).step HEV5.out).step HEV6.out).step HEwa.out).step HEwb.out).step HEV7.out).step HEV8.out).step HEV9.out).step HEV10.out).step HEV11.out).step ((Ev.refl _).alloc _)).step HEV12.out).step HEV13.out)).c
  obtain ⟨d0, d1, d2⟩ := (HB3.out.ev (((((((((((((((((Ev.refl _).step HEV1.out).step HEV2.out).step HEV3.out).step HEV4.out).step HEV5.out).step HEV6.out).step HEwa.out).step HEwb.out).step HEV7.out).step HEV8.out).step HEV9.out).step HEV10.out).step HEV11.out).step ((Ev.refl _).alloc _)).step HEV12.out).step HEV13.out)).c
  go_wp2_with fail
  refine (rfK 1 (-1) 9 1 5 9 (by decide +kernel) _ (HTT.out.ev (HE3.out.step (((((((((((((((((Ev.refl _).step HEV1.out).step HEV2.out).step HEV3.out).step HEV4.out).step HEV5.out).step HEV6.out).step HEwa.out).step HEwb.out).step HEV7.out).step HEV8.out).step HEV9.out).step HEV10.out).step HEV11.out).step ((Ev.refl _).alloc _)).step HEV12.out).step HEV13.out)))).mono ?_
  rintro e wk14 ⟨rfl, hev⟩
  have HEV14 := Lib.hid hev
  clear hev
  clear b0 b1 b2 d0 d1 d2
  obtain ⟨b0, b1, b2⟩ := (HB1.out.ev ((((((((((((((((((Ev.refl _).step HEV1.out).step HEV2.out).step HEV3.out).step HEV4.out).step HEV5.out).step HEV6.out).step HEwa.out).step HEwb.out).step HEV7.out).step HEV8.out).step HEV9.out).step HEV10.out).step HEV11.out).step ((Ev.refl _).alloc _)).step HEV12.out).step HEV13.out).step HEV14.out)).c
  obtain ⟨d0, d1, d2⟩ := (HB3.out.ev ((((((((((((((((((Ev.refl _).step HEV1.out).step HEV2.out).step HEV3.out).step HEV4.out).step HEV5.out).step HEV6.out).step HEwa.out).step HEwb.out).step HEV7.out).step HEV8.out).step HEV9.out).step HEV10.out).step HEV11.out).step ((Ev.refl _).alloc _)).step HEV12.out).step HEV13.out).step HEV14.out)).c
  go_wp2_with fail
  refine (rfK 1 (-1) (-1) 7 (-1) 16 (by decide +kernel) _ (HTT.out.ev (HE3.out.step ((((((((((((((((((Ev.refl _).step HEV1.out).step HEV2.out).step HEV3.out).step HEV4.out).step HEV5.out).step HEV6.out).step HEwa.out).step HEwb.out).step HEV7.out).step HEV8.out).step HEV9.out).step HEV10.out).step HEV11.out).step ((Ev.refl _).alloc _)).step HEV12.out).step HEV13.out).step HEV14.out)))).mono ?_
  rintro e wk15 ⟨rfl, hev⟩
  have HEV15 := Lib.hid hev
  clear hev
  clear b0 b1 b2 d0 d1 d2
  obtain ⟨b0, b1, b2⟩ := (HB1.out.ev (((((((((((((((((((Ev.refl _).step HEV1.out).step HEV2.out).step HEV3.out).step HEV4.out).step HEV5.out).step HEV6.out).step HEwa.out).step HEwb.out).step HEV7.out).step HEV8.out).step HEV9.out).step HEV10.out).step HEV11.out).step ((Ev.refl _).alloc _)).step HEV12.out).step HEV13.out).step HEV14.out).step HEV15.out)).c
  obtain ⟨d0, d1, d2⟩ := (HB3.out.ev (((((((((((((((((((Ev.refl _).step HEV1.out).step HEV2.out).step HEV3.out).step HEV4.out).step HEV5.out).step HEV6.out).step HEwa.out).step HEwb.out).step HEV7.out).step HEV8.out).step HEV9.out).step HEV10.out).step HEV11.out).step ((Ev.refl _).alloc _)).step HEV12.out).step HEV13.out).step HEV14.out).step HEV15.out)).c
  go_wp2_with fail
  refine (rfK 1 (-1) (-1) 1 (-1) 2 (by decide +kernel) _ (HTT.out.ev (HE3.out.step (((((((((((((((((((Ev.refl _).step HEV1.out).step HEV2.out).step HEV3.out).step HEV4.out).step HEV5.out).step HEV6.out).step HEwa.out).step HEwb.out).step HEV7.out).step HEV8.out).step HEV9.out).step HEV10.out).step HEV11.out).step ((Ev.refl _).alloc _)).step HEV12.out).step HEV13.out).step HEV14.out).step HEV15.out)))).mono ?_
  rintro e wk16 ⟨rfl, hev⟩
  have HEV16 := Lib.hid hev
  clear hev
  clear b0 b1 b2 d0 d1 d2
  obtain ⟨b0, b1, b2⟩ := (HB1.out.ev ((((((((((((((((((((Ev.refl _).step HEV1.out).step HEV2.out).step HEV3.out).step HEV4.out).step HEV5.out).step HEV6.out).step HEwa.out).step HEwb.out).step HEV7.out).step HEV8.out).step HEV9.out).step HEV10.out).step HEV11.out).step ((Ev.refl _).alloc _)).step HEV12.out).step HEV13.out).step HEV14.out).step HEV15.out).step HEV16.out)).c
  obtain ⟨d0, d1, d2⟩ := (HB3.out.ev ((((((((((((((((((((Ev.refl _).step HEV1.out).step HEV2.out).step HEV3.out).step HEV4.out).step HEV5.out).step HEV6.out).step HEwa.out).step HEwb.out).step HEV7.out).step HEV8.out).step HEV9.out).step HEV10.out).step HEV11.out).step ((Ev.refl _).alloc _)).step HEV12.out).step HEV13.out).step HEV14.out).step HEV15.out).step HEV16.out)).c
  go_wp2_with fail
  refine (ndK 1 (-1) (-1) 3 0 (by decide +kernel) (by decide +kernel) _).mono ?_
  rintro e wk17 ⟨rfl, hev⟩
  have HEV17 := Lib.hid hev
  clear hev
  clear b0 b1 b2 d0 d1 d2
  obtain ⟨b0, b1, b2⟩ := (HB1.out.ev (((((((((((((((((((((Ev.refl _).step HEV1.out).step HEV2.out).step HEV3.out).step HEV4.out).step HEV5.out).step HEV6.out).step HEwa.out).step HEwb.out).step HEV7.out).step HEV8.out).step HEV9.out).step HEV10.out).step HEV11.out).step ((Ev.refl _).alloc _)).step HEV12.out).step HEV13.out).step HEV14.out).step HEV15.out).step HEV16.out).step HEV17.out)).c
  obtain ⟨d0, d1, d2⟩ := (HB3.out.ev (((((((((((((((((((((Ev.refl _).step HEV1.out).step HEV2.out).step HEV3.out).step HEV4.out).step HEV5.out).step HEV6.out).step HEwa.out).step HEwb.out).step HEV7.out).step HEV8.out).step HEV9.out).step HEV10.out).step HEV11.out).step ((Ev.refl _).alloc _)).step HEV12.out).step HEV13.out).step HEV14.out).step HEV15.out).step HEV16.out).step HEV17.out)).c
  go_wp2_with fail
  refine (seK 1 (-1) (-1) [1, 3, 5] 0 (by decide +kernel) (by decide +kernel) _).mono ?_
  rintro e wk18 ⟨A9, c9, rfl, hR9, hev⟩
  have HEV18 := Lib.hid hev
  have HR9 := Lib.hid hR9
  clear hev hR9
  clear b0 b1 b2 d0 d1 d2
  obtain ⟨b0, b1, b2⟩ := (HB1.out.ev ((((((((((((((((((((((Ev.refl _).step HEV1.out).step HEV2.out).step HEV3.out).step HEV4.out).step HEV5.out).step HEV6.out).step HEwa.out).step HEwb.out).step HEV7.out).step HEV8.out).step HEV9.out).step HEV10.out).step HEV11.out).step ((Ev.refl _).alloc _)).step HEV12.out).step HEV13.out).step HEV14.out).step HEV15.out).step HEV16.out).step HEV17.out).step HEV18.out)).c
  obtain ⟨d0, d1, d2⟩ := (HB3.out.ev ((((((((((((((((((((((Ev.refl _).step HEV1.out).step HEV2.out).step HEV3.out).step HEV4.out).step HEV5.out).step HEV6.out).step HEwa.out).step HEwb.out).step HEV7.out).step HEV8.out).step HEV9.out).step HEV10.out).step HEV11.out).step ((Ev.refl _).alloc _)).step HEV12.out).step HEV13.out).step HEV14.out).step HEV15.out).step HEV16.out).step HEV17.out).step HEV18.out)).c
  go_wp2_with fail
  refine (ndK 1 (-1) 9 2 0 (by decide +kernel) (by decide +kernel) _).mono ?_
  rintro e wk19 ⟨rfl, hev⟩
  have HEV19 := Lib.hid hev
  clear hev
  clear b0 b1 b2 d0 d1 d2
  go_wp2_with fail
  refine (awake_any _ (HTT.out.ev (HE3.out.step (((((((((((((((((((((((Ev.refl _).step HEV1.out).step HEV2.out).step HEV3.out).step HEV4.out).step HEV5.out).step HEV6.out).step HEwa.out).step HEwb.out).step HEV7.out).step HEV8.out).step HEV9.out).step HEV10.out).step HEV11.out).step ((Ev.refl _).alloc _)).step HEV12.out).step HEV13.out).step HEV14.out).step HEV15.out).step HEV16.out).step HEV17.out).step HEV18.out).step HEV19.out)))).mono ?_
  rintro e wk20 ⟨rfl, hev⟩
  have HEV20 := Lib.hid hev
  clear hev
  go_wp2_with fail
  refine (sameI A9 _ c9 3 [1, 3, 5] _ (HR9.out.ev ((((Ev.refl _).step HEV19.out).step HEV20.out).step ((Ev.refl _).alloc _))) (RdI.lit _ _ _ [1, 3, 5] rfl (by decide))).mono ?_
  rintro e wk21 ⟨rfl, hev⟩
  have HEV21 := Lib.hid hev
  clear hev
  go_wp2_with fail
  go_ret
  exact ⟨rfl, HE3.out.step ((((((((((((((((((((((((((Ev.refl _).step HEV1.out).step HEV2.out).step HEV3.out).step HEV4.out).step HEV5.out).step HEV6.out).step HEwa.out).step HEwb.out).step HEV7.out).step HEV8.out).step HEV9.out).step HEV10.out).step HEV11.out).step ((Ev.refl _).alloc _)).step HEV12.out).step HEV13.out).step HEV14.out).step HEV15.out).step HEV16.out).step HEV17.out).step HEV18.out).step HEV19.out).step HEV20.out).step ((Ev.refl _).alloc _)).step HEV21.out)⟩
end Go.Proofs.YtfiglmbnjfgdlaaDoor
