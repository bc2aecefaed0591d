import Derived.Test.YtfclbnaabdlmhaaK3
import Derived.Deep.Cut
import Derived.Deep.CutRange
namespace Go.Proofs.Ytfclbnaabdlmhaa
open Go.RowKit Go.Deep
theorem RdI.lit2 (X : World) (x y : Int) : RdI (X.alloc (.cells #[.int .i64 x, .int .i64 y] 3)) (some ⟨X.heap.size, 0, none⟩) [x, y] :=
  ⟨by simp, fun j hj => ⟨X.heap.size, 0, rfl, by simp, by
    have : j = 0 ∨ j = 1 := by simp at hj; omega
    rcases this with rfl | rfl <;> simp⟩⟩
theorem RdI.lit2e {X w' : World} (hs : Ev (X.alloc (.cells #[.int .i64 0, .int .i64 1] 3)) w') : RdI w' (some ⟨X.heap.size, 0, none⟩) [0, 1] := (RdI.lit2 X 0 1).ev hs
theorem RdI.lit2d {X w' : World} (hs : Ev (X.alloc (.cells #[.int .i64 0, .int .i64 1] 3)).drew w') : RdI w' (some ⟨X.heap.size, 0, none⟩) [0, 1] := (RdI.lit2 X 0 1).ev (Ev.step (Ev.drew (Ev.refl _)) hs)
set_option maxRecDepth 100000 in
set_option maxHeartbeats 16000000 in
theorem known_law (w : World) : Calls Try.prog 7 #[] w fun e w' => e = .returned (.bool true) ∧ Ev w w' := by
  have H33 : Hid (∀ W, Calls Try.prog 33 #[] W fun e w' => e = .returned (pg exC) ∧ Ev W w') := Lib.hid fun W => example_any W
  have HG1 : Hid (∀ W, Calls Try.prog 11 #[pg exC, .int .i64 1] W fun e w' => e = .returned (.tuple #[.int .u64 255, .int .i64 0]) ∧ Ev W w') := Lib.hid fun W => get_any exC 1 W
  have HG8 : Hid (∀ W, Calls Try.prog 11 #[pg exC, .int .i64 8] W fun e w' => e = .returned (.tuple #[.int .u64 0, .int .i64 2]) ∧ Ev W w') := Lib.hid fun W => get_any exC 8 W
  have HB1 : Hid (∀ W, Calls Try.prog 16 #[pg exC, .int .i64 0, .int .i64 1] W fun e w' => e = .returned (.tuple #[.int .u64 136, .int .i64 0]) ∧ Ev W w') := Lib.hid fun W => by have h := bytes_any exC 0 1 W; rw [ex_b1] at h; exact h
  have HB2 : Hid (∀ W, Calls Try.prog 16 #[pg exC, .int .i64 6, .int .i64 2] W fun e w' => e = .returned (.tuple #[.int .u64 4386, .int .i64 0]) ∧ Ev W w') := Lib.hid fun W => by have h := bytes_any exC 6 2 W; rw [ex_b2] at h; exact h
  have HS1 : Hid (∀ W, Calls Try.prog 18 #[pg exC, .int .i64 8, .int .i64 1] W fun e w' => e = .returned (.tuple #[.int .i64 (-1), .int .i64 0]) ∧ Ev W w') := Lib.hid fun W => by have h := signed_any exC 8 1 W; rw [ex_s1] at h; exact h
  have HS2 : Hid (∀ W, Calls Try.prog 18 #[pg exC, .int .i64 8, .int .i64 2] W fun e w' => e = .returned (.tuple #[.int .i64 255, .int .i64 0]) ∧ Ev W w') := Lib.hid fun W => by have h := signed_any exC 8 2 W; rw [ex_s2] at h; exact h
  have HB3 : Hid (∀ W, Calls Try.prog 16 #[pg exC, .int .i64 57, .int .i64 8] W fun e w' => e = .returned (.tuple #[.int .u64 0, .int .i64 2]) ∧ Ev W w') := Lib.hid fun W => by have h := bytes_any exC 57 8 W; rw [ex_b3] at h; exact h
  have HP : Hid (∀ W, Calls Try.prog 20 #[pg exC, .int .i64 7, .int .i64 2, .int .u64 11259375] W fun e w' => e = .returned (.tuple #[pg exZ, .int .i64 0]) ∧ Ev W w') := Lib.hid fun W => putb_ok exC 7 2 11259375 W (by omega) (by omega) (by omega)
  have HF : Hid (∀ W, Calls Try.prog 22 #[.int .u64 258] W fun e w' => e = .returned (pg fun k => rot (k * 8) 258) ∧ Ev W w') := Lib.hid fun W => fill_any 258 W (by omega)
  have HT : Hid (∀ W, Calls Try.prog 29 #[pg exC] W fun e w' => e = .returned (.string exT) ∧ Ev W w') := Lib.hid fun W => text_any exC W
  have HR1 : Hid (∀ W, Calls Try.prog 31 #[.string exT] W fun e w' => e = .returned (.tuple #[pg exC, fl 0 0]) ∧ Ev W w') := Lib.hid fun W => by
    obtain ⟨t1, t2, t3⟩ := text_back exC exC_lt
    have h := parse_all exT W
    have e : exT.data.toList = txP exC 8 := by unfold exT; simp
    rw [e, t1, t2, t3] at h
    exact h
  obtain ⟨d1, HR2⟩ : ∃ d, Hid (∀ W, Calls Try.prog 31 #[.string (exT.extract 0 134)] W fun e w' => e = .returned (.tuple #[pg d, fl 3 134]) ∧ Ev W w') := ⟨_, Lib.hid fun W => by have h := parse_all (exT.extract 0 134) W; rw [ex_pE, ex_pA] at h; exact h⟩
  obtain ⟨d2, HR3⟩ : ∃ d, Hid (∀ W, Calls Try.prog 31 #[.string ⟨#[71]⟩] W fun e w' => e = .returned (.tuple #[pg d, fl 3 0]) ∧ Ev W w') := ⟨_, Lib.hid fun W => by have h := parse_all ⟨#[71]⟩ W; rw [ex_gE, ex_gA] at h; exact h⟩
  have HDF : Hid (∀ W0 W, Ev W0 W → Calls Try.prog 25 #[pg exC, .agg #[.int .u64 0, .int .u64 0, .int .u64 0, .int .u64 0, .int .u64 0, .int .u64 0, .int .u64 0, .int .u64 0]] W fun e w' => ∃ A cap, e = .returned (.slice A 2 cap) ∧ RdI w' A [0, 1] ∧ Ev W0 w' ∧ Ev W w') := Lib.hid fun W0 W e => by have h := diff_rd exC (fun _ => 0) W0 W e; rw [ex_df] at h; exact h
  have z0 : ((exZ 0 : Int) != 17231391492856510344) = false := by rw [ex_z0]; rfl
  have z1 : ((exZ 1 : Int) != 205) = false := by rw [ex_z1]; rfl
  have f0 : ((rot (0 * 8) 258 : Int) == 258) = true := by rw [ex_f0]; rfl
  have f1 : ((rot (1 * 8) 258 : Int) == 66048) = true := by rw [ex_f1]; rfl
  have f7 : ((rot (7 * 8) 258 : Int) == 144115188075855873) = true := by rw [ex_f7]; rfl
  obtain ⟨ff, hff⟩ : ∃ ff : Nat → Nat, ff = fun k => rot (k * 8) 258 := ⟨_, rfl⟩
  rw [← hff] at HF
  have f0 : ((ff 0 : Int) == 258) = true := by rw [hff]; exact f0
  have f1 : ((ff 1 : Int) == 66048) = true := by rw [hff]; exact f1
  have f7 : ((ff 7 : Int) == 144115188075855873) = true := by rw [hff]; exact f7
  clear hff
  have hsz : exT.size = 135 := ex_sz
  have HQ : Hid (∀ d W, Sem.run Try.prog (Op.equalIn 10000 24 (pg d) (pg d)) W = .ok true W) := Lib.hid fun d W => by rw [eq24, eqB_self]
  have HFQ : Hid (∀ e a W, Sem.run Try.prog (Op.equalIn 10000 47 (fl e a) (fl e a)) W = .ok true W) := Lib.hid fun e a W => by rw [eq47]; simp
  generalize exC = xc at *
  generalize exZ = zz at *
  generalize exT = xt at *
  go_enter Try.func7, Try.ntmps7
  go_wp2_with fail
  refine (H33.out _).mono ?_
  rintro e v1 ⟨rfl, h1⟩
  have HE1 := Lib.hid ((Ev.refl w).step h1)
  clear h1
  go_wp2_with fail
  refine (HG1.out _).mono ?_
  rintro e v2 ⟨rfl, h2⟩
  have HE2 := Lib.hid (HE1.out.step h2)
  clear h2
  go_wp2_with fail
  refine (H33.out _).mono ?_
  rintro e v3 ⟨rfl, h3⟩
  have HE3 := Lib.hid (HE2.out.step h3)
  clear h3
  go_wp2_with fail
  refine (HG8.out _).mono ?_
  rintro e v4 ⟨rfl, h4⟩
  have HE4 := Lib.hid (HE3.out.step h4)
  clear h4
  go_wp2_with fail
  refine (H33.out _).mono ?_
  rintro e v5 ⟨rfl, h5⟩
  have HE5 := Lib.hid (HE4.out.step h5)
  clear h5
  go_wp2_with fail
  refine (HB1.out _).mono ?_
  rintro e v6 ⟨rfl, h6⟩
  have HE6 := Lib.hid (HE5.out.step h6)
  clear h6
  go_wp2_with fail
  refine (H33.out _).mono ?_
  rintro e v7 ⟨rfl, h7⟩
  have HE7 := Lib.hid (HE6.out.step h7)
  clear h7
  go_wp2_with fail
  refine (HB2.out _).mono ?_
  rintro e v8 ⟨rfl, h8⟩
  have HE8 := Lib.hid (HE7.out.step h8)
  clear h8
  go_wp2_with fail
  refine (H33.out _).mono ?_
  rintro e v9 ⟨rfl, h9⟩
  have HE9 := Lib.hid (HE8.out.step h9)
  clear h9
  go_wp2_with fail
  refine (HS1.out _).mono ?_
  rintro e v10 ⟨rfl, h10⟩
  have HE10 := Lib.hid (HE9.out.step h10)
  clear h10
  go_wp2_with fail
  refine (H33.out _).mono ?_
  rintro e v11 ⟨rfl, h11⟩
  have HE11 := Lib.hid (HE10.out.step h11)
  clear h11
  go_wp2_with fail
  refine (HS2.out _).mono ?_
  rintro e v12 ⟨rfl, h12⟩
  have HE12 := Lib.hid (HE11.out.step h12)
  clear h12
  go_wp2_with fail
  refine (H33.out _).mono ?_
  rintro e v13 ⟨rfl, h13⟩
  have HE13 := Lib.hid (HE12.out.step h13)
  clear h13
  go_wp2_with fail
  refine (HB3.out _).mono ?_
  rintro e v14 ⟨rfl, h14⟩
  have HE14 := Lib.hid (HE13.out.step h14)
  clear h14
  go_wp2_with fail
  refine (H33.out _).mono ?_
  rintro e v15 ⟨rfl, h15⟩
  have HE15 := Lib.hid (HE14.out.step h15)
  clear h15
  go_wp2_with fail
  refine (HP.out _).mono ?_
  rintro e v16 ⟨rfl, h16⟩
  have HE16 := Lib.hid (HE15.out.step h16 |>.alloc (pgO zz))
  clear h16
  go_wp2_with fail
  refine (HF.out _).mono ?_
  rintro e w12 ⟨rfl, h17⟩
  have HE17 := Lib.hid (HE16.out.step h17 |>.alloc (pgO ff))
  have B12_17 := Lib.hid (BP.new w12 ff)
  clear h17
  go_wp2_with fail
  refine (H33.out _).mono ?_
  rintro e v18 ⟨rfl, h18⟩
  have HE18 := Lib.hid (HE17.out.step h18)
  have B12_18 := Lib.hid (B12_17.out.ev h18)
  clear h18
  go_wp2_with fail
  refine (HT.out _).mono ?_
  rintro e v19 ⟨rfl, h19⟩
  have HE19 := Lib.hid (HE18.out.step h19)
  have B12_19 := Lib.hid (B12_18.out.ev h19)
  clear h19
  go_wp2_with fail
  refine (HR1.out _).mono ?_
  rintro e w14 ⟨rfl, h20⟩
  have HE20 := Lib.hid (HE19.out.step h20 |>.alloc (pgO xc) |>.alloc (flO 0 0))
  have B12_20 := Lib.hid ((B12_19.out.ev h20).ev (((Ev.refl _).alloc (pgO xc) : Ev w14 _).alloc (flO 0 0)))
  have B14_20 := Lib.hid ((BP.new w14 xc).ev ((Ev.refl _).alloc (flO 0 0)))
  have B15_20 := Lib.hid (BF.new1 w14 0 0 (pgO xc))
  clear h20
  have ht2 : (0 : Int) ≤ 134 := by omega
  go_wp2_with fail
  refine (HR2.out _).mono ?_
  rintro e w16 ⟨rfl, h21⟩
  have HE21 := Lib.hid (HE20.out.step h21 |>.alloc (pgO d1) |>.alloc (flO 3 134))
  have B12_21 := Lib.hid ((B12_20.out.ev h21).ev (((Ev.refl _).alloc (pgO d1) : Ev w16 _).alloc (flO 3 134)))
  have B14_21 := Lib.hid ((B14_20.out.ev h21).ev (((Ev.refl _).alloc (pgO d1) : Ev w16 _).alloc (flO 3 134)))
  have B15_21 := Lib.hid ((B15_20.out.ev h21).ev (((Ev.refl _).alloc (pgO d1) : Ev w16 _).alloc (flO 3 134)))
  have B17_21 := Lib.hid (BF.new1 w16 3 134 (pgO d1))
  clear h21
  go_wp2_with fail
  refine (HR3.out _).mono ?_
  rintro e w18 ⟨rfl, h22⟩
  have HE22 := Lib.hid (HE21.out.step h22 |>.alloc (pgO d2) |>.alloc (flO 3 0))
  have B12_22 := Lib.hid ((B12_21.out.ev h22).ev (((Ev.refl _).alloc (pgO d2) : Ev w18 _).alloc (flO 3 0)))
  have B14_22 := Lib.hid ((B14_21.out.ev h22).ev (((Ev.refl _).alloc (pgO d2) : Ev w18 _).alloc (flO 3 0)))
  have B15_22 := Lib.hid ((B15_21.out.ev h22).ev (((Ev.refl _).alloc (pgO d2) : Ev w18 _).alloc (flO 3 0)))
  have B17_22 := Lib.hid ((B17_21.out.ev h22).ev (((Ev.refl _).alloc (pgO d2) : Ev w18 _).alloc (flO 3 0)))
  have B19_22 := Lib.hid (BF.new1 w18 3 0 (pgO d2))
  clear h22
  go_wp2_with fail
  obtain ⟨W, hW⟩ : ∃ W, W = (w18.alloc (pgO d2)).alloc (flO 3 0) := ⟨_, rfl⟩
  have C12 : Hid (BP W w12.heap.size ff) := Lib.hid (by rw [hW]; exact B12_22.out)
  have C14 : Hid (BP W w14.heap.size xc) := Lib.hid (by rw [hW]; exact B14_22.out)
  have C15 : Hid (BF W (w14.heap.size + 1) 0 0) := Lib.hid (by rw [hW]; exact B15_22.out)
  have C17 : Hid (BF W (w16.heap.size + 1) 3 134) := Lib.hid (by rw [hW]; exact B17_22.out)
  have C19 : Hid (BF W (w18.heap.size + 1) 3 0) := Lib.hid (by rw [hW]; exact B19_22.out)
  have HEW : Hid (Ev w W) := Lib.hid (by rw [hW]; exact HE22.out)
  rw [← hW]
  clear hW
  have HSW : Hid (∀ w', Ev W w' → (w'.cell? ⟨w12.heap.size, 0, none⟩ = some (.int .u64 (ff 0 : Int)) ∧ w'.cell? ⟨w12.heap.size, 1, none⟩ = some (.int .u64 (ff 1 : Int)) ∧ w'.cell? ⟨w12.heap.size, 7, none⟩ = some (.int .u64 (ff 7 : Int)) ∧ w'.cell? ⟨w14.heap.size, 0, none⟩ = some (.int .u64 (xc 0 : Int)) ∧ w'.cell? ⟨w14.heap.size, 1, none⟩ = some (.int .u64 (xc 1 : Int)) ∧ w'.cell? ⟨w14.heap.size, 2, none⟩ = some (.int .u64 (xc 2 : Int)) ∧ w'.cell? ⟨w14.heap.size, 3, none⟩ = some (.int .u64 (xc 3 : Int)) ∧ w'.cell? ⟨w14.heap.size, 4, none⟩ = some (.int .u64 (xc 4 : Int)) ∧ w'.cell? ⟨w14.heap.size, 5, none⟩ = some (.int .u64 (xc 5 : Int)) ∧ w'.cell? ⟨w14.heap.size, 6, none⟩ = some (.int .u64 (xc 6 : Int)) ∧ w'.cell? ⟨w14.heap.size, 7, none⟩ = some (.int .u64 (xc 7 : Int)) ∧ w'.cell? ⟨w14.heap.size + 1, 0, none⟩ = some (.int .i64 0) ∧ w'.cell? ⟨w14.heap.size + 1, 1, none⟩ = some (.int .i64 0) ∧ w'.cell? ⟨w16.heap.size + 1, 0, none⟩ = some (.int .i64 3) ∧ w'.cell? ⟨w16.heap.size + 1, 1, none⟩ = some (.int .i64 134) ∧ w'.cell? ⟨w18.heap.size + 1, 0, none⟩ = some (.int .i64 3) ∧ w'.cell? ⟨w18.heap.size + 1, 1, none⟩ = some (.int .i64 0)) ∧ Ev W w') := Lib.hid fun w' e => by
    have a := (C12.out.ev e).2.1
    have b := (C14.out.ev e).2.1
    obtain ⟨-, c0, c1⟩ := C15.out.ev e
    obtain ⟨-, d0, d1⟩ := C17.out.ev e
    obtain ⟨-, e0, e1⟩ := C19.out.ev e
    exact ⟨⟨a 0 (by omega), a 1 (by omega), a 7 (by omega), b 0 (by omega), b 1 (by omega), b 2 (by omega), b 3 (by omega), b 4 (by omega), b 5 (by omega), b 6 (by omega), b 7 (by omega), c0, c1, d0, d1, e0, e1⟩, e⟩
  have H25 : Hid (∀ W', Calls Try.prog 25 #[pg xc, .agg #[.int .u64 0, .int .u64 0, .int .u64 0, .int .u64 0, .int .u64 0, .int .u64 0, .int .u64 0, .int .u64 0]] W' fun e w' => ∃ A cap, e = .returned (.slice A 2 cap) ∧ RdI w' A [0, 1] ∧ Ev W' w') := Lib.hid fun W' => (HDF.out W' W' (Ev.refl _)).mono fun e w' ⟨A, cap, h1, h2, h3, _⟩ => ⟨A, cap, h1, h2, h3⟩
  have H24 : Hid (∀ A B c W', RdI W' A [0, 1] → RdI W' B [0, 1] → Calls Try.prog 24 #[.slice A 2 c, .slice B 2 2] W' fun e w' => e = .returned (.bool true) ∧ Ev W' w') := Lib.hid fun A B c W' r1 r2 => sameI A B c 2 [0, 1] _ r1 r2
  have H15 : Hid (∀ W', Calls Try.prog 15 #[] W' fun e w' => e = .returned (.bool true) ∧ Ev W' w') := Lib.hid fun W' => awake_any W'
  have hq := HQ.out
  have hf := HFQ.out
  clear HE1 HE2 HE3 HE4 HE5 HE6 HE7 HE8 HE9 HE10 HE11 HE12 HE13 HE14 HE15 HE16 HE17 HE18 HE19 HE20 HE21 HE22 B12_17 B12_18 B12_19 B12_20 B12_21 B12_22 B14_20 B14_21 B14_22 B15_20 B15_21 B15_22 B17_21 B17_22 B19_22 C12 C14 C15 C17 C19 HG1 HG8 HB1 HB2 HB3 HS1 HS2 HP HF HT HR1 HR2 HR3 HDF
  have hev := Ev.refl W
  go_cut [0] from 139 (fun v wd => v = .bool true ∧ Ev W wd)
  case first =>
    clear HEW
    as_aux_lemma =>
      go_region_held3 (fun w' => (w'.cell? ⟨w12.heap.size, 0, none⟩ = some (.int .u64 (ff 0 : Int)) ∧ w'.cell? ⟨w12.heap.size, 1, none⟩ = some (.int .u64 (ff 1 : Int)) ∧ w'.cell? ⟨w12.heap.size, 7, none⟩ = some (.int .u64 (ff 7 : Int)) ∧ w'.cell? ⟨w14.heap.size, 0, none⟩ = some (.int .u64 (xc 0 : Int)) ∧ w'.cell? ⟨w14.heap.size, 1, none⟩ = some (.int .u64 (xc 1 : Int)) ∧ w'.cell? ⟨w14.heap.size, 2, none⟩ = some (.int .u64 (xc 2 : Int)) ∧ w'.cell? ⟨w14.heap.size, 3, none⟩ = some (.int .u64 (xc 3 : Int)) ∧ w'.cell? ⟨w14.heap.size, 4, none⟩ = some (.int .u64 (xc 4 : Int)) ∧ w'.cell? ⟨w14.heap.size, 5, none⟩ = some (.int .u64 (xc 5 : Int)) ∧ w'.cell? ⟨w14.heap.size, 6, none⟩ = some (.int .u64 (xc 6 : Int)) ∧ w'.cell? ⟨w14.heap.size, 7, none⟩ = some (.int .u64 (xc 7 : Int)) ∧ w'.cell? ⟨w14.heap.size + 1, 0, none⟩ = some (.int .i64 0) ∧ w'.cell? ⟨w14.heap.size + 1, 1, none⟩ = some (.int .i64 0) ∧ w'.cell? ⟨w16.heap.size + 1, 0, none⟩ = some (.int .i64 3) ∧ w'.cell? ⟨w16.heap.size + 1, 1, none⟩ = some (.int .i64 134) ∧ w'.cell? ⟨w18.heap.size + 1, 0, none⟩ = some (.int .i64 3) ∧ w'.cell? ⟨w18.heap.size + 1, 1, none⟩ = some (.int .i64 0)) ∧ Ev W w')
        (first | (with_reducible assumption) | (refine HSW.out _ ?_; repeat (first | (with_reducible assumption) | (with_reducible exact Ev.refl _) | (with_reducible refine Ev.drew ?_) | (with_reducible refine Ev.alloc ?_ _))))
        (first | (go_at_call 33; go_loud (with_reducible refine (H33.out _).mono ?_); go_loud (rintro e w' ⟨rfl, hs⟩); go_loud (have hev2 : Ev W w' := Ev.step (by repeat (first | (with_reducible assumption) | (with_reducible exact Ev.refl _) | (with_reducible refine Ev.drew ?_) | (with_reducible refine Ev.alloc ?_ _))) hs); clear hev; have hev := hev2; clear hev2; (try (with_reducible have R2 := Lib.hid (RdI.lit2e hs))); (try (with_reducible have R2 := Lib.hid (RdI.lit2d hs))); clear hs) | (go_at_call 25; go_loud (with_reducible refine (H25.out _).mono ?_); go_loud (rintro e w' ⟨A1, cap1, rfl, r1, hs⟩); have R1 := Lib.hid r1; clear r1; (try (have R2b := Lib.hid (R2.out.ev (Ev.step (by repeat (first | (with_reducible assumption) | (with_reducible exact Ev.refl _) | (with_reducible refine Ev.drew ?_) | (with_reducible refine Ev.alloc ?_ _))) hs)); clear R2; have R2 := R2b; clear R2b)); (try (with_reducible have R2 := Lib.hid (RdI.lit2e hs))); (try (with_reducible have R2 := Lib.hid (RdI.lit2d hs))); go_loud (have hev2 : Ev W w' := Ev.step (by repeat (first | (with_reducible assumption) | (with_reducible exact Ev.refl _) | (with_reducible refine Ev.drew ?_) | (with_reducible refine Ev.alloc ?_ _))) hs); clear hev; have hev := hev2; clear hev2; clear hs) | (go_at_call 24; go_loud (with_reducible refine (H24.out _ _ _ _ (by first | with_reducible exact R1.out | exact R1.out.ev (by repeat (first | (with_reducible assumption) | (with_reducible exact Ev.refl _) | (with_reducible refine Ev.drew ?_) | (with_reducible refine Ev.alloc ?_ _)))) (by first | with_reducible exact R2.out | with_reducible exact RdI.lit2 _ 0 1 | exact R2.out.ev (by repeat (first | (with_reducible assumption) | (with_reducible exact Ev.refl _) | (with_reducible refine Ev.drew ?_) | (with_reducible refine Ev.alloc ?_ _))) | exact (RdI.lit2 _ 0 1).ev (by repeat (first | (with_reducible assumption) | (with_reducible exact Ev.refl _) | (with_reducible refine Ev.drew ?_) | (with_reducible refine Ev.alloc ?_ _))))).mono ?_); go_loud (rintro e w' ⟨rfl, hs⟩); go_loud (have hev2 : Ev W w' := Ev.step (by repeat (first | (with_reducible assumption) | (with_reducible exact Ev.refl _) | (with_reducible refine Ev.drew ?_) | (with_reducible refine Ev.alloc ?_ _))) hs); clear hev; have hev := hev2; clear hev2; clear hs) | (go_at_call 15; go_loud (with_reducible refine (H15.out _).mono ?_); go_loud (rintro e w' ⟨rfl, hs⟩); go_loud (have hev2 : Ev W w' := Ev.step (by repeat (first | (with_reducible assumption) | (with_reducible exact Ev.refl _) | (with_reducible refine Ev.drew ?_) | (with_reducible refine Ev.alloc ?_ _))) hs); clear hev; have hev := hev2; clear hev2; clear hs))
      all_goals
        go_wp2_with fail
        go_meet
        case rel => exact ⟨rfl, by repeat (first | (with_reducible assumption) | (with_reducible exact Ev.refl _) | (with_reducible refine Ev.drew ?_) | (with_reducible refine Ev.alloc ?_ _))⟩
  case rest =>
    obtain ⟨rfl, hev2⟩ := hcut
    go_wp2_with fail
    go_ret
    exact ⟨rfl, HEW.out.step hev2⟩
end Go.Proofs.Ytfclbnaabdlmhaa
