import Derived.Test.YtpgghbabhgfchaaC6
import Derived.Test.YtpgghbabhgfchaaC3
import Derived.Test.YtpgghbabhgfchaaCO
import Derived.Deep.SlicePairs
namespace Go.Proofs.Ytpgghbabhgfchaa
open Go.RowKit
theorem eq3 (a b : Int) (n : Nat) (w : World) : Sem.run Try.prog (Op.equalIn (n + 1) 3 (.int .i64 a) (.int .i64 b)) w = .ok (a == b) w := by
  unfold Op.equalIn
  simp [run_underlying Try.underlying3]
theorem eq30 (a b a' b' : Int) (w : World) : Sem.run Try.prog (Op.equalIn 10000 30 (.agg #[.int .i64 a, .int .i64 b]) (.agg #[.int .i64 a', .int .i64 b'])) w = .ok ((a == a') && (b == b')) w := by
  rw [show (10000 : Nat) = 9998 + 1 + 1 from rfl]
  unfold Op.equalIn
  simp [run_underlying Try.underlying30, go_sem, eq3]
  repeat' split
  all_goals simp_all
def pcL (f t : Int) : List (Int × Int) := if ckE f t = 0 then pcF (pgs f.toNat t.toNat) else []
def PcQ (W : World) (L : List (Int × Int)) (er : Int) (x : Ending) (w' : World) : Prop := ∃ A c, x = .returned (.tuple #[.slice A L.length c, .int .i64 er]) ∧ RdP w' A L ∧ Ev W w'
theorem pcl_len (f t : Nat) (ht : t < 64) : (pcF (pgs f t)).length ≤ 9223372036854775807 := by
  have h := (pcF_bd (pgs f t)).2
  unfold pgs at h ⊢
  rw [upto_length] at h
  omega
theorem Pieces_any (f t : Int) (w : World) : Calls Try.prog 17 #[rg f t] w fun e w' => PcQ w (pcL f t) (ckE f t) e w' := by
  unfold pcL PcQ
  by_cases h : ckE f t = 0
  · rw [if_pos h, h]
    obtain ⟨h0, h1, h2⟩ := ck_zero h
    obtain ⟨fn, rfl⟩ : ∃ fn : Nat, f = fn := ⟨f.toNat, by omega⟩
    obtain ⟨tn, rfl⟩ : ∃ tn : Nat, t = tn := ⟨t.toNat, by omega⟩
    exact (Pieces_ok fn tn (by omega) (by omega) w).mono fun e w' ⟨v, h1, h2, h3⟩ => by
      obtain ⟨A, c, rfl, h4⟩ := RdP.of_own h2 (pcl_len fn tn (by omega))
      exact ⟨A, c, h1, h4, h3⟩
  · rw [if_neg h, ck_two h]
    exact (Pieces_bad f t (ck_two h) w).mono fun e w' ⟨h1, h2⟩ => ⟨none, 0, h1, RdP.nil _ _, h2⟩
theorem rPieces_any (f t : Int) (w : World) : Calls Try.prog 18 #[rg f t] w fun e w' => PcQ w (pcL f t) (ckE f t) e w' := by
  unfold pcL PcQ
  by_cases h : ckE f t = 0
  · rw [if_pos h, h]
    obtain ⟨h0, h1, h2⟩ := ck_zero h
    obtain ⟨fn, rfl⟩ : ∃ fn : Nat, f = fn := ⟨f.toNat, by omega⟩
    obtain ⟨tn, rfl⟩ : ∃ tn : Nat, t = tn := ⟨t.toNat, by omega⟩
    exact (rPieces_ok fn tn (by omega) (by omega) w).mono fun e w' ⟨v, h1, h2, h3⟩ => by
      obtain ⟨A, c, rfl, h4⟩ := RdP.of_own h2 (pcl_len fn tn (by omega))
      exact ⟨A, c, h1, h4, h3⟩
  · rw [if_neg h, ck_two h]
    exact (rPieces_bad f t (ck_two h) w).mono fun e w' ⟨h1, h2⟩ => ⟨none, 0, h1, RdP.nil _ _, h2⟩
theorem two_new (w : World) (a b c d : Int) : B2 ((w.alloc (oR a b)).alloc (oR c d)) w.heap.size a b ∧ B2 ((w.alloc (oR a b)).alloc (oR c d)) (w.heap.size + 1) c d ∧ Ev w ((w.alloc (oR a b)).alloc (oR c d)) := by
  have s1 : (w.alloc (oR a b)).heap.size = w.heap.size + 1 := by simp
  refine ⟨(B2.new w a b).ev ((Ev.refl _).alloc _), ?_, ((Ev.refl w).alloc _).alloc _⟩
  have := B2.new (w.alloc (oR a b)) c d
  rwa [s1] at this
set_option maxRecDepth 100000 in
set_option maxHeartbeats 16000000 in
theorem ranges_law (a b c d : Int) (A : Option Addr) (cap : Nat) (l : List (Int × Int)) (w : World) (hr : RdP w A l) (hn : A = none → l.length = 0 ∧ cap = 0) (hl : l.length ≤ 70) :
    Calls Try.prog 4 #[rg a b, rg c d, .slice A l.length cap] w fun e w' => e = .returned (.bool true) ∧ Ev w w' := by
  have HR := Lib.hid hr
  have HBB := Lib.hid (two_new w a b c d)
  have C17 := Lib.hid fun W => Pieces_any a b W
  have C18 := Lib.hid fun W => rPieces_any a b W
  have C19 := Lib.hid fun W => check_any a b W
  have C20 := Lib.hid fun W => rcheck_any a b W
  have C22 := Lib.hid fun W (h : RdP W A l) => ownR_any A cap l W h hn (by omega)
  have C23 := Lib.hid fun A' c' W (h : RdP W A' l) => cover_any A' c' l W h hl
  have C24 := Lib.hid fun W (h : RdP W A l) => rcover_any A cap l W h hl
  have C25 := Lib.hid fun W => overlap_any a b c d W
  have C26 := Lib.hid fun W => roverlap_any a b c d W
  have HEQ := Lib.hid (show ∀ x y W, Sem.run Try.prog (Op.equalIn 10000 30 (.agg #[.int .i64 x, .int .i64 y]) (.agg #[.int .i64 x, .int .i64 y])) W = .ok true W from fun x y W => by rw [eq30]; simp)
  unfold PcQ at C17 C18
  unfold CvQ at C23 C24
  unfold OvQ at C25 C26
  have d1 : decide ((70 : Int) < (l.length : Int)) = false := decide_eq_false (by omega)
  have d2 : decide (70 < l.length) = false := decide_eq_false (by omega)
  have hq : ∀ x : Int, (x != x) = false := fun x => by simp
  have q1 := hq (ckE a b)
  have q2 : (cvE l == cvE l) = true := by simp
  have q3 : ((ov a b c d).e == (ov a b c d).e) = true := by simp
  have q4 : ((ov a b c d).o == (ov a b c d).o) = true := by simp
  clear hq hr hn hl
  generalize ckE a b = er1 at *
  generalize pcL a b = P at *
  generalize cvL l = L at *
  generalize cvE l = er2 at *
  generalize ov a b c d = V at *
  obtain ⟨vf, vt, vo, ve⟩ := V
  simp only [] at C25 C26 q3 q4
  go_enter Try.func4, Try.ntmps4
  go_upto_region 1 with fail
  generalize ((w.alloc (oR a b)).alloc (oR c d)) = w1 at *
  have HB1 := Lib.hid HBB.out.1
  have HD1 := Lib.hid HBB.out.2.1
  have HE1 := Lib.hid HBB.out.2.2
  clear HBB
  obtain ⟨-, b0, b1, -, -⟩ := HB1.out
  go_wp2_with fail
  refine (C17.out _).mono ?_
  rintro e w2 ⟨A2, c2, rfl, hr2, hev⟩
  have HE2 := Lib.hid (HE1.out.step hev)
  have HB2 := Lib.hid (HB1.out.ev hev)
  have HD2 := Lib.hid (HD1.out.ev hev)
  have HR2 := Lib.hid hr2
  clear hev hr2 b0 b1 d1 d2
  obtain ⟨-, b0, b1, -, -⟩ := HB2.out
  go_wp2_with fail
  refine (C18.out _).mono ?_
  rintro e w3 ⟨A3, c3, rfl, hr3, hev⟩
  have HE3 := Lib.hid (HE2.out.step hev)
  have HB3 := Lib.hid (HB2.out.ev hev)
  have HD3 := Lib.hid (HD2.out.ev hev)
  have HR23 := Lib.hid (HR2.out.ev hev)
  have HR3 := Lib.hid hr3
  clear hev hr3 b0 b1
  go_upto_region 5 with fail
  have HS : Hid (∀ W', Ev w3 W' → ((W'.cell? ⟨w.heap.size, 0, none⟩ = some (.int .i64 a) ∧ W'.cell? ⟨w.heap.size, 1, none⟩ = some (.int .i64 b)) ∧ Ev w3 W')) := Lib.hid fun W' e => ⟨⟨(HB3.out.ev e).2.1, (HB3.out.ev e).2.2.1⟩, e⟩
  have H19 : Hid (∀ W', Ev w3 W' → Calls Try.prog 19 #[rg a b] W' fun e w' => e = .returned (.int .i64 er1) ∧ Ev w3 w') := Lib.hid fun W' e => ev_call e (C19.out W')
  have H20 : Hid (∀ W', Ev w3 W' → Calls Try.prog 20 #[rg a b] W' fun e w' => e = .returned (.int .i64 er1) ∧ Ev w3 w') := Lib.hid fun W' e => ev_call e (C20.out W')
  have H21 : Hid (∀ W', Ev w3 W' → Calls Try.prog 21 #[.slice A2 P.length c2, .slice A3 P.length c3] W' fun e w' => e = .returned (.bool true) ∧ Ev w3 w') := Lib.hid fun W' e => ev_call e (sameP A2 A3 c2 c3 P W' (HR23.out.ev e) (HR3.out.ev e))
  go_cut [49] from 34 to 48 (fun s49 wx => s49 = .bool false ∧ Ev w3 wx)
  case first =>
    have hev := Ev.refl w3
    have dd := HS.out _ hev
    go_region_held3 (fun W' => (W'.cell? ⟨w.heap.size, 0, none⟩ = some (.int .i64 a) ∧ W'.cell? ⟨w.heap.size, 1, none⟩ = some (.int .i64 b)) ∧ Ev w3 W')
      (first | with_reducible exact HS.out _ (by with_reducible assumption) | with_reducible exact HS.out _ (Ev.drew (by with_reducible assumption)))
      (first | (go_at_call 19; refine (H19.out _ (by first | assumption | exact Ev.drew (by with_reducible assumption))).mono ?_; clear hev; rintro e w' ⟨rfl, hev⟩) | (go_at_call 20; refine (H20.out _ (by first | assumption | exact Ev.drew (by with_reducible assumption))).mono ?_; clear hev; rintro e w' ⟨rfl, hev⟩) | (go_at_call 21; refine (H21.out _ (by first | assumption | exact Ev.drew (by with_reducible assumption))).mono ?_; clear hev; rintro e w' ⟨rfl, hev⟩))
    all_goals
      go_wp2_with fail
      go_meet
      case rel => exact ⟨rfl, hev⟩
  case rest =>
  obtain ⟨rfl, hev⟩ := hcut
  generalize wc = w4 at *
  have HE4 := Lib.hid (HE3.out.step hev)
  have HB4 := Lib.hid (HB3.out.ev hev)
  have HD4 := Lib.hid (HD3.out.ev hev)
  clear hev
  go_wp2_with fail
  refine (C22.out _ (HR.out.ev HE4.out)).mono ?_
  rintro e w5 ⟨A5, c5, rfl, hr5, hev⟩
  have HE5 := Lib.hid (HE4.out.step hev)
  have HB5 := Lib.hid (HB4.out.ev hev)
  have HD5 := Lib.hid (HD4.out.ev hev)
  have HR5 := Lib.hid hr5
  clear hev hr5
  go_wp2_with fail
  refine (C23.out _ _ _ HR5.out).mono ?_
  rintro e w6 ⟨A6, c6, rfl, hr6, hev⟩
  have HE6 := Lib.hid (HE5.out.step hev)
  have HB6 := Lib.hid (HB5.out.ev hev)
  have HD6 := Lib.hid (HD5.out.ev hev)
  have HR56 := Lib.hid (HR5.out.ev hev)
  have HR6 := Lib.hid hr6
  clear hev hr6
  go_wp2_with fail
  refine (C24.out _ (HR.out.ev HE6.out)).mono ?_
  rintro e w7 ⟨A7, c7, rfl, hr7, hev⟩
  have HE7 := Lib.hid (HE6.out.step hev)
  have HB7 := Lib.hid (HB6.out.ev hev)
  have HD7 := Lib.hid (HD6.out.ev hev)
  have HR57 := Lib.hid (HR56.out.ev hev)
  have HR67 := Lib.hid (HR6.out.ev hev)
  have HR7 := Lib.hid hr7
  clear hev hr7
  obtain ⟨-, b0, b1, -, -⟩ := HB7.out
  obtain ⟨-, e0, e1, -, -⟩ := HD7.out
  go_wp2_with fail
  refine (C25.out _).mono ?_
  rintro e w8 ⟨rfl, hev⟩
  have HE8 := Lib.hid ((HE7.out.step hev).alloc (oR vf vt))
  have HB8 := Lib.hid ((HB7.out.ev hev).ev ((Ev.refl _).alloc (oR vf vt)))
  have HD8 := Lib.hid ((HD7.out.ev hev).ev ((Ev.refl _).alloc (oR vf vt)))
  have HP8 := Lib.hid (B2.new w8 vf vt)
  have HR58 := Lib.hid ((HR57.out.ev hev).ev ((Ev.refl _).alloc (oR vf vt)))
  have HR68 := Lib.hid ((HR67.out.ev hev).ev ((Ev.refl _).alloc (oR vf vt)))
  have HR78 := Lib.hid ((HR7.out.ev hev).ev ((Ev.refl _).alloc (oR vf vt)))
  clear hev b0 b1 e0 e1
  go_upto_region 11 with fail
  generalize (w8.alloc (oR vf vt)) = w9 at *
  generalize w8.heap.size = p14 at *
  obtain ⟨-, b0, b1, -, -⟩ := HB8.out
  obtain ⟨-, e0, e1, -, -⟩ := HD8.out
  go_wp2_with fail
  refine (C26.out _).mono ?_
  rintro e w10 ⟨rfl, hev⟩
  have HE10 := Lib.hid ((HE8.out.step hev).alloc (oR vf vt))
  have HP10 := Lib.hid ((HP8.out.ev hev).ev ((Ev.refl _).alloc (oR vf vt)))
  have HQ10 := Lib.hid (B2.new w10 vf vt)
  have HR510 := Lib.hid ((HR58.out.ev hev).ev ((Ev.refl _).alloc (oR vf vt)))
  have HR610 := Lib.hid ((HR68.out.ev hev).ev ((Ev.refl _).alloc (oR vf vt)))
  have HR710 := Lib.hid ((HR78.out.ev hev).ev ((Ev.refl _).alloc (oR vf vt)))
  clear hev b0 b1 e0 e1
  go_upto_region 12 with fail
  generalize (w10.alloc (oR vf vt)) = w11 at *
  generalize w10.heap.size = p17 at *
  go_wp2_with fail
  refine (sameI A6 A7 c6 c7 L _ HR610.out HR710.out).mono ?_
  rintro e w12 ⟨rfl, hev⟩
  have HE12 := Lib.hid (HE10.out.step hev)
  have HP12 := Lib.hid (HP10.out.ev hev)
  have HQ12 := Lib.hid (HQ10.out.ev hev)
  have HR512 := Lib.hid (HR510.out.ev hev)
  clear hev
  obtain ⟨-, b0, b1, -, -⟩ := HP12.out
  obtain ⟨-, e0, e1, -, -⟩ := HQ12.out
  have heq := HEQ.out
  go_wp2_with fail
  refine (sameP A5 A c5 cap l _ HR512.out (HR.out.ev HE12.out)).mono ?_
  rintro e w13 ⟨rfl, hev⟩
  have HE13 := Lib.hid (HE12.out.step hev)
  clear hev b0 b1 e0 e1 heq
  go_wp2_with fail
  refine (awake_any _).mono ?_
  rintro e w14 ⟨rfl, hev⟩
  have HE14 := Lib.hid (HE13.out.step hev)
  clear hev
  go_wp2_with fail
  go_ret
  exact ⟨rfl, HE14.out⟩
set_option maxRecDepth 100000 in
theorem ranges_big (a b c d : Int) (A : Option Addr) (n cap : Nat) (w : World) (hn : 70 < n) (hm : (n : Int) ≤ 9223372036854775807) :
    Calls Try.prog 4 #[rg a b, rg c d, .slice A n cap] w fun e w' => e = .returned (.bool true) ∧ Ev w w' := by
  have HBB := Lib.hid (two_new w a b c d)
  have d1 : decide ((70 : Int) < (n : Int)) = true := decide_eq_true (by omega)
  have d2 : decide (70 < n) = true := decide_eq_true hn
  go_enter Try.func4, Try.ntmps4
  go_wp2_with fail
  refine (awake_any _).mono ?_
  rintro e w14 ⟨rfl, hev⟩
  have HE14 := Lib.hid (HBB.out.2.2.step hev)
  clear hev
  go_wp2_with fail
  go_ret
  exact ⟨rfl, HE14.out⟩
end Go.Proofs.Ytpgghbabhgfchaa
