import Derived.Test.YtabojlbodjfphaaL6
import Derived.Deep.Cut
namespace Go.Proofs.Ytabojlbodjfphaa
open Go.RowKit Go.Shelf
theorem obs_ok {f : Int} (u : Nat) (h0 : 0 ≤ f) (h1 : f < 256) : obs f u = obK f u 8 := by unfold obs; rw [show ckE f = 0 from if_pos ⟨h0, h1⟩, if_neg (by decide)]
theorem al_ok {f : Int} {u : Nat} (h0 : 0 ≤ f) (h1 : f < 256) (hu : u < 255) : alV f u = .tuple #[sl f (nx u), .int .i64 (f * 8 + lo u), .int .i64 0] := by
  unfold alV
  rw [show ckE f = 0 from if_pos ⟨h0, h1⟩, if_neg (by decide), if_neg (by omega)]
set_option maxRecDepth 100000 in
set_option maxHeartbeats 8000000 in
theorem undo_law (n : Int) (w : World) (hn0 : -9223372036854775808 ≤ n) (hn1 : n ≤ 9223372036854775807) : Calls Try.prog 7 #[.int .i64 n] w fun e w' => e = .returned (.bool true) ∧ Ev w w' := by
  have M := Lib.hid (made_any n w hn0 hn1)
  have AW := Lib.hid awake_any
  clear hn0 hn1
  go_enter Try.func7, Try.ntmps7
  go_wp2_with fail
  refine M.out.mono ?_
  rintro e w1 ⟨f, u, rfl, ⟨f0, f1, hu⟩, hev⟩
  have HX := Lib.hid (BS.new w1 f u)
  have HE := Lib.hid (hev.alloc (slO f u))
  clear hev M
  have OB : Hid (∀ v, v < 256 → ∀ W, Calls Try.prog 20 #[sl f v] W fun e w' => ∃ A cap, e = .returned (.tuple #[.slice A (cn v) cap, .int .i64 0]) ∧ RdI w' A (obK f v 8) ∧ Ev W w') := Lib.hid fun v hv W => by
    have h := objectsR f v W hv
    rw [obs_ok v f0 f1, obK_cn f hv, show ckE f = 0 from if_pos ⟨f0, f1⟩] at h
    exact h
  have CN : Hid (∀ W, Calls Try.prog 14 #[sl f u] W fun e w' => e = .returned (.tuple #[.int .i64 (cn u : Int), .int .i64 0]) ∧ Ev W w') := Lib.hid fun W => by
    have h := Count_any f u W hu
    rw [show ckE f = 0 from if_pos ⟨f0, f1⟩] at h
    exact h
  have AL : Hid (∀ v W, v < 256 → Calls Try.prog 16 #[sl f v] W fun e w' => e = .returned (alV f v) ∧ Ev W w') := Lib.hid fun v W hv => alloc_any f v W hv
  have FR : Hid (∀ v o W, v < 256 → Calls Try.prog 18 #[sl f v, .int .i64 o] W fun e w' => e = .returned (frV f v o) ∧ Ev W w') := Lib.hid fun v o W hv => free_any f v o W hv
  have OBu := Lib.hid (OB.out u hu)
  obtain ⟨-, hc8, hc0, hcf⟩ := cnF ⟨u, hu⟩
  simp only at hc8 hc0 hcf
  have hlen := obK_cn f hu
  have OBn : Hid (u < 255 → ∀ W, Calls Try.prog 20 #[sl f (nx u)] W fun e w' => ∃ A cap, e = .returned (.tuple #[.slice A (cn u + 1) cap, .int .i64 0]) ∧ RdI w' A (obK f (nx u) 8) ∧ Ev W w') := Lib.hid fun h W => by
    have hh := OB.out (nx u) (nx_lt h) W
    rw [(highF ⟨u, hu⟩ h).1] at hh
    exact hh
  have hlenn : u < 255 → (obK f (nx u) 8).length = cn u + 1 := fun h => by rw [obK_cn f (nx_lt h), (highF ⟨u, hu⟩ h).1]
  generalize cn u = cc at *
  have hc8' : (cc : Int) ≤ 8 := by omega
  have ecn : ((cc : Int) != (cc : Int)) = false := by simp
  have hd8 : decide ((8 : Int) < (cc : Int)) = false := decide_eq_false (by omega)
  obtain ⟨l1, c1, c2, -, -⟩ := HX.out
  go_wp2_with fail
  refine (OBu.out _).mono ?_
  rintro e w2 ⟨A, cap, rfl, hr, hev⟩
  have HX := Lib.hid (HX.out.ev hev)
  have HE := Lib.hid (HE.out.step hev)
  have HR := Lib.hid hr
  clear hev hr l1 c1 c2
  obtain ⟨l1, c1, c2, -, -⟩ := HX.out
  go_wp2_with fail
  refine (CN.out _).mono ?_
  rintro e w3 ⟨rfl, hev⟩
  have HX := Lib.hid (HX.out.ev hev)
  have HE := Lib.hid (HE.out.step hev)
  have HR := Lib.hid (HR.out.ev hev)
  clear hev l1 c1 c2
  have hz3 : w1.heap.size < w3.heap.size := HX.out.1
  go_upto_if 48 with fail
  go_cut [] from 17 (fun wc => Ev w3 wc)
  case first =>
    rcases Nat.eq_zero_or_pos u with hu0 | hu0
    · have hc00 : cc = 0 := hc0.2 hu0
      clear hc0 hcf hc8 hu0
      subst hc00
      go_wp2_with fail
      go_meet
      exact Ev.refl _
    · have hpos : (0 : Int) < (cc : Int) := by have := fun h => (show u ≠ 0 by omega) (hc0.1 h); omega
      obtain ⟨t1, t2, t3, t4, t5, t6, t7⟩ := lowF ⟨u, hu⟩ (by simp only []; omega)
      simp only at t1 t2 t3 t4 t5 t6 t7
      obtain ⟨rest, hrest⟩ : ∃ rest, plsN u 8 = tz u :: rest := by
        rcases hp : plsN u 8 with _ | ⟨a, r⟩
        · rw [hp] at t1; simp at t1
        · rw [hp] at t1; simp at t1; exact ⟨r, by rw [t1]⟩
      have hg0 : (obK f u 8).getD 0 0 = f * 8 + (tz u : Int) := by unfold obK; rw [hrest]; rfl
      obtain ⟨b, o, rfl, hb, d1⟩ := HR.out.2 0 (by rw [hlen]; omega)
      rw [hg0] at d1
      have HFR : Hid (∀ W, Calls Try.prog 18 #[sl f u, .int .i64 (f * 8 + (tz u : Int))] W fun e w' => e = .returned (.tuple #[sl f (u - 2 ^ tz u), .int .i64 0]) ∧ Ev W w') := Lib.hid fun W => by
        have h := FR.out u (f * 8 + (tz u : Int)) W hu
        rw [free_ok f0 f1 t2 t3] at h
        exact h
      have HAL : Hid (∀ W, Calls Try.prog 16 #[sl f (u - 2 ^ tz u)] W fun e w' => e = .returned (.tuple #[sl f (nx (u - 2 ^ tz u)), .int .i64 (f * 8), .int .i64 0]) ∧ Ev W w') := Lib.hid fun W => by
        have h := AL.out (u - 2 ^ tz u) W (by omega)
        rw [al_ok f0 f1 t6, t4] at h
        simpa using h
      have ht7 := Lib.hid t7
      generalize nx (u - 2 ^ tz u) = z at *
      generalize u - 2 ^ tz u = y at *
      generalize tz u = t at *
      clear t1 t3 t4 t7 hrest hg0 hc0 hcf
      obtain ⟨l1, c1, c2, -, -⟩ := HX.out
      have e0 : 0 < cc := by omega
      have i1 : o + 0 = o := rfl
      rw [Nat.add_zero] at d1
      go_upto_region 7 with fail
      go_cut [8, 9] from 17 (fun s8 s9 wd => ∃ b8, s8 = .pointer (some ⟨b8, 0, none⟩) ∧ s9 = .int .i64 0 ∧ BS wd b8 f y ∧ Ev w3 wd)
      case first =>
        have HS : Hid (∀ W, Ev w3 W → (((W.cell? ⟨w1.heap.size, 0, none⟩ = some (.int .i64 f) ∧ W.cell? ⟨w1.heap.size, 1, none⟩ = some (.int .u8 (u : Int))) ∧ W.cell? ⟨b, o, none⟩ = some (.int .i64 (f * 8 + (t : Int)))) ∧ Ev w3 W)) := Lib.hid fun W e => ⟨⟨⟨(HX.out.ev e).2.1, (HX.out.ev e).2.2.1⟩, by rw [e.cell (p := ⟨b, o, none⟩) hb]; exact d1⟩, e⟩
        have HFX : Hid (∀ W, Ev w3 W → Calls Try.prog 18 #[sl f u, .int .i64 (f * 8 + (t : Int))] W fun e w' => e = .returned (.tuple #[sl f y, .int .i64 0]) ∧ Ev w3 w' ∧ Ev W w') := Lib.hid fun W e => (HFR.out W).mono fun _ _ hh => ⟨hh.1, e.step hh.2, hh.2⟩
        have hev := Ev.refl w3
        go_region_held3 (fun W => ((W.cell? ⟨w1.heap.size, 0, none⟩ = some (.int .i64 f) ∧ W.cell? ⟨w1.heap.size, 1, none⟩ = some (.int .u8 (u : Int))) ∧ W.cell? ⟨b, o, none⟩ = some (.int .i64 (f * 8 + (t : Int)))) ∧ Ev w3 W)
          (first | (refine HS.out _ ?_; repeat (first | (with_reducible assumption) | (with_reducible refine Ev.drew ?_) | (with_reducible refine Ev.alloc ?_ _) | (with_reducible refine Ev.setC ?_ (by first | (with_reducible assumption) | (simp only []; with_reducible assumption) | (have := Ev.sz hev; simp <;> omega)) _))))
          (first | (go_at_call 18; refine (HFX.out _ (by repeat (first | (with_reducible assumption) | (with_reducible refine Ev.drew ?_) | (with_reducible refine Ev.alloc ?_ _)))).mono ?_; rintro e w' ⟨rfl, hev2, hev3⟩; obtain ⟨hcc, hff⟩ := bc hev3; have hz := hev3.sz; clear hev; have hev := hev2; clear hev2 hev3))
        all_goals go_wp2_with fail
        all_goals go_meet
        all_goals
          first
            | exact ⟨_, rfl, rfl, BS.new _ _ _, hev.alloc _⟩
            | (have hb' : BS w' w3.heap.size 0 0 := ⟨by simp at hz; omega, by rw [hcc _ _ (by simp)]; simp, by rw [hcc _ _ (by simp)]; simp, by rw [hff _ _ (by simp)]; simp, by rw [hff _ _ (by simp)]; simp⟩
               exact ⟨_, rfl, rfl, BS.set hb' f y, (hev.setC (by simp) _).setC (by simp) _⟩)
      case rest =>
        generalize wc = w4 at *
        obtain ⟨b8, rfl, rfl, hb8, hev⟩ := hcut
        have HX4 := Lib.hid (HX.out.ev hev)
        have HY4 := Lib.hid hb8
        have HE4 := Lib.hid hev
        have d4 : w4.cell? ⟨b, o, none⟩ = some (.int .i64 (f * 8 + (t : Int))) := by rw [hev.cell (p := ⟨b, o, none⟩) hb]; exact d1
        have hb4 := Nat.lt_of_lt_of_le hb hev.sz
        clear l1 c1 c2 d1 hb8 hev HFR
        obtain ⟨l2, x1, x2, -, -⟩ := HY4.out
        go_wp2_with fail
        refine (HAL.out _).mono ?_
        rintro e w5 ⟨rfl, hev⟩
        have HX5 := Lib.hid ((HX4.out.ev hev).ev ((Ev.refl _).alloc (slO f z)))
        have HZ5 := Lib.hid (BS.new w5 f z)
        have HE5 := Lib.hid ((HE4.out.step hev).alloc (slO f z))
        have d5 : (w5.alloc (slO f z)).cell? ⟨b, o, none⟩ = some (.int .i64 (f * 8 + (t : Int))) := by rw [(((Ev.refl w4).step hev).alloc (slO f z)).cell (p := ⟨b, o, none⟩) hb4]; exact d4
        have hb5 : b < w5.heap.size := Nat.lt_of_lt_of_le hb4 hev.sz
        have hx5 : w1.heap.size < w5.heap.size := Nat.lt_of_lt_of_le HX4.out.1 hev.sz
        have d6 : w5.cell? ⟨b, o, none⟩ = some (.int .i64 (f * 8 + (t : Int))) := by rw [hev.cell (p := ⟨b, o, none⟩) hb4]; exact d4
        obtain ⟨-, y1, y2, -, -⟩ := HX4.out.ev hev
        clear hev l2 x1 x2 d4 d5
        rcases Nat.eq_zero_or_pos t with ht0 | htp
        · obtain rfl : z = u := ht7.out ht0
          subst ht0
          rw [Int.natCast_zero, Int.add_zero] at d6
          have g1 : decide (f * 8 < f * 8) = false := decide_eq_false (by omega)
          have g2 : (f * 8 == f * 8) = true := by simp
          have g3 : (f != f) = false := by simp
          go_wp2_with fail
          go_meet
          exact HE5.out
        · have g1 : decide (f * 8 + (t : Int) < f * 8) = false := decide_eq_false (by omega)
          have g2 : (f * 8 == f * 8 + (t : Int)) = false := by simp; omega
          go_wp2_with fail
          go_meet
          exact HE5.out
  case rest =>
    generalize wc = w4 at *
    have HXr := Lib.hid (HX.out.ev hcut)
    have HEr := Lib.hid (HE.out.step hcut)
    have HRr := Lib.hid (HR.out.ev hcut)
    clear hcut
    obtain ⟨l1, c1, c2, -, -⟩ := HXr.out
    rcases (show u = 255 ∨ u < 255 by omega) with h255 | h255
    · have hcc8 : cc = 8 := hcf.2 h255
      subst h255
      subst hcc8
      have HA : Hid (∀ W, Calls Try.prog 16 #[sl f 255] W fun e w' => e = .returned (.tuple #[sl 0 0, .int .i64 0, .int .i64 5]) ∧ Ev W w') := Lib.hid fun W => by
        have h := AL.out 255 W (by omega)
        unfold alV at h
        rw [show ckE f = 0 from if_pos ⟨f0, f1⟩, if_neg (by decide), if_pos rfl] at h
        exact h
      have HST : Hid (∀ W, Calls Try.prog 32 #[sl f 255, .int .i64 3] W fun e w' => e = .returned (.bool true) ∧ Ev W w') := Lib.hid fun W => by
        have h := state_any f 3 255 W
        rw [show ckE f = 0 from if_pos ⟨f0, f1⟩] at h
        exact h
      clear hcf hc0 hc8 hlenn OBn AL FR OB OBu CN hlen
      go_wp2_with fail
      refine (HA.out _).mono ?_
      rintro e w5 ⟨rfl, hev⟩
      have HX := Lib.hid ((HXr.out.ev hev).ev ((Ev.refl _).alloc (slO 0 0)))
      have HE := Lib.hid ((HEr.out.step hev).alloc (slO 0 0))
      have hx5 : w1.heap.size < w5.heap.size := Nat.lt_of_lt_of_le l1 hev.sz
      have HX5 := Lib.hid (HXr.out.ev hev)
      clear hev l1 c1 c2
      obtain ⟨l1, c1, c2, -, -⟩ := HX5.out
      go_wp2_with fail
      refine (HST.out _).mono ?_
      rintro e w6 ⟨rfl, hev⟩
      have HE := Lib.hid (HE.out.step hev)
      clear hev l1 c1 c2
      go_wp2_with fail
      refine (AW.out _).mono ?_
      rintro e w7 ⟨rfl, hev⟩
      have hE := HE.out.step hev
      go_wp2_with fail
      go_ret
      exact ⟨rfl, hE⟩
    · have hcc8 : ((cc : Int) == 8) = false := by have := fun h => (show u ≠ 255 by omega) (hcf.1 h); simp; omega
      obtain ⟨-, q1, q2, q3, q4, q5⟩ := highF ⟨u, hu⟩ h255
      simp only at q1 q2 q3 q4 q5
      have hlo := lo8 h255
      have HA : Hid (∀ W, Calls Try.prog 16 #[sl f u] W fun e w' => e = .returned (.tuple #[sl f (nx u), .int .i64 (f * 8 + lo u), .int .i64 0]) ∧ Ev W w') := Lib.hid fun W => by
        have h := AL.out u W hu
        rwa [al_ok f0 f1 h255] at h
      have HF : Hid (∀ W, Calls Try.prog 18 #[sl f (nx u), .int .i64 (f * 8 + lo u)] W fun e w' => e = .returned (.tuple #[sl f u, .int .i64 0]) ∧ Ev W w') := Lib.hid fun W => by
        have h := FR.out (nx u) (f * 8 + lo u) W (nx_lt h255)
        rwa [free_ok f0 f1 hlo q4, q5] at h
      have HO := Lib.hid (OBn.out h255)
      have hlen2 := hlenn h255
      have m1 : f * 8 + (lo u : Int) ∉ obK f u 8 := fun h => by have := (ob_mem f u _).1 h; simp [this] at q1
      have m2 : f * 8 + (lo u : Int) ∈ obK f (nx u) 8 := (ob_mem f (nx u) _).2 (by simpa using q2)
      have m3 : ∀ j, j < cc → (obK f u 8).getD j 0 ∈ obK f (nx u) 8 := fun j hj => by
        have hj' : j < (plsN u 8).length := by have := hlen; unfold obK at this; rw [List.length_map] at this; omega
        have e : (obK f u 8).getD j 0 = f * 8 + (((plsN u 8)[j]'hj' : Nat) : Int) := by unfold obK; simp [List.getD, hj']
        rw [e]
        refine (ob_mem f (nx u) _).2 ?_
        have := List.all_eq_true.1 q3 _ (List.getElem_mem hj')
        simpa using this
      have HM1 := Lib.hid m1
      have HM2 := Lib.hid m2
      have HM3 := Lib.hid m3
      clear m1 m2 m3 q1 q2 q3 q4 q5 hlenn OBn AL FR OB OBu CN hcf hc0
      generalize obK f (nx u) 8 = L2 at *
      generalize obK f u 8 = L1 at *
      generalize nx u = u2 at *
      generalize f * 8 + (lo u : Int) = m at *
      go_wp2_with fail
      refine (HA.out _).mono ?_
      rintro e w5 ⟨rfl, hev⟩
      have HX := Lib.hid ((HXr.out.ev hev).ev ((Ev.refl _).alloc (slO f u2)))
      have HY := Lib.hid (BS.new w5 f u2)
      have HE := Lib.hid ((HEr.out.step hev).alloc (slO f u2))
      have HR := Lib.hid ((HRr.out.ev hev).ev ((Ev.refl _).alloc (slO f u2)))
      have hx5 : w1.heap.size < w5.heap.size := Nat.lt_of_lt_of_le l1 hev.sz
      clear hev l1 c1 c2
      obtain ⟨l2, y1, y2, -, -⟩ := HY.out
      go_wp2_with fail
      refine (HO.out _).mono ?_
      rintro e w6 ⟨A2, cap2, rfl, hr2, hev⟩
      have HX := Lib.hid (HX.out.ev hev)
      have HY := Lib.hid (HY.out.ev hev)
      have HE := Lib.hid (HE.out.step hev)
      have HR := Lib.hid (HR.out.ev hev)
      have HR2 := Lib.hid hr2
      clear hev l2 y1 y2 hr2
      obtain ⟨l2, y1, y2, -, -⟩ := HY.out
      go_wp2_with fail
      refine (HF.out _).mono ?_
      rintro e w7 ⟨rfl, hev⟩
      have HX := Lib.hid ((HX.out.ev hev).ev ((Ev.refl _).alloc (slO f u)))
      have HZ := Lib.hid (BS.new w7 f u)
      have HE := Lib.hid ((HE.out.step hev).alloc (slO f u))
      have HR := Lib.hid ((HR.out.ev hev).ev ((Ev.refl _).alloc (slO f u)))
      have HR2 := Lib.hid ((HR2.out.ev hev).ev ((Ev.refl _).alloc (slO f u)))
      have hx7 : w1.heap.size < w7.heap.size := by have := hev.sz; omega
      clear hev l2 y1 y2
      go_upto_region 16 with fail
      obtain ⟨W, hW⟩ : ∃ W, W = w7.alloc (slO f u) := ⟨_, rfl⟩
      rw [← hW]
      rw [← hW] at HX HZ HE HR HR2
      obtain ⟨l1, c1, c2, -, -⟩ := HX.out
      obtain ⟨l3, z1, z2, -, -⟩ := HZ.out
      have g3 : (f != f) = false := by simp
      have g4 : ((u : Int) != (u : Int)) = false := by simp
      have HH1 : Hid (Calls Try.prog 35 #[.slice A cc cap, .int .i64 m] W fun e w' => e = .returned (.bool false) ∧ Ev W w') := Lib.hid (by have h := has_out A cap L1 m W HR.out HM1.out; rwa [hlen] at h)
      have HH2 : Hid (∀ W', Ev W W' → Calls Try.prog 35 #[.slice A2 (cc + 1) cap2, .int .i64 m] W' fun e w' => e = .returned (.bool true) ∧ Ev W' w') := Lib.hid fun W' e => (by have h := has_in A2 cap2 L2 m W' (HR2.out.ev e) HM2.out; rwa [hlen2] at h)
      have HH3 : Hid (∀ j, j < cc → ∀ W', Ev W W' → Calls Try.prog 35 #[.slice A2 (cc + 1) cap2, .int .i64 (L1.getD j 0)] W' fun e w' => e = .returned (.bool true) ∧ Ev W' w') := Lib.hid fun j hj W' e => (by have h := has_in A2 cap2 L2 (L1.getD j 0) W' (HR2.out.ev e) (HM3.out j hj); rwa [hlen2] at h)
      have g5 : ((cc : Int) + 1 != (cc : Int) + 1) = false := by simp
      have g6 : IntKind.i64.wrap ((cc : Int) + 1) = (cc : Int) + 1 := IntWalk.i64_in _ (by omega)
      have HLT : Hid (∀ j, j < cc → ∀ W', Ev W W' → ∃ b o, A = some ⟨b, o, none⟩ ∧ W'.cell? ⟨b, o + j, none⟩ = some (.int .i64 (L1.getD j 0))) := Lib.hid fun j hj W' e => by
        obtain ⟨b, o, h1, h2, h3⟩ := (HR.out.ev e).2 j (by rw [hlen]; exact hj)
        exact ⟨b, o, h1, h3⟩
      clear hlen hlen2 HR HR2 HM1 HM2 HM3 HO HF HA HY hW
      go_wp2_with fail
      refine HH1.out.mono ?_
      rintro e w8 ⟨rfl, hev⟩
      have HE8 := Lib.hid hev
      clear hev l1 c1 c2 l3 z1 z2
      go_wp2_with fail
      refine (HH2.out _ HE8.out).mono ?_
      rintro e w9 ⟨rfl, hev⟩
      have HE9 := Lib.hid (HE8.out.step hev)
      clear hev
      go_wp2_with fail
      go_loopw [18] (fun i wr => ∃ k : Nat, k ≤ cc ∧ i = .int .i64 k ∧ Ev W wr) (fun i _ => cc - (intOf i).toNat)
      case atStart => exact ⟨0, by omega, rfl, HE9.out⟩
      case round =>
        obtain ⟨k, hk, rfl, hev⟩ := hrel
        have HEV := Lib.hid hev
        clear hev
        by_cases hlt : k < cc
        · obtain ⟨b', o', rfl, d1⟩ := HLT.out k hlt _ HEV.out
          have HK := Lib.hid (HH3.out k hlt)
          have hlt' : (k : Int) < (cc : Int) := by omega
          have hk0 : 0 ≤ (k : Int) := by omega
          generalize L1.getD k 0 = q at *
          go_wp2_with fail
          refine (HK.out _ HEV.out).mono ?_
          rintro e w10 ⟨rfl, hev⟩
          have HE10 := Lib.hid (HEV.out.step hev)
          clear hev d1
          go_wp2_with fail
          go_roundw
          case rel => exact ⟨k + 1, by omega, by go_num, HE10.out⟩
          case measure => simp [intOf]; omega
        · obtain rfl : k = cc := by omega
          go_wp2_with fail
          refine (AW.out _).mono ?_
          rintro e w10 ⟨rfl, hev⟩
          have hE := HE.out.step (HEV.out.step hev)
          go_wp2_with fail
          go_ret
          exact ⟨rfl, hE⟩
end Go.Proofs.Ytabojlbodjfphaa
