import Derived.Test.YtdkfedbjbcaajaaDoorR9
namespace Go.Proofs.YtdkfedbjbcaajaaDoor
open Go.RowKit
theorem wp_nd {W : World} {b : Nat} {D : Nat → Int} (h : RowD W b D) (m : Nat) : RowD (W.drewN m) b D := h.of_block (by induction m with | zero => rfl | succ m ih => exact ih)
set_option maxRecDepth 100000 in
set_option maxHeartbeats 8000000 in
theorem rpath_ok (f t : Nat) (w : World) (hf : f < 8) (ht : t < 8) (hr : rch f t = true) :
    Calls Tryd.prog 15 #[.int .i64 (f : Int), .int .i64 (t : Int)] w fun e w' => ∃ v, e = .returned (.tuple #[v, .int .i64 0]) ∧ OwnI w' w.heap.size v (pathL f t) ∧ Ev w w' := by
  obtain ⟨i0, hi0, hz0, hz1, hz2⟩ := info_parts info3
  obtain ⟨hp1, -, -⟩ := pathF ⟨f, hf⟩ ⟨t, ht⟩ hr
  obtain ⟨hq1, hq2, hq3⟩ := rsF ⟨f, hf⟩ ⟨t, ht⟩ hr
  simp only [] at hp1 hq1 hq2 hq3
  have HP1 := Lib.hid hp1
  have HQ1 := Lib.hid hq1
  have HQ2 := Lib.hid hq2
  have HQ3 : Hid (∀ n, n < pl f t → (rs f t n < 8 ∧ rs f t n ≠ t ∧ nxt t (rs f t n) < 8 ∧ 0 ≤ DT (rs f t n) t ∧ DT (rs f t n) t ≤ 8 ∧ mb (rs f t n) (nxt t (rs f t n)) = true ∧ DT (nxt t (rs f t n)) t = DT (rs f t n) t - 1)) := Lib.hid fun n hn => hq3 ⟨n, by omega⟩ hn
  have HNX : Hid (∀ r k, r < 8 → k < 8 → k < nxt t r → ¬ (mb r k = true ∧ DT k t = DT r t - 1)) := Lib.hid fun r k h1 h2 h3 => nxF ⟨r, h1⟩ ⟨t, ht⟩ ⟨k, h2⟩ h3
  have HDT : Hid (∀ k, k < 8 → dis t k = DT k t) := Lib.hid fun k hk => disF ⟨k, hk⟩ ⟨t, ht⟩
  have HDB : Hid (∀ k, k < 8 → -1 ≤ DT k t ∧ DT k t ≤ 8) := Lib.hid fun k hk => DTb ⟨k, hk⟩ ⟨t, ht⟩
  have hd0 : 0 ≤ DT f t := by unfold DT; rw [if_pos hr]; omega
  have C1 := Lib.hid (fun W => is_any (f : Int) W)
  have C2 := Lib.hid (fun W => is_any (t : Int) W)
  have e1 : isR (f : Int) = true := by unfold isR; simp; omega
  have e2 : isR (t : Int) = true := by unfold isR; simp; omega
  rw [e1] at C1
  rw [e2] at C2
  have CD := Lib.hid (dist_any t w ht)
  have hf0 : (0 : Int) ≤ (f : Int) := by omega
  have hf8 : (f : Int) < 8 := by omega
  clear e1 e2 hp1 hq1 hq2 hq3
  go_enter Tryd.func15, Tryd.ntmps15
  go_wp2_with fail
  refine (C1.out _).mono ?_
  rintro e w1 ⟨rfl, rfl⟩
  go_wp2_with fail
  refine (C2.out _).mono ?_
  rintro e w1 ⟨rfl, rfl⟩
  go_wp2_with fail
  refine CD.out.mono ?_
  rintro e w2 ⟨rfl, hrow, hev⟩
  have HRW := Lib.hid hrow
  have HE := Lib.hid hev
  have HSZ : Hid (w.heap.size + 1 ≤ w2.heap.size) := Lib.hid (by have := hrow.lt; omega)
  have c0 := hrow.cell hf
  rw [HDT.out f hf] at c0
  clear hrow hev
  generalize DT f t = df at *
  go_wp2_with fail
  clear c0
  go_loopg [7, 8] (pl f t) (fun gh p r wr => ∃ n : Nat, gh + n = pl f t ∧ r = .int .i64 (rs f t n : Int) ∧ OwnI wr (w.heap.size + 1) p (racc f t n) ∧ RowD wr w.heap.size (dis t) ∧ Ev w wr ∧ w.heap.size + 1 ≤ wr.heap.size)
  case atStart => exact ⟨0, rfl, rfl, nil_own _ _, HRW.out, HE.out, HSZ.out⟩
  case round =>
    obtain ⟨n, hg, rfl, hown, hrow, hev, hsz⟩ := hrel
    have HG := Lib.hid hg
    have HO := Lib.hid hown
    have HR := Lib.hid hrow
    have HV := Lib.hid hev
    have HS := Lib.hid hsz
    clear hown hrow hev hsz hg HRW HE HSZ
    by_cases hn : n < pl f t
    · obtain ⟨q1', q2', q3', q4', q5', q6', q7'⟩ := HQ3.out n hn
      have HRS : Hid (rs f t (n + 1) = nxt t (rs f t n)) := Lib.hid rfl
      have HAC := Lib.hid (racc_IV f t n)
      have HAL := Lib.hid (racc_len f t (n + 1))
      have HIV : Hid (wr.ownsRow (w.heap.size + 1) 3 1 u7 n (IV (racc f t n))) := Lib.hid (by have h := HO.out; unfold OwnI at h; rwa [racc_len] at h)
      obtain ⟨g1, hg1⟩ : ∃ g1, g1 + 1 = gk := ⟨gk - 1, by have := HG.out; omega⟩
      have HG1x := Lib.hid hg1
      have hn4 : n ≤ 4 := by have := HP1.out; omega
      have hne : ¬ (rs f t n : Int) = (t : Int) := by omega
      have HN := Lib.hid hn
      clear hg1 hn
      have HK : Hid (∀ k, k < nxt t (rs f t n) → ¬ (mb (rs f t n) k = true ∧ DT k t = DT (rs f t n) t - 1)) := Lib.hid fun k hk => HNX.out _ k q1' (by omega) hk
      have cr := HR.out.cell q1'
      rw [HDT.out _ q1'] at cr
      generalize rs f t n = r at *
      rw [HRS.out] at HAC
      generalize hnx : nxt t r = nx at *
      generalize hdr : DT r t = dr at *
      have hr0 : (0 : Int) ≤ (r : Int) := by omega
      have hr8 : (r : Int) < 8 := by omega
      have HCR := Lib.hid cr
      have H8 := Lib.hid q1'
      have H9 := Lib.hid q3'
      have HM6 := Lib.hid q6'
      have HD7 := Lib.hid q7'
      clear cr q1' q2' q3' q6' q7' hnx hdr
      go_wp2_with fail
      go_loopg [9] nx (fun gh v W => ∃ k : Nat, gh + k = nx ∧ v = .int .i64 k ∧ ∃ m, W = wr.drewN m)
      case atStart => exact ⟨0, by omega, rfl, 0, rfl⟩
      case round =>
        obtain ⟨k, hg, rfl, m, rfl⟩ := hrel
        have HGK := Lib.hid hg
        have hk8 : k < 8 := by have := H9.out; omega
        have hk0 : (0 : Int) ≤ (k : Int) := by omega
        have hk8' : (k : Int) < 8 := by omega
        have CM : Hid (∀ W, Calls Tryd.prog 40 #[.int .i64 (r : Int), .int .i64 (k : Int)] W fun e w' => e = .returned (.bool (mb r k)) ∧ W = w') := Lib.hid fun W => rmay_any r k W H8.out hk8
        have cr := HCR.out
        have ck := HR.out.cell hk8
        rw [HDT.out _ hk8] at ck
        by_cases hlt : k < nx
        · have hno := HK.out k hlt
          have HLT := Lib.hid hlt
          clear hg hlt
          by_cases hm : mb r k = true
          · have hdk : ¬ DT k t = dr - 1 := fun h => hno ⟨hm, h⟩
            rw [hm] at CM
            obtain ⟨b1, b2⟩ := HDB.out k hk8
            generalize DT k t = dk at *
            clear hno hm hk8
            go_wp2_with fail
            go_quiet ((go_at_call 40; first | exact q1 fun W => CM.out W | exact q2 fun W => CM.out W))
            go_wp2_with fail
            go_roundg (gk - 1)
            case rel => exact ⟨k + 1, by have := HGK.out; have := HLT.out; omega, by go_num, _, rfl⟩
            case measure => have := HGK.out; have := HLT.out; omega
          · have hm : mb r k = false := by simpa using hm
            rw [hm] at CM
            clear hno hm hk8 ck cr
            go_wp2_with fail
            go_quiet ((go_at_call 40; first | exact q1 fun W => CM.out W | exact q2 fun W => CM.out W))
            go_wp2_with fail
            go_roundg (gk - 1)
            case rel => exact ⟨k + 1, by have := HGK.out; have := HLT.out; omega, by go_num, _, rfl⟩
            case measure => have := HGK.out; have := HLT.out; omega
        · obtain rfl : k = nx := by have := HGK.out; omega
          rw [HM6.out] at CM
          rw [HD7.out] at ck
          clear hg hlt hk8
          go_wp2_with fail
          go_quiet ((go_at_call 40; first | exact q1 fun W => CM.out W | exact q2 fun W => CM.out W))
          have HR2 : Hid (RowD (wr.drewN (m + nq)) w.heap.size (dis t)) := Lib.hid (wp_nd HR.out _)
          have HV2 : Hid (Ev w (wr.drewN (m + nq))) := Lib.hid (HV.out.drewN _)
          have HS2 : Hid (w.heap.size + 1 ≤ (wr.drewN (m + nq)).heap.size) := Lib.hid (Nat.le_trans HS.out (Ev.sz ((Ev.refl wr).drewN _)))
          have HIV2 : Hid ((wr.drewN (m + nq)).ownsRow (w.heap.size + 1) 3 1 u7 n (IV (racc f t n))) := Lib.hid (((Ev.refl wr).drewN (m + nq)).own HIV.out)
          have H1 := Lib.hid (one_cell (wr.drewN (m + nq)) (.int .i64 (k : Int)) 3)
          have H5 : Hid (w.heap.size + 1 ≤ ((wr.drewN (m + nq)).alloc (.cells #[.int .i64 (k : Int)] 3)).heap.size) := Lib.hid (Nat.le_trans HS2.out (by simp))
          go_wp2_with (at_builtin; go_loud (refine wpList_append_own _ rfl (.tmp 47) (.tmp 49) 25 rfl (w.heap.size + 1) 3 i0 (.int .i64 0) 1 8 Tryd.underlying25 hi0 hz0 hz1 hz2 rfl (by decide) u7 n (IV (racc f t n)) rfl (HIV2.out.alloc _) ⟨(wr.drewN (m + nq)).heap.size, 0, none⟩ 1 1 [.int .i64 (k : Int)] rfl rfl H1.out (by simp [Value.oneCell']) (by unfold maxLen; omega) (by omega) H5.out ?_); intro v1 w4 hown4 hg4 _)
          have HW4 : Hid (Below (w.heap.size + 1) (wr.drewN (m + nq)) w4) := Lib.hid (Below.grown ((Below.refl _ _).alloc HS2.out _) hg4 H5.out (fun g hg => row_ge HIV2.out g hg))
          have HR4 : Hid (RowD w4 w.heap.size (dis t)) := Lib.hid (rowIs_bl HR2.out HW4.out (by omega))
          have HO4 : Hid (OwnI w4 (w.heap.size + 1) v1 (racc f t (n + 1))) := Lib.hid (by unfold OwnI; rw [HAL.out, HAC.out]; exact hown4)
          have HE4 : Hid (Ev w w4) := Lib.hid (Below.trans HV2.out (HW4.out.mono (by omega)))
          clear hown4 hg4
          go_roundg g1
          case rel => exact ⟨n + 1, by have := HG.out; have := HG1x.out; omega, by rw [HRS.out], HO4.out, HR4.out, HE4.out, by have := HW4.out.size; have := HS2.out; omega⟩
          case measure => have := HG1x.out; omega
    · obtain rfl : n = pl f t := by have := HG.out; omega
      have HO2 : Hid (OwnI wr (w.heap.size + 1) u7 (pathL f t)) := Lib.hid (by have h := HO.out; rwa [HQ2.out] at h)
      rw [HQ1.out]
      clear hn
      go_wp2_with fail
      refine bodyPost_ret (v := .tuple #[u7, .int .i64 0]) (by simp [results, Tryd.results15, go_sem]) rfl ⟨_, rfl, own_weaken HO2.out (by omega), HV.out⟩
theorem rpath_no (f t : Nat) (w : World) (hf : f < 8) (ht : t < 8) (hr : rch f t = false) :
    Calls Tryd.prog 15 #[.int .i64 (f : Int), .int .i64 (t : Int)] w fun e w' => e = .returned (.tuple #[.slice none 0 0, .int .i64 14]) ∧ Ev w w' := by
  have HDT : Hid (dis t f = -1) := Lib.hid (by have h := disF ⟨f, hf⟩ ⟨t, ht⟩; simp only [] at h; rw [h]; unfold DT; rw [hr]; rfl)
  have C1 := Lib.hid (fun W => is_any (f : Int) W)
  have C2 := Lib.hid (fun W => is_any (t : Int) W)
  have e1 : isR (f : Int) = true := by unfold isR; simp; omega
  have e2 : isR (t : Int) = true := by unfold isR; simp; omega
  rw [e1] at C1
  rw [e2] at C2
  have CD := Lib.hid (dist_any t w ht)
  have hf0 : (0 : Int) ≤ (f : Int) := by omega
  have hf8 : (f : Int) < 8 := by omega
  clear e1 e2 hr
  go_enter Tryd.func15, Tryd.ntmps15
  go_wp2_with fail
  refine (C1.out _).mono ?_
  rintro e w1 ⟨rfl, rfl⟩
  go_wp2_with fail
  refine (C2.out _).mono ?_
  rintro e w1 ⟨rfl, rfl⟩
  go_wp2_with fail
  refine CD.out.mono ?_
  rintro e w2 ⟨rfl, hrow, hev⟩
  have HE := Lib.hid hev
  have c0 := hrow.cell hf
  rw [HDT.out] at c0
  clear hrow hev
  go_wp2_with fail
  exact bodyPost_ret (v := .tuple #[.slice none 0 0, .int .i64 14]) (by simp [results, Tryd.results15, go_sem]) rfl ⟨rfl, HE.out⟩
theorem rpath_bad (f t : Int) (w : World) (h : okM f t = false) :
    Calls Tryd.prog 15 #[.int .i64 f, .int .i64 t] w fun e w' => e = .returned (.tuple #[.slice none 0 0, .int .i64 14]) ∧ Ev w w' := by
  have C1 := Lib.hid (fun W => is_any f W)
  have C2 := Lib.hid (fun W => is_any t W)
  unfold okM at h
  by_cases h1 : isR f = true
  · have h2 : isR t = false := by rw [h1] at h; simpa using h
    rw [h1] at C1
    rw [h2] at C2
    clear h1 h2 h
    go_enter Tryd.func15, Tryd.ntmps15
    go_wp2_with fail
    refine (C1.out _).mono ?_
    rintro e w1 ⟨rfl, rfl⟩
    go_wp2_with fail
    refine (C2.out _).mono ?_
    rintro e w1 ⟨rfl, rfl⟩
    go_wp2_with fail
    exact bodyPost_ret (v := .tuple #[.slice none 0 0, .int .i64 14]) (by simp [results, Tryd.results15, go_sem]) rfl ⟨rfl, Ev.refl _⟩
  · have h1 : isR f = false := by simpa using h1
    rw [h1] at C1
    clear h1 h
    go_enter Tryd.func15, Tryd.ntmps15
    go_wp2_with fail
    refine (C1.out _).mono ?_
    rintro e w1 ⟨rfl, rfl⟩
    go_wp2_with fail
    exact bodyPost_ret (v := .tuple #[.slice none 0 0, .int .i64 14]) (by simp [results, Tryd.results15, go_sem]) rfl ⟨rfl, Ev.refl _⟩
theorem rPath_any (f t : Int) (w : World) :
    Calls Tryd.prog 15 #[.int .i64 f, .int .i64 t] w fun e w' => ∃ v, e = .returned (.tuple #[v, .int .i64 (pathE f t)]) ∧ OwnI w' w.heap.size v (paths f t) ∧ Ev w w' := by
  unfold pathE paths okP
  by_cases h : okM f t = true
  · have h' := h
    unfold okM at h'
    have h2 := Bool.and_eq_true_iff.1 h'
    obtain ⟨n, hn, rfl⟩ := isR_nat h2.1
    obtain ⟨m, hm, rfl⟩ := isR_nat h2.2
    rw [h]
    simp only [Int.toNat_natCast, Bool.true_and]
    by_cases hr : rch n m = true
    · rw [if_pos hr, if_pos hr]; exact rpath_ok n m w hn hm hr
    · rw [if_neg hr, if_neg hr]
      exact (rpath_no n m w hn hm (by simpa using hr)).mono fun e w' hh => ⟨_, hh.1, nil_own _ _, hh.2⟩
  · have h : okM f t = false := by simpa using h
    rw [h]
    exact (rpath_bad f t w h).mono fun e w' hh => ⟨_, hh.1, nil_own _ _, hh.2⟩
end Go.Proofs.YtdkfedbjbcaajaaDoor
