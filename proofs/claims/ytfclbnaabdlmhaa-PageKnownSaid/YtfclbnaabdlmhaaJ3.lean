import Derived.Test.YtfclbnaabdlmhaaJ2
namespace Go.Proofs.Ytfclbnaabdlmhaa
open Go.RowKit Go.Deep
set_option maxRecDepth 100000 in
set_option maxHeartbeats 4000000 in
theorem parse_long (s : ByteArray) (w : World) (hs : 135 < s.size) : Calls Try.prog 31 #[.string s] w fun e w' => e = .returned (.tuple #[pg (prC s.data.toList), fl (prE s.data.toList) (prA s.data.toList)]) ∧ Ev w w' := by
  have hl : s.data.toList.length = s.size := by rw [Array.length_toList]; rfl
  have e1 : prC s.data.toList = fun _ => 0 := by unfold prC; rw [if_pos (by omega)]
  have e2 : prE s.data.toList = 4 := by unfold prE; rw [if_pos (by omega)]
  have e3 : prA s.data.toList = 135 := by unfold prA; rw [if_pos (by omega)]
  rw [e1, e2, e3]
  have hs' : 135 < (s.size : Int) := by omega
  clear hl e1 e2 e3 hs
  have HR : Hid (Ending.returned (.tuple #[pg (fun _ => 0), fl 4 135]) = .returned (.tuple #[pg (fun _ => 0), fl 4 135])) := Lib.hid rfl
  go_enter Try.func31, Try.ntmps31
  go_wp2_with fail
  go_step3
  go_wp2_with fail
  (try rw [Exit.noGoto_ret])
  refine bodyPost_ret (v := .tuple #[pg (fun _ => 0), fl 4 135]) (by simp [results, Try.results31, go_sem]) rfl ⟨rfl, ?_⟩
  exact (((Ev.refl _).alloc _).alloc _)
set_option maxRecDepth 100000 in
set_option maxHeartbeats 4000000 in
theorem rparse_long (s : ByteArray) (w : World) (hs : 135 < s.size) : Calls Try.prog 32 #[.string s] w fun e w' => e = .returned (.tuple #[pg (prC s.data.toList), fl (prE s.data.toList) (prA s.data.toList)]) ∧ Ev w w' := by
  have hl : s.data.toList.length = s.size := by rw [Array.length_toList]; rfl
  have e1 : prC s.data.toList = fun _ => 0 := by unfold prC; rw [if_pos (by omega)]
  have e2 : prE s.data.toList = 4 := by unfold prE; rw [if_pos (by omega)]
  have e3 : prA s.data.toList = 135 := by unfold prA; rw [if_pos (by omega)]
  rw [e1, e2, e3]
  have hs' : 135 < (s.size : Int) := by omega
  clear hl e1 e2 e3 hs
  have HR : Hid (Ending.returned (.tuple #[pg (fun _ => 0), fl 4 135]) = .returned (.tuple #[pg (fun _ => 0), fl 4 135])) := Lib.hid rfl
  go_enter Try.func32, Try.ntmps32
  go_wp2_with fail
  (try rw [Exit.noGoto_ret])
  refine bodyPost_ret (v := .tuple #[pg (fun _ => 0), fl 4 135]) (by simp [results, Try.results32, go_sem]) rfl ⟨rfl, ?_⟩
  exact (((Ev.refl _).alloc _).alloc _)
theorem rparse_start (w : World) (l : List UInt8) : BP (((w.alloc zO).alloc fO).alloc zO) (w.heap.size + 2) (pv l 0) ∧ (((w.alloc zO).alloc fO).alloc zO).heap[w.heap.size]? = some zO ∧ (((w.alloc zO).alloc fO).alloc zO).heap[w.heap.size + 1]? = some fO ∧ Ev w (((w.alloc zO).alloc fO).alloc zO) := by
  have e2 : ((w.alloc zO).alloc fO).heap.size = w.heap.size + 2 := by simp
  have h2 := BP.new ((w.alloc zO).alloc fO) (fun _ => 0)
  rw [e2] at h2
  refine ⟨h2, ?_, ?_, (((Ev.refl w).alloc _).alloc _ : Ev w _).alloc _⟩
  · exact (heap_alloc_old _ _ (by simp; try omega)).trans ((heap_alloc_old _ _ (by simp)).trans (heap_alloc_new w _))
  · exact (heap_alloc_old _ _ (by simp; try omega)).trans (heap_alloc2_new w _ _)
set_option maxRecDepth 100000 in
set_option maxHeartbeats 8000000 in
theorem rparse_short (s : ByteArray) (w : World) (hs : ¬ 135 < s.size) : Calls Try.prog 32 #[.string s] w fun e w' => e = .returned (.tuple #[pg (prC s.data.toList), fl (prE s.data.toList) (prA s.data.toList)]) ∧ Ev w w' := by
  have hl : s.data.toList.length = s.size := by rw [Array.length_toList]; rfl
  have hs' : (s.size : Int) ≤ 135 := by omega
  have HL := Lib.hid hl
  have hsl : s.data.toList.length ≤ 135 := by omega
  clear hl
  go_enter Try.func32, Try.ntmps32
  go_wp2_with fail
  go_loopw [5] (fun i wr => ∃ k : Nat, k ≤ s.data.toList.length ∧ k ≤ 135 ∧ i = .int .i64 k ∧ (∀ j, j < k → okAt s.data.toList j = true) ∧ BP wr (w.heap.size + 2) (pv s.data.toList k) ∧ wr.heap[w.heap.size]? = some zO ∧ wr.heap[w.heap.size + 1]? = some fO ∧ Ev w wr) (fun i _ => 135 - (intOf i).toNat)
  case atStart => exact ⟨0, by omega, by omega, rfl, fun j hj => by omega, rparse_start _ _⟩
  case round =>
    obtain ⟨k, hk, hk5, rfl, hok, hbp, hz, hf, hev⟩ := hrel
    have HOK := Lib.hid hok
    have HBP := Lib.hid hbp
    have HZ := Lib.hid hz
    have HF := Lib.hid hf
    have HE := Lib.hid hev
    have hlen := HL.out
    clear hok hbp hz hf hev
    by_cases hlt : k < s.data.toList.length
    · have hlt' : (k : Int) < (s.size : Int) := by omega
      have hne : ((k : Int) == (s.size : Int)) = false := by simp; omega
      have hk135 : (k : Int) < 135 := by omega
      have hgk : k < s.size := by omega
      have hx : s[k]'hgk = s.data.toList.getD k 0 := by rw [List.getD_eq_getElem?_getD, List.getElem?_eq_getElem hlt]; rfl
      have hylt := (s.data.toList.getD k 0).toNat_lt
      have hva := hexV_le (s.data.toList.getD k 0).toNat
      have K1 := Lib.hid fun W => value_any (s.data.toList.getD k 0).toNat W (by omega)
      have hokd : okAt s.data.toList k = okB k (s.data.toList.getD k 0).toNat := rfl
      have hpb := pv_blank s.data.toList k
      have hpd := pv_digit s.data.toList k
      have hcur := pv_cur s.data.toList k
      have hlim := hexV_lo (s.data.toList.getD k 0).toNat
      have h32 : hexV 32 = -1 := by decide
      generalize s.data.toList.getD k 0 = yb at *
      generalize hyb : yb.toNat = y at *
      clear hlen
      have HYB := Lib.hid hyb
      clear hyb
      have hyy : (yb.toNat : Int) = (y : Int) := by rw [HYB.out]
      by_cases hm : k % 17 = 16
      · have q1 : ((k : Int) % 17 == 16) = true := by simp; omega
        by_cases hy : y = 32
        · subst hy
          have q2 : ((yb.toNat : Int) == 32) = true := by rw [hyy]; rfl
          have HOK1 : Hid (okAt s.data.toList k = true) := Lib.hid (by rw [hokd]; unfold okB; rw [if_pos hm]; rfl)
          have HPV := Lib.hid (hpb hm)
          clear hokd hpb hpd hcur hlim
          generalize hexV 32 = z at *
          clear h32
          go_wp2_with fail
          refine (K1.out _).mono ?_
          rintro e w5 ⟨rfl, rfl⟩
          go_wp2_with fail
          go_roundw
          case rel => exact ⟨k + 1, by omega, by omega, by go_num, fun j hj => by
            by_cases e : j < k
            · exact HOK.out j e
            · obtain rfl : j = k := by omega
              exact HOK1.out, by rw [HPV.out]; exact HBP.out, HZ.out, HF.out, HE.out⟩
          case measure => simp [intOf]; omega
        · have hbad : okAt s.data.toList k = false := by rw [hokd]; unfold okB; rw [if_pos hm]; simpa using hy
          have q2 : ((y : Int) == 32) = false := by simp; omega
          clear hokd hpb hpd hcur hlim h32
          generalize hexV y = z at *
          have HR : Hid (Ending.returned (.tuple #[pg (prC s.data.toList), fl (prE s.data.toList) (prA s.data.toList)]) = .returned (.tuple #[pg (fun _ => 0), fl 3 (k : Int)])) := Lib.hid (by
            obtain ⟨e1, e2, e3⟩ := pr_bad hsl (by omega) (fe_eq (l := s.data.toList) hk HOK.out (.inr hbad))
            rw [e1, e2, e3])
          clear hbad
          go_wp2_with fail
          refine (K1.out _).mono ?_
          rintro e w5 ⟨rfl, rfl⟩
          have HF2 : Hid (∀ X, (wr.setRow w.heap.size X).heap[w.heap.size + 1]? = some fO) := Lib.hid fun X => (setRow_other _ _ _ _ (by omega)).trans HF.out
          go_wp2_with (first | (refine wpList_store_row rfl 24 (.tmp 2) (.tmp 45) (by rfl) w.heap.size (pgA (fun _ => 0)) (by rfl) (by rfl) 24 _ HZ.out info24 rfl (pgA_one _) ?_) | (refine wpList_store_row rfl 47 (.tmp 3) (.tmp 47) (by rfl) (w.heap.size + 1) (flA 3 (k : Int)) (by rfl) (by rfl) 47 _ (HF2.out _) info47 rfl (flA_one _ _) ?_))
          obtain ⟨p0, p1⟩ := parse_end wr w.heap.size (w.heap.size + 1) (pgA (fun _ => 0)) (flA 3 (k : Int)) _ _ (by omega) HZ.out HF.out
          (try rw [Exit.noGoto_ret])
          refine bodyPost_ret (v := .tuple #[pg (fun _ => 0), fl 3 (k : Int)]) (results_cells2 Try.results32 _ _ w.heap.size (w.heap.size + 1) 24 47 _ _ (0, 0) (0, 0) _ _ (by rfl) p0 Try.underlying24 rfl info24 (by rfl) p1 Try.underlying47 rfl info47) rfl ⟨by rw [HR.out], (HE.out.setRow (by omega) _).setRow (by omega) _⟩
      · have q1 : ((k : Int) % 17 == 16) = false := by simp; omega
        by_cases hy : 0 ≤ hexV y
        · have HOK1 : Hid (okAt s.data.toList k = true) := Lib.hid (by rw [hokd]; unfold okB; rw [if_neg hm]; simpa using hy)
          have hy32 : y ≠ 32 := by intro e; rw [e, h32] at hy; omega
          have q2 : ((y : Int) == 32) = false := by simp; omega
          have HPV := Lib.hid (hpd hm)
          have hcur := hcur hm
          have hq8 : k / 17 < 8 := by omega
          obtain ⟨-, cc, ff⟩ := HBP.out
          have ck := cc (k / 17) hq8
          have fk := ff (k / 17)
          obtain ⟨z, hzz⟩ : ∃ z : Nat, hexV y = (z : Int) := ⟨(hexV y).toNat, by omega⟩
          rw [hzz] at HPV hva K1
          rw [Int.toNat_natCast] at HPV
          clear hokd hpb hpd hlim hzz hy cc ff h32 hy32
          generalize hx : pv s.data.toList k (k / 17) = x at *
          clear hx
          have hzi : (z : Int) ≤ 15 := by omega
          go_wp2_with fail
          refine (K1.out _).mono ?_
          rintro e w5 ⟨rfl, rfl⟩
          go_wp2_with fail
          go_roundw
          case rel => exact ⟨k + 1, by omega, by omega, by go_num, fun j hj => by
            by_cases e : j < k
            · exact HOK.out j e
            · obtain rfl : j = k := by omega
              exact HOK1.out, by rw [HPV.out]; exact HBP.out.set _ _ hq8, (heap_setCell_other _ _ _ _ (by simp; try omega)).trans HZ.out, (heap_setCell_other _ _ _ _ (by simp; try omega)).trans HF.out, HE.out.setC (by simp; omega) _⟩
          case measure => simp [intOf]; omega
        · have hbad : okAt s.data.toList k = false := by rw [hokd]; unfold okB; rw [if_neg hm]; simpa using hy
          have hzn : hexV y < 0 := by omega
          by_cases hy32 : y = 32
          · have q2 : ((y : Int) == 32) = true := by rw [hy32]; rfl
            clear hokd hpb hpd hcur hlim hy h32 hy32
            generalize hexV y = z at *
            have HR : Hid (Ending.returned (.tuple #[pg (prC s.data.toList), fl (prE s.data.toList) (prA s.data.toList)]) = .returned (.tuple #[pg (fun _ => 0), fl 3 (k : Int)])) := Lib.hid (by
              obtain ⟨e1, e2, e3⟩ := pr_bad hsl (by omega) (fe_eq (l := s.data.toList) hk HOK.out (.inr hbad))
              rw [e1, e2, e3])
            clear hbad
            go_wp2_with fail
            refine (K1.out _).mono ?_
            rintro e w5 ⟨rfl, rfl⟩
            have HF2 : Hid (∀ X, (wr.setRow w.heap.size X).heap[w.heap.size + 1]? = some fO) := Lib.hid fun X => (setRow_other _ _ _ _ (by omega)).trans HF.out
            go_wp2_with (first | (refine wpList_store_row rfl 24 (.tmp 2) (.tmp 45) (by rfl) w.heap.size (pgA (fun _ => 0)) (by rfl) (by rfl) 24 _ HZ.out info24 rfl (pgA_one _) ?_) | (refine wpList_store_row rfl 47 (.tmp 3) (.tmp 47) (by rfl) (w.heap.size + 1) (flA 3 (k : Int)) (by rfl) (by rfl) 47 _ (HF2.out _) info47 rfl (flA_one _ _) ?_))
            obtain ⟨p0, p1⟩ := parse_end wr w.heap.size (w.heap.size + 1) (pgA (fun _ => 0)) (flA 3 (k : Int)) _ _ (by omega) HZ.out HF.out
            (try rw [Exit.noGoto_ret])
            refine bodyPost_ret (v := .tuple #[pg (fun _ => 0), fl 3 (k : Int)]) (results_cells2 Try.results32 _ _ w.heap.size (w.heap.size + 1) 24 47 _ _ (0, 0) (0, 0) _ _ (by rfl) p0 Try.underlying24 rfl info24 (by rfl) p1 Try.underlying47 rfl info47) rfl ⟨by rw [HR.out], (HE.out.setRow (by omega) _).setRow (by omega) _⟩
          · have q2 : ((y : Int) == 32) = false := by simp; omega
            clear hokd hpb hpd hcur hlim hy h32 hy32
            generalize hexV y = z at *
            have HR : Hid (Ending.returned (.tuple #[pg (prC s.data.toList), fl (prE s.data.toList) (prA s.data.toList)]) = .returned (.tuple #[pg (fun _ => 0), fl 3 (k : Int)])) := Lib.hid (by
              obtain ⟨e1, e2, e3⟩ := pr_bad hsl (by omega) (fe_eq (l := s.data.toList) hk HOK.out (.inr hbad))
              rw [e1, e2, e3])
            clear hbad
            go_wp2_with fail
            refine (K1.out _).mono ?_
            rintro e w5 ⟨rfl, rfl⟩
            have HF2 : Hid (∀ X, (wr.setRow w.heap.size X).heap[w.heap.size + 1]? = some fO) := Lib.hid fun X => (setRow_other _ _ _ _ (by omega)).trans HF.out
            go_wp2_with (first | (refine wpList_store_row rfl 24 (.tmp 2) (.tmp 45) (by rfl) w.heap.size (pgA (fun _ => 0)) (by rfl) (by rfl) 24 _ HZ.out info24 rfl (pgA_one _) ?_) | (refine wpList_store_row rfl 47 (.tmp 3) (.tmp 47) (by rfl) (w.heap.size + 1) (flA 3 (k : Int)) (by rfl) (by rfl) 47 _ (HF2.out _) info47 rfl (flA_one _ _) ?_))
            obtain ⟨p0, p1⟩ := parse_end wr w.heap.size (w.heap.size + 1) (pgA (fun _ => 0)) (flA 3 (k : Int)) _ _ (by omega) HZ.out HF.out
            (try rw [Exit.noGoto_ret])
            refine bodyPost_ret (v := .tuple #[pg (fun _ => 0), fl 3 (k : Int)]) (results_cells2 Try.results32 _ _ w.heap.size (w.heap.size + 1) 24 47 _ _ (0, 0) (0, 0) _ _ (by rfl) p0 Try.underlying24 rfl info24 (by rfl) p1 Try.underlying47 rfl info47) rfl ⟨by rw [HR.out], (HE.out.setRow (by omega) _).setRow (by omega) _⟩
    · obtain rfl : k = s.data.toList.length := by omega
      have hkl : ((s.data.toList.length : Nat) : Int) = (s.size : Int) := by omega
      rw [hkl]
      by_cases hfull : s.data.toList.length = 135
      · have HR : Hid (Ending.returned (.tuple #[pg (prC s.data.toList), fl (prE s.data.toList) (prA s.data.toList)]) = .returned (.tuple #[pg (pv s.data.toList 135), fl 0 0])) := Lib.hid (by
          obtain ⟨e1, e2, e3⟩ := pr_ok (l := s.data.toList) hsl (by rw [fe_eq (l := s.data.toList) hk HOK.out (.inl rfl)]; omega)
          rw [e1, e2, e3])
        have hs5 : (s.size : Int) = 135 := by omega
        have hs6 : ¬ (s.size : Int) < 135 := by omega
        rw [hfull] at HBP
        obtain ⟨-, h8, -⟩ := HBP.out
        have c0 := h8 0 (by omega)
        have c1 := h8 1 (by omega)
        have c2 := h8 2 (by omega)
        have c3 := h8 3 (by omega)
        have c4 := h8 4 (by omega)
        have c5 := h8 5 (by omega)
        have c6 := h8 6 (by omega)
        have c7 := h8 7 (by omega)
        generalize pv s.data.toList 135 = P at *
        clear hkl hfull hs' hlen h8
        have HF2 : Hid (∀ X, (wr.setRow w.heap.size X).heap[w.heap.size + 1]? = some fO) := Lib.hid fun X => (setRow_other _ _ _ _ (by omega)).trans HF.out
        go_wp2_with (first | (refine wpList_store_row rfl 24 (.tmp 2) (.tmp 61) (by rfl) w.heap.size (pgA P) (by rfl) (by rfl) 24 _ HZ.out info24 rfl (pgA_one _) ?_) | (refine wpList_store_row rfl 47 (.tmp 3) (.tmp 62) (by rfl) (w.heap.size + 1) (flA 0 0) (by rfl) (by rfl) 47 _ (HF2.out _) info47 rfl (flA_one _ _) ?_))
        obtain ⟨p0, p1⟩ := parse_end wr w.heap.size (w.heap.size + 1) (pgA P) (flA 0 0) _ _ (by omega) HZ.out HF.out
        (try rw [Exit.noGoto_ret])
        refine bodyPost_ret (v := .tuple #[pg P, fl 0 0]) (results_cells2 Try.results32 _ _ w.heap.size (w.heap.size + 1) 24 47 _ _ (0, 0) (0, 0) _ _ (by rfl) p0 Try.underlying24 rfl info24 (by rfl) p1 Try.underlying47 rfl info47) rfl ⟨by rw [HR.out], (HE.out.setRow (by omega) _).setRow (by omega) _⟩
      · have hlt5 : (s.size : Int) < 135 := by omega
        have hee : ((s.size : Int) == (s.size : Int)) = true := by simp
        have HR : Hid (Ending.returned (.tuple #[pg (prC s.data.toList), fl (prE s.data.toList) (prA s.data.toList)]) = .returned (.tuple #[pg (fun _ => 0), fl 3 (s.size : Int)])) := Lib.hid (by
          obtain ⟨e1, e2, e3⟩ := pr_bad hsl (by omega) (fe_eq (l := s.data.toList) hk HOK.out (.inl rfl))
          rw [e1, e2, e3, hkl])
        clear hkl hfull hs' hlen
        have HF2 : Hid (∀ X, (wr.setRow w.heap.size X).heap[w.heap.size + 1]? = some fO) := Lib.hid fun X => (setRow_other _ _ _ _ (by omega)).trans HF.out
        go_wp2_with (first | (refine wpList_store_row rfl 24 (.tmp 2) (.tmp 21) (by rfl) w.heap.size (pgA (fun _ => 0)) (by rfl) (by rfl) 24 _ HZ.out info24 rfl (pgA_one _) ?_) | (refine wpList_store_row rfl 47 (.tmp 3) (.tmp 23) (by rfl) (w.heap.size + 1) (flA 3 (s.size : Int)) (by rfl) (by rfl) 47 _ (HF2.out _) info47 rfl (flA_one _ _) ?_))
        obtain ⟨p0, p1⟩ := parse_end wr w.heap.size (w.heap.size + 1) (pgA (fun _ => 0)) (flA 3 (s.size : Int)) _ _ (by omega) HZ.out HF.out
        (try rw [Exit.noGoto_ret])
        refine bodyPost_ret (v := .tuple #[pg (fun _ => 0), fl 3 (s.size : Int)]) (results_cells2 Try.results32 _ _ w.heap.size (w.heap.size + 1) 24 47 _ _ (0, 0) (0, 0) _ _ (by rfl) p0 Try.underlying24 rfl info24 (by rfl) p1 Try.underlying47 rfl info47) rfl ⟨by rw [HR.out], (HE.out.setRow (by omega) _).setRow (by omega) _⟩
theorem parse_all (s : ByteArray) (w : World) : Calls Try.prog 31 #[.string s] w fun e w' => e = .returned (.tuple #[pg (prC s.data.toList), fl (prE s.data.toList) (prA s.data.toList)]) ∧ Ev w w' := by
  by_cases h : 135 < s.size
  · exact parse_long s w h
  · exact parse_any s w h
theorem rparse_all (s : ByteArray) (w : World) : Calls Try.prog 32 #[.string s] w fun e w' => e = .returned (.tuple #[pg (prC s.data.toList), fl (prE s.data.toList) (prA s.data.toList)]) ∧ Ev w w' := by
  by_cases h : 135 < s.size
  · exact rparse_long s w h
  · exact rparse_short s w h
end Go.Proofs.Ytfclbnaabdlmhaa
