import Derived.Test.YtfclbnaabdlmhaaJ1
import Derived.Laws.IdiomStrings
import Derived.Deep.LoopGhost
namespace Go.Proofs.Ytfclbnaabdlmhaa
open Go.RowKit Go.Deep
abbrev fO : Obj := .cells #[.int .i64 0, .int .i64 0] 47
abbrev fl (e a : Int) : Value := .agg #[.int .i64 e, .int .i64 a]
abbrev flA (e a : Int) : Array Value := #[.int .i64 e, .int .i64 a]
theorem info47 : (Try.prog.info? 47).map (·.size) = some 2 := by kernel_rfl
theorem flA_one (e a : Int) : (flA e a).all (·.oneCell') = true := by simp [Value.oneCell']
theorem results_cells2 {P : Program} {fn : Func} {p q : Tmp} {ty uy : TypeId} (h : fn.results = #[.cell p ty, .cell q uy]) (tmps : Array Value) (w : World) (g k : Nat) (t u : TypeId) (cs ds : Array Value) (fr gr : Nat × Nat) (d e : TypeDesc)
    (hp : tmps.getD p undef = .pointer (some ⟨g, 0, none⟩)) (hg : w.heap[g]? = some (.cells cs t fr))
    (hu : P.underlying ty = some d) (hd : (match d with | .struct _ | .array _ _ => true | _ => false) = true) (hi : (P.info? ty).map (·.size) = some cs.size)
    (hp2 : tmps.getD q undef = .pointer (some ⟨k, 0, none⟩)) (hg2 : w.heap[k]? = some (.cells ds u gr))
    (hu2 : P.underlying uy = some e) (hd2 : (match e with | .struct _ | .array _ _ => true | _ => false) = true) (hi2 : (P.info? uy).map (·.size) = some ds.size) :
    (results fn tmps).run P w = .ok (.tuple #[.agg cs, .agg ds]) w := by
  have hp' : tmps[p]?.getD undef = .pointer (some ⟨g, 0, none⟩) := by simpa using hp
  have hp2' : tmps[q]?.getD undef = .pointer (some ⟨k, 0, none⟩) := by simpa using hp2
  simp [results, h, hp', hp2', asAddr, run_loadVar_row w g t ty cs fr d hg hu hd hi, run_loadVar_row w k u uy ds gr e hg2 hu2 hd2 hi2]
/-- the block of a string's bytes -/
def BY (W : World) (g : Nat) (l : List UInt8) : Prop := g < W.heap.size ∧ ∀ j, j < l.length → W.cell? ⟨g, j, none⟩ = some (.int .u8 ((l.getD j 0).toNat : Int))
theorem BY.ev {w W : World} {g : Nat} {l : List UInt8} (h : BY w g l) (e : Ev w W) : BY W g l := ⟨Nat.lt_of_lt_of_le h.1 e.sz, fun j hj => by rw [(bc e).1 _ _ h.1]; exact h.2 j hj⟩
theorem BY.far {W : World} {g : Nat} {l : List UInt8} (h : BY W g l) {p : Addr} (hp : p.block ≠ g) (v : Value) : BY (W.setCell p v) g l := ⟨by simpa using h.1, fun j hj => by rw [World.cell?_setCell_far _ _ _ _ hp]; exact h.2 j hj⟩
theorem BY.new (w : World) (s : ByteArray) (cap : Nat) (fr : Nat × Nat) : BY (w.alloc (.cells (bytesRow s cap) 5 fr)) w.heap.size s.data.toList := ⟨by simp, fun j hj => by
  have hj' : j < s.data.size := by simpa using hj
  rw [World.cell?_alloc_mark, bytesRow_at s cap j hj']
  rw [show s.data.toList.getD j 0 = s.data[j] from by rw [List.getD_eq_getElem?_getD, List.getElem?_eq_getElem (by simpa using hj')]; rfl]⟩
theorem or4 {x y : Nat} (hx : x < 1152921504606846976) (hy : y < 16) : bits BinOp.or IntKind.u64 (((x * 16 : Nat)) : Int) (y : Int) = ((16 * x + y : Nat) : Int) := by
  have a1 : ((x * 16 : Nat) : Int) % 2 ^ 4 = 0 := by omega
  have h : (16 * x + y : Nat) = x * 16 + y := by omega
  rw [h]
  generalize x * 16 = z at *
  rw [bits_join .u64 64 (by decide) wraps_u64 4 _ _ (by omega) a1 (by omega) (by omega) (by omega) (by omega)]
  exact (Int.natCast_add _ _).symm
/-- both results at the end of Parse -/
theorem parse_end (W : World) (b0 b1 : Nat) (X Y X0 Y0 : Array Value) (hne : b0 ≠ b1) (h0 : W.heap[b0]? = some (.cells X0 24 (0, 0))) (h1 : W.heap[b1]? = some (.cells Y0 47 (0, 0))) :
    ((W.setRow b0 X).setRow b1 Y).heap[b0]? = some (.cells X 24 (0, 0)) ∧ ((W.setRow b0 X).setRow b1 Y).heap[b1]? = some (.cells Y 47 (0, 0)) :=
  ⟨(setRow_other _ _ _ _ hne).trans (setRow_heap _ _ _ _ _ _ h0), setRow_heap _ _ Y0 _ _ _ ((setRow_other _ _ _ _ (Ne.symm hne)).trans h1)⟩
theorem pr_bad {l : List UInt8} {k : Nat} (h1 : l.length ≤ 135) (h2 : k < 135) (h3 : fe l = k) : prC l = (fun _ => 0) ∧ prE l = 3 ∧ prA l = (k : Int) :=
  ⟨by unfold prC; rw [if_neg (by omega), h3, if_pos h2], by unfold prE; rw [if_neg (by omega), h3, if_pos h2], by unfold prA; rw [if_neg (by omega), h3, if_pos h2]⟩
theorem pr_ok {l : List UInt8} (h1 : l.length ≤ 135) (h3 : ¬ fe l < 135) : prC l = pv l 135 ∧ prE l = 0 ∧ prA l = 0 :=
  ⟨by unfold prC; rw [if_neg (by omega), if_neg h3], by unfold prE; rw [if_neg (by omega), if_neg h3], by unfold prA; rw [if_neg (by omega), if_neg h3]⟩
theorem hexV_lo (b : Nat) : -1 ≤ hexV b := by unfold hexV; split; omega; split <;> omega
theorem parse_start (w : World) (s : ByteArray) (cap : Nat) (fr : Nat × Nat) :
    BY ((((w.alloc zO).alloc fO).alloc zO).alloc (.cells (bytesRow s cap) 5 fr)).drew (w.heap.size + 3) s.data.toList ∧ BP ((((w.alloc zO).alloc fO).alloc zO).alloc (.cells (bytesRow s cap) 5 fr)).drew (w.heap.size + 2) (pv s.data.toList 0) ∧
      ((((w.alloc zO).alloc fO).alloc zO).alloc (.cells (bytesRow s cap) 5 fr)).drew.heap[w.heap.size]? = some zO ∧ ((((w.alloc zO).alloc fO).alloc zO).alloc (.cells (bytesRow s cap) 5 fr)).drew.heap[w.heap.size + 1]? = some fO ∧ Ev w ((((w.alloc zO).alloc fO).alloc zO).alloc (.cells (bytesRow s cap) 5 fr)).drew := by
  have e2 : ((w.alloc zO).alloc fO).heap.size = w.heap.size + 2 := by simp
  have e3 : (((w.alloc zO).alloc fO).alloc zO).heap.size = w.heap.size + 3 := by simp
  have h1 := BY.new (((w.alloc zO).alloc fO).alloc zO) s cap fr
  have h2 := BP.new ((w.alloc zO).alloc fO) (fun _ => 0)
  rw [e3] at h1
  rw [e2] at h2
  refine ⟨h1.ev (Ev.refl _).drew, (h2.ev ((Ev.refl _).alloc (.cells (bytesRow s cap) 5 fr)).drew), ?_, ?_, ((((Ev.refl w).alloc _).alloc _).alloc _ : Ev w _).alloc _ |>.drew⟩
  · exact (heap_alloc_old _ _ (by simp; try omega)).trans ((heap_alloc_old _ _ (by simp; try omega)).trans ((heap_alloc_old _ _ (by simp)).trans (heap_alloc_new w _)))
  · exact (heap_alloc_old _ _ (by simp; try omega)).trans ((heap_alloc_old _ _ (by simp; try omega)).trans (heap_alloc2_new w _ _))
set_option maxRecDepth 100000 in
set_option maxHeartbeats 8000000 in
theorem parse_any (s : ByteArray) (w : World) (hs : ¬ 135 < s.size) : Calls Try.prog 31 #[.string s] w fun e w' => e = .returned (.tuple #[pg (prC s.data.toList), fl (prE s.data.toList) (prA s.data.toList)]) ∧ Ev w w' := by
  have hl : s.data.toList.length = s.size := by rw [Array.length_toList]; rfl
  have hs' : (s.size : Int) ≤ 135 := by omega
  have hbs := fun W => run_bytes_of_string (P := Try.prog) W 9 66 5 s Try.underlying9 Try.underlying66 Try.underlying5
  have HL := Lib.hid hl
  have hsl : s.data.toList.length ≤ 135 := by omega
  clear hl
  go_enter Try.func31, Try.ntmps31
  go_wp2_with fail
  go_step3
  go_wp2_with fail
  go_step3
  go_wp2_with fail
  clear hbs
  go_loopw [5, 19] (fun a i wr => ∃ k : Nat, k ≤ s.data.toList.length ∧ i = .int .i64 k ∧ a = .int .i64 k ∧ (∀ j, j < k → okAt s.data.toList j = true) ∧ BY wr (w.heap.size + 3) s.data.toList ∧ BP wr (w.heap.size + 2) (pv s.data.toList k) ∧ wr.heap[w.heap.size]? = some zO ∧ wr.heap[w.heap.size + 1]? = some fO ∧ Ev w wr) (fun _ i _ => s.data.toList.length - (intOf i).toNat)
  case atStart =>
    exact ⟨0, by omega, rfl, rfl, fun j hj => by omega, parse_start _ _ _ _⟩
  case round =>
    obtain ⟨k, hk, rfl, rfl, hok, hby, hbp, hz, hf, hev⟩ := hrel
    have HOK := Lib.hid hok
    have HBY := Lib.hid hby
    have HBP := Lib.hid hbp
    have HZ := Lib.hid hz
    have HF := Lib.hid hf
    have HE := Lib.hid hev
    have hlen := HL.out
    clear hok hby hbp hz hf hev
    by_cases hlt : k < s.data.toList.length
    · have hlt' : (k : Int) < (s.size : Int) := by omega
      have hk135 : (k : Int) < 135 := by omega
      have hb := HBY.out.2 k hlt
      have hylt := (s.data.toList.getD k 0).toNat_lt
      have hva := hexV_le (s.data.toList.getD k 0).toNat
      have K1 := Lib.hid fun W => idx_any (s.data.toList.getD k 0).toNat W (by omega)
      have hokd : okAt s.data.toList k = okB k (s.data.toList.getD k 0).toNat := rfl
      have hpb := pv_blank s.data.toList k
      have hpd := pv_digit s.data.toList k
      have hcur := pv_cur s.data.toList k
      have hlim := hexV_lo (s.data.toList.getD k 0).toNat
      generalize (s.data.toList.getD k 0).toNat = y at *
      clear hlen
      by_cases hm : k % 17 = 16
      · have q1 : ((k : Int) % 17 == 16) = true := by simp; omega
        have q1b : ¬ (k : Int) % 17 < 16 := by omega
        by_cases hy : y = 32
        · subst hy
          have HOK1 : Hid (okAt s.data.toList k = true) := Lib.hid (by rw [hokd]; unfold okB; rw [if_pos hm]; rfl)
          have HPV := Lib.hid (hpb hm)
          clear hokd hpb hpd hcur hlim
          go_wp2_with fail
          refine (K1.out _).mono ?_
          rintro e w5 ⟨rfl, rfl⟩
          go_wp2_with fail
          go_roundw
          case rel => exact ⟨k + 1, by omega, by go_num, by go_num, fun j hj => by
            by_cases e : j < k
            · exact HOK.out j e
            · obtain rfl : j = k := by omega
              exact HOK1.out, HBY.out, by rw [HPV.out]; exact HBP.out, HZ.out, HF.out, HE.out⟩
          case measure => simp [intOf]; omega
        · have hbad : okAt s.data.toList k = false := by rw [hokd]; unfold okB; rw [if_pos hm]; simpa using hy
          have q2 : ((y : Int) == 32) = false := by simp; omega
          clear hokd hpb hpd hcur hlim
          have HR : Hid (Ending.returned (.tuple #[pg (prC s.data.toList), fl (prE s.data.toList) (prA s.data.toList)]) = .returned (.tuple #[pg (fun _ => 0), fl 3 (k : Int)])) := Lib.hid (by
            have hf := fe_eq (l := s.data.toList) hk HOK.out (.inr hbad)
            obtain ⟨e1, e2, e3⟩ := pr_bad hsl (by omega) hf
            rw [e1, e2, e3])
          clear hbad
          go_wp2_with fail
          refine (K1.out _).mono ?_
          rintro e w5 ⟨rfl, rfl⟩
          have HF2 : Hid (∀ X, (wr.setRow w.heap.size X).heap[w.heap.size + 1]? = some fO) := Lib.hid fun X => (setRow_other _ _ _ _ (by omega)).trans HF.out
          go_wp2_with (first | (refine wpList_store_row rfl 24 (.tmp 2) (.tmp 58) (by rfl) w.heap.size (pgA (fun _ => 0)) (by rfl) (by rfl) 24 _ HZ.out info24 rfl (pgA_one _) ?_) | (refine wpList_store_row rfl 47 (.tmp 3) (.tmp 60) (by rfl) (w.heap.size + 1) (flA 3 (k : Int)) (by rfl) (by rfl) 47 _ (HF2.out _) info47 rfl (flA_one _ _) ?_))
          obtain ⟨p0, p1⟩ := parse_end wr w.heap.size (w.heap.size + 1) (pgA (fun _ => 0)) (flA 3 (k : Int)) _ _ (by omega) HZ.out HF.out
          (try rw [Exit.noGoto_ret])
          refine bodyPost_ret (v := .tuple #[pg (fun _ => 0), fl 3 (k : Int)]) (results_cells2 Try.results31 _ _ w.heap.size (w.heap.size + 1) 24 47 _ _ (0, 0) (0, 0) _ _ (by rfl) p0 Try.underlying24 rfl info24 (by rfl) p1 Try.underlying47 rfl info47) rfl ⟨by rw [HR.out], (HE.out.setRow (by omega) _).setRow (by omega) _⟩
      · have q1 : ((k : Int) % 17 == 16) = false := by simp; omega
        have q1b : (k : Int) % 17 < 16 := by omega
        by_cases hy : 0 ≤ hexV y
        · have HOK1 : Hid (okAt s.data.toList k = true) := Lib.hid (by rw [hokd]; unfold okB; rw [if_neg hm]; simpa using hy)
          have HPV := Lib.hid (hpd hm)
          have hcur := hcur hm
          have hq8 : k / 17 < 8 := by omega
          obtain ⟨-, cc, ff⟩ := HBP.out
          have ck := cc (k / 17) hq8
          have fk := ff (k / 17)
          obtain ⟨z, hzz⟩ : ∃ z : Nat, hexV y = (z : Int) := ⟨(hexV y).toNat, by omega⟩
          rw [hzz] at HPV hva K1
          rw [Int.toNat_natCast] at HPV
          have hor := or4 hcur (show z < 16 by omega)
          have hw1 : (((pv s.data.toList k (k / 17)) * 16 : Nat) : Int) = (pv s.data.toList k (k / 17) : Int) * 16 := by omega
          rw [hw1] at hor
          clear hokd hpb hpd hlim hzz hy cc ff hw1
          generalize hx : pv s.data.toList k (k / 17) = x at *
          clear hx
          have hzi : (z : Int) ≤ 15 := by omega
          go_wp2_with fail
          refine (K1.out _).mono ?_
          rintro e w5 ⟨rfl, rfl⟩
          go_wp2_with fail
          go_roundw
          case rel => exact ⟨k + 1, by omega, by go_num, by go_num, fun j hj => by
            by_cases e : j < k
            · exact HOK.out j e
            · obtain rfl : j = k := by omega
              exact HOK1.out, HBY.out.far (by simp) _, by rw [HPV.out]; exact HBP.out.set _ _ hq8, (heap_setCell_other _ _ _ _ (by simp; try omega)).trans HZ.out, (heap_setCell_other _ _ _ _ (by simp; try omega)).trans HF.out, HE.out.setC (by simp; omega) _⟩
          case measure => simp [intOf]; omega
        · have hbad : okAt s.data.toList k = false := by rw [hokd]; unfold okB; rw [if_neg hm]; simpa using hy
          have q2 : hexV y < 0 := by omega
          clear hokd hpb hpd hcur hlim hy
          generalize hexV y = z at *
          have HR : Hid (Ending.returned (.tuple #[pg (prC s.data.toList), fl (prE s.data.toList) (prA s.data.toList)]) = .returned (.tuple #[pg (fun _ => 0), fl 3 (k : Int)])) := Lib.hid (by
            have hf := fe_eq (l := s.data.toList) hk HOK.out (.inr hbad)
            obtain ⟨e1, e2, e3⟩ := pr_bad hsl (by omega) hf
            rw [e1, e2, e3])
          clear hbad
          go_wp2_with fail
          refine (K1.out _).mono ?_
          rintro e w5 ⟨rfl, rfl⟩
          have HF2 : Hid (∀ X, (wr.setRow w.heap.size X).heap[w.heap.size + 1]? = some fO) := Lib.hid fun X => (setRow_other _ _ _ _ (by omega)).trans HF.out
          go_wp2_with (first | (refine wpList_store_row rfl 24 (.tmp 2) (.tmp 58) (by rfl) w.heap.size (pgA (fun _ => 0)) (by rfl) (by rfl) 24 _ HZ.out info24 rfl (pgA_one _) ?_) | (refine wpList_store_row rfl 47 (.tmp 3) (.tmp 60) (by rfl) (w.heap.size + 1) (flA 3 (k : Int)) (by rfl) (by rfl) 47 _ (HF2.out _) info47 rfl (flA_one _ _) ?_))
          obtain ⟨p0, p1⟩ := parse_end wr w.heap.size (w.heap.size + 1) (pgA (fun _ => 0)) (flA 3 (k : Int)) _ _ (by omega) HZ.out HF.out
          (try rw [Exit.noGoto_ret])
          refine bodyPost_ret (v := .tuple #[pg (fun _ => 0), fl 3 (k : Int)]) (results_cells2 Try.results31 _ _ w.heap.size (w.heap.size + 1) 24 47 _ _ (0, 0) (0, 0) _ _ (by rfl) p0 Try.underlying24 rfl info24 (by rfl) p1 Try.underlying47 rfl info47) rfl ⟨by rw [HR.out], (HE.out.setRow (by omega) _).setRow (by omega) _⟩
    · obtain rfl : k = s.data.toList.length := by omega
      have hkl : ((s.data.toList.length : Nat) : Int) = (s.size : Int) := by omega
      by_cases hfull : s.data.toList.length = 135
      · have HR : Hid (Ending.returned (.tuple #[pg (prC s.data.toList), fl (prE s.data.toList) (prA s.data.toList)]) = .returned (.tuple #[pg (pv s.data.toList 135), fl 0 0])) := Lib.hid (by
          have hf := fe_eq (l := s.data.toList) hk HOK.out (.inl rfl)
          obtain ⟨e1, e2, e3⟩ := pr_ok (l := s.data.toList) hsl (by rw [hf]; omega)
          rw [e1, e2, e3])
        have hs5 : (s.size : Int) = 135 := by omega
        have hs6 : ¬ (s.size : Int) < 135 := by omega
        rw [hfull] at HBP
        obtain ⟨-, h8, -⟩ := HBP.out
        have c0 := h8 0 (by omega)
        have c1 := h8 1 (by omega)
        have c2 := h8 2 (by omega)
        have c3 := h8 3 (by omega)
        have c4 := h8 4 (by omega)
        have c5 := h8 5 (by omega)
        have c6 := h8 6 (by omega)
        have c7 := h8 7 (by omega)
        clear h8
        generalize pv s.data.toList 135 = P at *
        rw [hkl]
        clear hkl hfull hs' hlen
        have HF2 : Hid (∀ X, (wr.setRow w.heap.size X).heap[w.heap.size + 1]? = some fO) := Lib.hid fun X => (setRow_other _ _ _ _ (by omega)).trans HF.out
        go_wp2_with (first | (refine wpList_store_row rfl 24 (.tmp 2) (.tmp 61) (by rfl) w.heap.size (pgA P) (by rfl) (by rfl) 24 _ HZ.out info24 rfl (pgA_one _) ?_) | (refine wpList_store_row rfl 47 (.tmp 3) (.tmp 62) (by rfl) (w.heap.size + 1) (flA 0 0) (by rfl) (by rfl) 47 _ (HF2.out _) info47 rfl (flA_one _ _) ?_))
        obtain ⟨p0, p1⟩ := parse_end wr w.heap.size (w.heap.size + 1) (pgA P) (flA 0 0) _ _ (by omega) HZ.out HF.out
        (try rw [Exit.noGoto_ret])
        refine bodyPost_ret (v := .tuple #[pg P, fl 0 0]) (results_cells2 Try.results31 _ _ w.heap.size (w.heap.size + 1) 24 47 _ _ (0, 0) (0, 0) _ _ (by rfl) p0 Try.underlying24 rfl info24 (by rfl) p1 Try.underlying47 rfl info47) rfl ⟨by rw [HR.out], (HE.out.setRow (by omega) _).setRow (by omega) _⟩
      · have hlt5 : (s.size : Int) < 135 := by omega
        have HR : Hid (Ending.returned (.tuple #[pg (prC s.data.toList), fl (prE s.data.toList) (prA s.data.toList)]) = .returned (.tuple #[pg (fun _ => 0), fl 3 (s.size : Int)])) := Lib.hid (by
          have hf := fe_eq (l := s.data.toList) hk HOK.out (.inl rfl)
          obtain ⟨e1, e2, e3⟩ := pr_bad hsl (by omega) hf
          rw [e1, e2, e3, hkl])
        rw [hkl]
        clear hkl hfull hs' hlen
        have HF2 : Hid (∀ X, (wr.setRow w.heap.size X).heap[w.heap.size + 1]? = some fO) := Lib.hid fun X => (setRow_other _ _ _ _ (by omega)).trans HF.out
        go_wp2_with (first | (refine wpList_store_row rfl 24 (.tmp 2) (.tmp 58) (by rfl) w.heap.size (pgA (fun _ => 0)) (by rfl) (by rfl) 24 _ HZ.out info24 rfl (pgA_one _) ?_) | (refine wpList_store_row rfl 47 (.tmp 3) (.tmp 60) (by rfl) (w.heap.size + 1) (flA 3 (s.size : Int)) (by rfl) (by rfl) 47 _ (HF2.out _) info47 rfl (flA_one _ _) ?_))
        obtain ⟨p0, p1⟩ := parse_end wr w.heap.size (w.heap.size + 1) (pgA (fun _ => 0)) (flA 3 (s.size : Int)) _ _ (by omega) HZ.out HF.out
        (try rw [Exit.noGoto_ret])
        refine bodyPost_ret (v := .tuple #[pg (fun _ => 0), fl 3 (s.size : Int)]) (results_cells2 Try.results31 _ _ w.heap.size (w.heap.size + 1) 24 47 _ _ (0, 0) (0, 0) _ _ (by rfl) p0 Try.underlying24 rfl info24 (by rfl) p1 Try.underlying47 rfl info47) rfl ⟨by rw [HR.out], (HE.out.setRow (by omega) _).setRow (by omega) _⟩
end Go.Proofs.Ytfclbnaabdlmhaa
