import Derived.Test.YtpgghbabhgfchaaC5
namespace Go.Proofs.Ytpgghbabhgfchaa
open Go.RowKit Go.Shelf
attribute [local go_sem] Oper.semAt_some
set_option maxRecDepth 100000 in
set_option maxHeartbeats 16000000 in
theorem cover_any (A : Option Addr) (cap : Nat) (l : List (Int × Int)) (w : World) (hr : RdP w A l) (hl : l.length ≤ 70) :
    Calls Try.prog 23 #[.slice A l.length cap] w fun e w' => CvQ w (cvL l) (cvE l) e w' := by
  obtain ⟨i0, hi0, hz0, hz1, hz2⟩ := info_parts info3
  by_cases h64 : l.length ≤ 64
  · have d1 : decide ((64 : Int) < (l.length : Int)) = false := decide_eq_false (by omega)
    have d2 : decide (64 < l.length) = false := decide_eq_false (by omega)
    have HR := Lib.hid hr
    have H64 := Lib.hid h64
    have HLF : Hid (∀ (x : Fin 64) W, Calls Try.prog 31 #[.int .i64 (x.1 : Int)] W fun e w' => e = .returned (.int .i64 ((x.1 / 8 : Nat) : Int)) ∧ W = w') := Lib.hid fun x W => leafOf_any _ W (by omega) (by have := x.2; omega)
    have hn64 : (l.length : Int) ≤ 64 := by omega
    clear hr hl h64
    refine (callsIn_wide (n := 9)).1 (callsIn_of_wp_marks Try.func23 rfl trivial ?_ rfl)
    simp only [Try.ntmps23, List.size_toArray, List.length_cons, List.length_nil, Nat.reduceAdd, Nat.reduceSub, Array.replicate_succ, Array.replicate_zero, List.push_toArray, List.append_toArray, List.nil_append, List.cons_append]
    gi_wp2_with fail
    clear d1 d2
    have hS0 : StM w w.heap.size w.heap.size (bL []) (w.alloc (.cells #[.bool false, .bool false, .bool false, .bool false, .bool false, .bool false, .bool false, .bool false] 53)) := StM.new w w (Below.refl _ _)
    refine wpIn_loop (IC w A cap l) (fun a _ => l.length - (intOf (a.tmps.getD 17 undef)).toNat) ?h0 ?round
    case h0 => exact ⟨0, _, _, _, _, _, _, _, _, _, _, _, _, _, _, _, _, _, _, [], rfl, by omega, (fun j hj => by omega), List.nodup_nil, (fun d hd => by cases hd), by simpa using hS0⟩
    case round =>
      clear hS0
      rintro a wr ⟨m, u6, u7, u8, u18, u19, u20, u21, u22, u23, u24, u25, u26, u27, u28, u29, u30, u31, u32, Ds, rfl, hm, hok, hnd, hmk, hS⟩
      have HOK := Lib.hid hok
      have HND := Lib.hid hnd
      have HMK := Lib.hid hmk
      have HS := Lib.hid hS
      have HEV : Hid (Ev w wr) := Lib.hid hS.2.2.2
      clear hok hnd hmk hS
      by_cases hlt : m < l.length
      · obtain ⟨b, o, rfl, hb, c1, c2⟩ := (HR.out.ev HEV.out).2 m hlt
        have hlt' : (m : Int) < (l.length : Int) := by omega
        have hm0 : 0 ≤ (m : Int) := by omega
        have HLT := Lib.hid hlt
        have HTS := Lib.hid (take_snocP l m hlt)
        obtain ⟨x, hx⟩ : ∃ x, x = l.getD m (0, 0) := ⟨_, rfl⟩
        rw [← hx] at c1 c2 HTS
        have HX := Lib.hid hx
        obtain ⟨f, t⟩ := x
        simp only [] at c1 c2
        have HB0 := Lib.hid (B2.new wr f t)
        clear hx hlt hb
        cases hk : okR (f, t) with
        | true =>
          have HK := Lib.hid hk
          have HC := Lib.hid fun W => ck_of (okR_yes hk) W
          obtain ⟨hf0, hft, ht64⟩ := (okR_iff _).1 hk
          simp only [] at hf0 hft ht64 HC
          obtain ⟨fn, rfl⟩ : ∃ fn : Nat, f = fn := ⟨f.toNat, by omega⟩
          obtain ⟨tn, rfl⟩ : ∃ tn : Nat, t = tn := ⟨t.toNat, by omega⟩
          have HFT : Hid (fn ≤ tn ∧ tn < 64) := Lib.hid (by omega)
          have HST := Lib.hid fun W => pages_any fn tn W
          clear hk hf0 hft ht64
          gi_wp2_with fail
          refine ⟨trivial, (callsIn_wide.2 (HC.out _)).mono ?_⟩
          rintro e w1 ⟨rfl, hev⟩
          have HE1 : Hid (Ev wr w1) := Lib.hid (((Ev.refl wr).alloc (oR fn tn)).step hev)
          have HB1 := Lib.hid (HB0.out.ev hev)
          clear hev
          obtain ⟨hbl, x0, x1, -, -⟩ := HB1.out
          gi_wp2_with fail
          refine ⟨trivial, (callsIn_wide.2 (HST.out _)).mono ?_⟩
          rintro e w2 ⟨rfl, rfl⟩
          gi_wp2_with fail
          obtain ⟨W0, hW0⟩ : ∃ W0, W0 = w1.alloc (.cells #[.int .i64 fn, .int .i64 tn] 30) := ⟨_, rfl⟩
          have hm0 : W0.cell? ⟨w1.heap.size, 0, none⟩ = some (.int .i64 fn) ∧ W0.cell? ⟨w1.heap.size, 1, none⟩ = some (.int .i64 tn) := by
            rw [hW0]
            exact ⟨by simp, by simp⟩
          have z1 : w1.heap.size < W0.heap.size := by rw [hW0]; simp
          have hE0 : Ev wr W0 := by rw [hW0]; exact HE1.out.alloc _
          have hwr : w.heap.size < wr.heap.size := HS.out.2.1
          have z2 := hE0.sz
          have hSx : StM w W0.heap.size w.heap.size (fun k => (bL (l.take m) k || mkS [] k)) W0 := by
            obtain ⟨h1, h2, h3, h4⟩ := HS.out.evD hE0
            refine ⟨fun k hk => ?_, h2, Nat.le_refl _, h4⟩
            have : mkS [] k = false := rfl
            simp only [this, Bool.or_false]
            exact h1 k hk
          have hMx : ∀ d ∈ Ds, W0.heap[d]? = some (.deferred (some [])) := fun d hd => (Below.block hE0 d (Array.getElem?_eq_some_iff.1 (HMK.out d hd).2).1).trans (HMK.out d hd).2
          have hDs : ∀ d ∈ Ds, d < W0.heap.size := fun d hd => (Array.getElem?_eq_some_iff.1 (hMx d hd)).1
          rw [← hW0]
          clear hW0 x0 x1 HST HC hbl HB0 HB1 c1 c2
          refine wpIn_rangeFunc_ownG rfl (by omega) (gf := 33) (lb := #[.pointer (some ⟨w1.heap.size, 0, none⟩)]) rfl trivial (enters_of Try.func33 (by kernel_rfl) rfl)
            (it_stops 8 W0.heap.size (fun k => k = w.heap.size) (by omega) fn tn HFT.out.1 HFT.out.2 w1.heap.size W0 (Nat.le_refl _) (by omega) (by have := HE1.out.sz; omega) hm0) (fun h k => h.trans k) (KpX.putObj (Nat.le_refl _)) (Below.refl _ _) (fun _ => rfl)
            (fun (pre : List (Fin 64)) W => StM w W0.heap.size w.heap.size (fun k => (bL (l.take m) k || mkS pre k)) W ∧ ∀ d ∈ Ds, W.heap[d]? = some (.deferred (some [])))
            (fun _ _ _ => False)
            (stMg_from _ _ _ _ (by omega) (by omega) _ _ hDs)
            (fun _ _ _ _ _ hs _ _ => hs)
            ⟨hSx, hMx⟩
            (fun (x : Fin 64) => { tmps := #[.slice (some ⟨b, o, none⟩) l.length cap, undef, .slice none 0 0, .int .i64 0, .pointer (some ⟨w.heap.size, 0, none⟩), undef, .pointer (some ⟨wr.heap.size, 0, none⟩), .int .i64 0, .int .i64 (x.1 : Int), undef, undef, undef, .slice (some ⟨b, o, none⟩) l.length cap, .int .i64 l.length, .bool false, .slice (some ⟨b, o, none⟩) l.length cap, .int .i64 l.length, .int .i64 m, .bool true, .pointer (some ⟨b, o + m * 2, none⟩), .agg #[.int .i64 fn, .int .i64 tn], .agg #[.int .i64 fn, .int .i64 tn], .int .i64 0, .int .i64 0, .bool false, u25, .agg #[.int .i64 fn, .int .i64 tn], .func (.func 33) #[] #[.pointer (some ⟨w1.heap.size, 0, none⟩)], .int .i64 (x.1 : Int), u29, u30, u31, u32, undef, undef, undef, undef, undef, undef, undef, undef, undef, undef, undef, undef, undef, undef, undef], defers := [] }) ?assign ?body ?done ?stop
          case assign =>
            intro lp x W K hK
            gi_wp2
            exact hK
          case body =>
            rintro lp pre x W ⟨hS, hM⟩ hlt
            have hk : x.1 / 8 < 8 := by have := x.2; omega
            have LX := Lib.hid (HLF.out x W)
            have hset := stMg_set hS (x.1 / 8) (Nat.le_refl _)
            have HF : Hid (StM w W0.heap.size w.heap.size (fun k => (bL (l.take m) k || mkS (pre ++ [x]) k)) (W.setCell ⟨w.heap.size, x.1 / 8, none⟩ (.bool true)) ∧ ∀ d ∈ Ds, (W.setCell ⟨w.heap.size, x.1 / 8, none⟩ (.bool true)).heap[d]? = some (.deferred (some []))) := Lib.hid ⟨by
              have e : (fun k => (bL (l.take m) k || mkS (pre ++ [x]) k)) = fun k => ((bL (l.take m) k || mkS pre k) || (x.1 / 8 == k)) := by
                funext k
                rw [mkS_snoc, Bool.or_assoc]
              rw [e]
              exact hset, fun d hd => (Below.heap_setCell _ _ _ _ (fun e => by have := (HMK.out d hd).1; simp only [] at e; omega)).trans (hM d hd)⟩
            obtain ⟨c, fz⟩ := hS.1 _ hk
            clear hS hM hset
            generalize x.1 / 8 = kx at *
            have l1 : 0 ≤ (kx : Int) := by omega
            have l2 : (kx : Int) < 8 := by omega
            gi_wp2_with fail
            refine ⟨trivial, (CallsIn.inRound lp (callsIn_wide.2 LX.out)).mono ?_⟩
            rintro e W' ⟨rfl, rfl⟩
            gi_wp2
            exact ⟨(KeepsOthers.setCell _ _ _).from _, (KpX.refl _ _ _).setCell _ (.inl rfl), HF.out⟩
          case done =>
            rintro D ys W hD rfl ⟨hS, hM⟩ hK
            have HFIN : Hid (StM w w.heap.size w.heap.size (bL (l.take (m + 1))) W ∧ (D :: Ds).Nodup ∧ ∀ d ∈ D :: Ds, w.heap.size < d ∧ W.heap[d]? = some (.deferred (some []))) := Lib.hid (by
              refine ⟨?_, List.nodup_cons.2 ⟨fun h => by have := hDs D h; omega, HND.out⟩, fun d hd => ?_⟩
              · rw [HTS.out, bL_snoc]
                obtain ⟨h1, h2, h3, h4⟩ := hS
                exact ⟨h1, h2, by omega, h4⟩
              · rcases List.mem_cons.1 hd with rfl | hd
                · exact ⟨by omega, hK⟩
                · exact ⟨(HMK.out d hd).1, hM d hd⟩)
            clear hS hM hK
            have hmi : (m : Int) ≤ 64 := by omega
            gi_wp2
            refine ⟨⟨m + 1, _, _, _, _, _, _, _, _, _, _, _, _, _, _, _, _, _, _, D :: Ds, rfl, by have := HLT.out; omega, (fun j hj => by
              by_cases h : j = m
              · subst h; rw [← HX.out]; exact HK.out
              · exact HOK.out j (by omega)), HFIN.out.2.1, HFIN.out.2.2, HFIN.out.1⟩, ?_⟩
            have := HLT.out
            simp [intOf]
            omega
          case stop =>
            rintro D c' pre W _ _ h _
            exact h.elim
        | false =>
          have HC := Lib.hid fun W => ck_of (okR_no hk) W
          have HV : Hid (cvL l = [] ∧ cvE l = 2) := Lib.hid (by
            have ha := all_not HLT.out (by rw [← HX.out]; exact hk)
            unfold cvL cvE
            rw [ha]
            simp
            exact H64.out)
          clear hk
          gi_wp2_with fail
          refine ⟨trivial, (callsIn_wide.2 (HC.out _)).mono ?_⟩
          rintro e w1 ⟨rfl, hev⟩
          have HE1 : Hid (Ev wr w1) := Lib.hid (((Ev.refl wr).alloc (oR f t)).step hev)
          clear hev
          gi_wp2_with fail
          refine leaves_marks (base := w.heap.size + 1) (fun W => Ev w W) (fun W D h hb hK => Below.trans h (belowK_b (w := w) (Nat.le_refl _) W D _ _ (by omega) hK rfl rfl)) (fun W h => ⟨.tuple #[.slice none 0 0, .int .i64 2], by simp [results, Try.results23, go_sem], by rw [HV.out.1, HV.out.2]; exact ⟨none, 0, rfl, RdI.nil _, h⟩⟩) Ds _ HND.out (fun d hd => ⟨(HMK.out d hd).1, (Below.block HE1.out d (Array.getElem?_eq_some_iff.1 (HMK.out d hd).2).1).trans (HMK.out d hd).2⟩) (HEV.out.step HE1.out)
      · obtain rfl : m = l.length := by omega
        have HALL := Lib.hid (all_of HOK.out)
        have HV : Hid (cvL l = cvK (bL l) 8 ∧ cvE l = 0) := Lib.hid (by
          unfold cvL cvE
          rw [HALL.out, if_pos ⟨H64.out, rfl⟩, if_pos H64.out, if_pos rfl]
          exact ⟨rfl, rfl⟩)
        rw [List.take_length] at HS
        obtain ⟨bb, hbb⟩ : ∃ bb, bb = bL l := ⟨_, rfl⟩
        rw [← hbb] at HS HV
        clear hbb
        have c0 := (HS.out.1 0 (by omega)).1
        have c1 := (HS.out.1 1 (by omega)).1
        have c2 := (HS.out.1 2 (by omega)).1
        have c3 := (HS.out.1 3 (by omega)).1
        have c4 := (HS.out.1 4 (by omega)).1
        have c5 := (HS.out.1 5 (by omega)).1
        have c6 := (HS.out.1 6 (by omega)).1
        have c7 := (HS.out.1 7 (by omega)).1
        have EQ : ∀ w, Sem.run Try.prog (Op.equalIn 10000 53 (.agg #[.bool (bb 0), .bool (bb 1), .bool (bb 2), .bool (bb 3), .bool (bb 4), .bool (bb 5), .bool (bb 6), .bool (bb 7)]) (.agg #[.bool false, .bool false, .bool false, .bool false, .bool false, .bool false, .bool false, .bool false])) w = .ok (!(bb 0 || bb 1 || bb 2 || bb 3 || bb 4 || bb 5 || bb 6 || bb 7)) w := fun w => eqM _ _ _ _ _ _ _ _ w
        clear hlt hm
        cases hany : (bb 0 || bb 1 || bb 2 || bb 3 || bb 4 || bb 5 || bb 6 || bb 7) with
        | false =>
          have HNIL : Hid (cvK bb 8 = []) := Lib.hid (cvK_none bb 8 (fun k hk => by
            simp only [Bool.or_eq_false_iff] at hany
            rcases (show k = 0 ∨ k = 1 ∨ k = 2 ∨ k = 3 ∨ k = 4 ∨ k = 5 ∨ k = 6 ∨ k = 7 by omega) with rfl | rfl | rfl | rfl | rfl | rfl | rfl | rfl
            all_goals simp_all))
          rw [hany] at EQ
          clear hany
          gi_wp2_with fail
          exact leaves_marks (base := w.heap.size + 1) (fun W => Ev w W) (fun W D h hb hK => Below.trans h (belowK_b (w := w) (Nat.le_refl _) W D _ _ (by omega) hK rfl rfl)) (fun W h => ⟨.tuple #[.slice none 0 0, .int .i64 0], by simp [results, Try.results23, go_sem], by rw [HV.out.1, HV.out.2, HNIL.out]; exact ⟨none, 0, rfl, RdI.nil _, h⟩⟩) Ds _ HND.out (fun d hd => ⟨(HMK.out d hd).1, (HMK.out d hd).2⟩) HEV.out
        | true =>
          rw [hany] at EQ
          clear hany
          gi_wp2_with fail
          clear EQ c0 c1 c2 c3 c4 c5 c6 c7
          obtain ⟨w5, hw5⟩ : ∃ w5, w5 = wr := ⟨_, rfl⟩
          rw [← hw5] at HMK HEV HS ⊢
          clear hw5
          gi_loopw [9, 37] (fun v i wr => ∃ k : Nat, k ≤ 8 ∧ i = .int .i64 k ∧ OwnI wr w5.heap.size v (cvK bb k) ∧ Ev w5 wr) (fun _ i _ => 8 - (intOf i).toNat)
          case atStart => exact ⟨0, Nat.zero_le _, rfl, World.ownsRow_nil _ _ _ _, Ev.refl _⟩
          case round =>
            obtain ⟨k, hk, rfl, hown, hev⟩ := hrel
            have HOWN := Lib.hid hown
            have HEV5 := Lib.hid hev
            by_cases hlt : k < 8
            · have IX := fun w => ixM bb k hlt w
              have hlt' : (k : Int) < 8 := by omega
              have hk0 : 0 ≤ (k : Int) := by omega
              have hlen := cvK_len bb k
              have H3 : Hid ((cvK bb k).length + 1 ≤ maxLen) := Lib.hid (by unfold maxLen; omega)
              have H4 : Hid (((cvK bb k).length + 1) * 8 ≤ 140737488355328) := Lib.hid (by omega)
              have H5 : Hid (∀ o, w5.heap.size ≤ (wr.alloc o).heap.size) := Lib.hid (by intro o; have := HEV5.out.sz; simp; omega)
              have hcv : cvK bb (k + 1) = if bb k = true then cvK bb k ++ [(k : Int)] else cvK bb k := rfl
              have HCV := Lib.hid hcv
              clear hown hev hcv hlen
              generalize hbk : bb k = bk at *
              cases bk
              · gi_wp2_with fail
                go_roundw
                case rel => exact ⟨k + 1, by omega, by go_num, by rw [HCV.out]; simpa using HOWN.out, HEV5.out⟩
                case measure => simp [intOf]; omega
              · gi_wp2_with (gi_at_builtin; go_loud (refine wpListIn_append_own _ rfl _ _ 37 rfl w5.heap.size 3 i0 (.int .i64 0) 1 8 Try.underlying37 hi0 hz0 hz1 hz2 rfl Nat.one_pos _ (cvK bb k).length (IV (cvK bb k)) rfl (HOWN.out.alloc _) ⟨wr.heap.size, 0, none⟩ 1 1 [.int .i64 (k : Int)] rfl rfl (one_cell _ _ _) (by simp [Value.oneCell']) H3.out H4.out (H5.out _) ?_); intro v1 w4 hown4 hg4 _; have hrow := HOWN.out.alloc (.cells #[.int .i64 (k : Int)] 3); have HW4 := Lib.hid (Ev.grown (HEV5.out.alloc (.cells #[.int .i64 (k : Int)] 3)) hg4 (fun g hg => (hrow.lt g hg).1)); have HO4 := Lib.hid hown4; clear hrow hg4 hown4)
                go_roundw
                case rel => exact ⟨k + 1, by omega, by go_num, by rw [HCV.out]; simpa [OwnI, IV] using HO4.out, HW4.out⟩
                case measure => simp [intOf]; omega
            · obtain rfl : k = 8 := by omega
              obtain ⟨A', c', rfl, h2⟩ := RdI.of_own HOWN.out (by have := cvK_len bb 8; omega)
              clear hown hev hlt hk h2
              gi_wp2
              refine leaves_marks (base := w.heap.size + 1) (fun W => OwnI W w5.heap.size (.slice A' (cvK bb 8).length c') (cvK bb 8) ∧ Ev w W) (fun W D h hb hK => ⟨ownsRow_putObj h.1 (.deferred none) hK rfl, Below.trans h.2 (belowK_b (w := w) (Nat.le_refl _) W D _ _ (by omega) hK rfl rfl)⟩) (fun W h => ⟨.tuple #[.slice A' (cvK bb 8).length c', .int .i64 0], by simp [results, Try.results23, go_sem], ?_⟩) Ds _ HND.out (fun d hd => ⟨(HMK.out d hd).1, (Below.block HEV5.out d (Array.getElem?_eq_some_iff.1 (HMK.out d hd).2).1).trans (HMK.out d hd).2⟩) ⟨HOWN.out, HEV.out.step HEV5.out⟩
              rw [HV.out.1, HV.out.2]
              obtain ⟨A2, c2, h1, h3⟩ := RdI.of_own h.1 (by have := cvK_len bb 8; omega)
              cases h1
              exact ⟨_, _, rfl, h3, h.2⟩
  · have d1 : decide ((64 : Int) < (l.length : Int)) = true := decide_eq_true (by omega)
    have d2 : decide (64 < l.length) = true := decide_eq_true (by omega)
    have HV : Hid (cvL l = [] ∧ cvE l = 5) := Lib.hid (by
      unfold cvL cvE
      rw [if_neg (by omega), if_neg (by omega)]
      exact ⟨rfl, rfl⟩)
    clear hr h64 hl
    go_enter Try.func23, Try.ntmps23
    go_wp2_with fail
    go_ret2
    rw [HV.out.1, HV.out.2]
    exact ⟨none, 0, rfl, RdI.nil _, Ev.refl _⟩
end Go.Proofs.Ytpgghbabhgfchaa
