import Derived.Test.YteilclbpehmbpaaB3
namespace Go.Proofs.Yteilclbpehmbpaa
open Go.RowKit Go.Maps
abbrev mapW (W : World) (b n : Nat) (D : DataW Unit) : Prop := W.ownsMap Try.prog 3 (plainElem Try.prog 3) b n D
theorem take_succ' (l : List Int) (k : Nat) (h : k < l.length) : l.take (k + 1) = l.take k ++ [l.getD k 0] := by
  rw [List.take_succ_eq_append_getElem h]; simp [List.getD, h]
theorem not_take {l : List Int} (h : l.Nodup) {k : Nat} (hk : k < l.length) : l.getD k 0 ∉ l.take k := by
  intro hm
  obtain ⟨i, hi, e⟩ := List.getElem_of_mem hm
  have hi' : i < k := by rw [List.length_take] at hi; omega
  rw [List.getElem_take] at e
  have e2 : l.getD k 0 = l[k] := by simp [List.getD, hk]
  rw [e2] at e
  exact List.pairwise_iff_getElem.1 h i k (by omega) hk hi' e
theorem BL.grown {W W' : World} {x : Nat} {A : Option Addr} {n c : Nat} {B : Option Addr} {m d : Nat} {C : Option Addr} {k e : Nat} {row : Option Nat} (h : BL W x A n c B m d C k e) (hg : W.grownBy W' row) (hne : row ≠ some x) : BL W' x A n c B m d C k e := by
  have hb : W'.heap[x]? = W.heap[x]? := hg.block x h.1 (fun e => hne e.symm)
  obtain ⟨h0, h1, h2, h3⟩ := h
  have hc : ∀ o, W'.cell? ⟨x, o, none⟩ = W.cell? ⟨x, o, none⟩ := fun o => World.cell?_of_block (a := ⟨x, o, none⟩) hb
  exact ⟨Nat.lt_of_lt_of_le h0 hg.size, by rw [hc, h1], by rw [hc, h2], by rw [hc, h3]⟩
theorem mem_i64 {l : List Int} {x : Int} (h : ∀ y ∈ l, 0 ≤ y ∧ y < 256) (hx : x ∈ l) : (Lit.int .i64 x).wf = true := by
  have := h x hx
  simp [Lit.wf, IntKind.min, IntKind.max, IntKind.signed, IntKind.bits]
  omega
set_option maxRecDepth 100000 in
set_option maxHeartbeats 8000000 in
theorem check_ok (A B C : Option Addr) (n c m d e : Nat) (La Li : List Int) (R : List Bool) (w : World) (hn : La.length = n) (hm : Li.length = m) (hA : RdI w A La) (hB : RdI w B Li) (hC : RdB w C R)
    (hk1 : 1 ≤ R.length) (hk2 : R.length ≤ 256) (hnd : (La ++ Li).Nodup) (hin : ∀ y ∈ La ++ Li, 0 ≤ y ∧ y < (R.length : Int)) (hrf : ∀ j : Nat, j < R.length → R.getD j false = true → (j : Int) ∈ La ++ Li) (hlen : n + m ≤ 1000) :
    Calls Try.prog 32 #[ls A n c B m d C R.length e] w fun x w' => x = .returned (.int .i64 0) ∧ Ev w w' := by
  have hmm := @run_makeMap Try.prog
  have IS : Hid (∀ y, y ∈ La ++ Li → ∀ W, Calls Try.prog 48 #[ls A n c B m d C R.length e, .int .i64 y] W fun x w' => x = .returned (.bool true) ∧ Ev W w') := Lib.hid fun y hy W => isFrame_yes A n c B m d C R.length e y W (hin y hy).1 (hin y hy).2
  have HBX := Lib.hid (BL.new w A n c B m d C R.length e)
  have HE0 := Lib.hid ((Ev.refl w).alloc (lsO A n c B m d C R.length e))
  have HM0 : Hid (mapW ((w.alloc (lsO A n c B m d C R.length e)).alloc (.map #[] 0)) (w.heap.size + 1) 0 (.map [])) := Lib.hid (by
    have h := World.ownsMap_made (w.alloc (lsO A n c B m d C R.length e)) Try.prog 3 (plainElem (H := Unit) Try.prog 3)
    rwa [show (w.alloc (lsO A n c B m d C R.length e)).heap.size = w.heap.size + 1 from by simp] at h)
  have HA := Lib.hid hA
  have HB := Lib.hid hB
  have HC := Lib.hid hC
  have HND := Lib.hid hnd
  have HIN : Hid (∀ y ∈ La ++ Li, 0 ≤ y ∧ y < 256) := Lib.hid fun y hy => ⟨(hin y hy).1, by have := (hin y hy).2; omega⟩
  have HRF := Lib.hid hrf
  have HN := Lib.hid hn
  have HM := Lib.hid hm
  have j0 := jx0
  have j1 := jx1
  have d1' : decide (R.length < 1) = false := decide_eq_false (by omega)
  have d2' : decide (256 < R.length) = false := decide_eq_false (by omega)
  have d1 : decide ((R.length : Int) < 1) = false := decide_eq_false (by omega)
  have d2 : decide ((256 : Int) < (R.length : Int)) = false := decide_eq_false (by omega)
  have hm9 : (m : Int) ≤ 9223372036854775807 := by omega
  have hn9 : (n : Int) ≤ 9223372036854775807 := by omega
  clear hn hm hA hB hC hnd hin hrf
  go_enter Try.func32, Try.ntmps32
  go_wp2_with fail
  refine wp_loop_rounds 3 ?_
  rw [rounds_succ]
  go_wp2_with fail
  go_loopw [31] (fun i wr => ∃ (k : Nat) (D : DataW Unit), k ≤ n ∧ i = .int .i64 k ∧ mapW wr (w.heap.size + 1) (0 + k) D ∧ Cnt D (La.take k) ∧ Ev w wr ∧ BL wr w.heap.size A n c B m d C R.length e) (fun i _ => n - (intOf i).toNat)
  case atStart => exact ⟨0, .map [], by omega, rfl, HM0.out, Cnt.nil, HE0.out.alloc _, HBX.out.ev ((Ev.refl _).alloc _)⟩
  case round =>
    obtain ⟨k, D, hk, rfl, hown, hcnt, hev, hbx⟩ := hrel
    have HO := Lib.hid hown
    have HCN := Lib.hid hcnt
    have HEV := Lib.hid hev
    have HBL := Lib.hid hbx
    clear hown hcnt hev hbx
    by_cases hlt : k < n
    · obtain ⟨b, o, hAeq, hb, c1⟩ := (HA.out.ev HEV.out).2 k (by rw [HN.out]; exact hlt)
      have hkL : k < La.length := by rw [HN.out]; exact hlt
      have hmem : La.getD k 0 ∈ La ++ Li := List.mem_append_left _ (by simp [List.getD, hkL])
      have HIS := Lib.hid (IS.out _ hmem)
      have HKEY : Hid (keyOf Try.prog 3 (.int .i64 (La.getD k 0)) = some (.int .i64 (La.getD k 0))) := Lib.hid (keyOf_int_mk Try.underlying3 (mem_i64 HIN.out hmem))
      have HNOT : Hid (La.getD k 0 ∉ La.take k) := Lib.hid (not_take (List.nodup_append.1 HND.out).1 hkL)
      have HS : Hid (La.take (k + 1) = La.take k ++ [La.getD k 0]) := Lib.hid (take_succ' La k hkL)
      have hlt' : (k : Int) < (n : Int) := by omega
      have hk0 : 0 ≤ (k : Int) := by omega
      clear hmem hkL
      generalize La.getD k 0 = y at *
      generalize La.take k = S at *
      generalize hb1 : 0 + k = kb at *
      have hkm : kb < maxLen := by unfold maxLen; omega
      have HB1 := Lib.hid hb1
      clear hb1
      subst hAeq
      obtain ⟨l1, x0, x1, x2⟩ := HBL.out
      go_wp2_with fail
      refine (HIS.out _).mono ?_
      rintro e w2 ⟨rfl, hev⟩
      have HO2 : Hid (mapW w2 (w.heap.size + 1) kb D) := Lib.hid (HO.out.kept hev.grownBy (by simp))
      have HE2 := Lib.hid (HEV.out.step hev)
      have HB2 := Lib.hid (HBL.out.ev hev)
      clear hev l1 x0 x1 x2 c1
      have tok1 : True := trivial
      go_wp2_with (first
        | (at_lookup; have _t := tok1; refine wpList_lookup_own_int _ rfl _ _ 66 rfl 3 3 .i64 law3 Try.underlying66 Try.underlying3 (zero3 _) (w.heap.size + 1) kb _ rfl HO2.out _ _ rfl HKEY.out ?_; intro cc hat hwc; have hc0 : cc = 0 := (by rw [HCN.out.2 y, if_neg HNOT.out] at hat; simpa using hat.symm); subst hc0; clear hat hwc tok1 _t)
        | (at_mapUpdate; refine wpList_mapUpdate_own _ rfl _ _ _ 66 rfl 3 3 law3 Try.underlying66 _ (w.heap.size + 1) kb _ rfl HO2.out hkm _ _ _ rfl rfl HKEY.out _ [] (plainElem_int Try.underlying3 (by decide)) ?_; intro w3 hown3 hgrow3; have HO3 := Lib.hid hown3; have HG3 := Lib.hid hgrow3; clear hown3 hgrow3)
        | (at_lookup; refine wpList_lookup_own_int _ rfl _ _ 66 rfl 3 3 .i64 law3 Try.underlying66 Try.underlying3 (zero3 _) (w.heap.size + 1) (kb + 1) _ rfl HO3.out _ _ rfl HKEY.out ?_; intro cc hat hwc; have hc1 : cc = 1 := (by rw [atKey_put_same HCN.out.1 (by trivial)] at hat; simpa using hat.symm); subst hc1; clear hat hwc))
      have HE3 : Hid (Ev w w3) := Lib.hid (Ev.grown HE2.out HG3.out (fun j hj => by cases hj; omega))
      have HB3 := Lib.hid (BL.grown HB2.out HG3.out (by simp))
      go_roundw
      case rel => exact ⟨k + 1, _, by omega, by go_num, by first | (rw [show 0 + (k + 1) = kb + 1 from by rw [← HB1.out]; omega]; exact HO3.out) | exact HO3.out, by rw [HS.out]; exact HCN.out.put, HE3.out, HB3.out⟩
      case measure => simp [intOf]; omega
    · obtain rfl : k = n := by omega
      have hS0 : La.take k = La := List.take_of_length_le (by rw [HN.out]; exact Nat.le_refl _)
      rw [hS0] at HCN
      rw [Nat.zero_add] at HO
      clear hS0
      obtain ⟨l1, x0, x1, x2⟩ := HBL.out
      go_wp2_with fail
      rw [rounds_succ]
      go_wp2_with fail
      clear l1 x0 x1 x2
      obtain ⟨wo, hwo⟩ : ∃ wo, wo = wr := ⟨_, rfl⟩
      rw [← hwo] at HO HEV HBL ⊢
      clear hwo
      go_loopw [31] (fun i wr => ∃ (q : Nat) (D : DataW Unit), q ≤ m ∧ i = .int .i64 q ∧ mapW wr (w.heap.size + 1) (k + q) D ∧ Cnt D (La ++ Li.take q) ∧ Ev w wr ∧ BL wr w.heap.size A k c B m d C R.length e) (fun i _ => m - (intOf i).toNat)
      case atStart => exact ⟨0, D, by omega, rfl, HO.out, by simpa using HCN.out, HEV.out, HBL.out⟩
      case round =>
        obtain ⟨q, D, hk, rfl, hown, hcnt, hev, hbx⟩ := hrel
        have HO := Lib.hid hown
        have HCN := Lib.hid hcnt
        have HEV := Lib.hid hev
        have HBL := Lib.hid hbx
        clear hown hcnt hev hbx
        by_cases hlt : q < m
        · obtain ⟨b, o, hAeq, hb, c1⟩ := (HB.out.ev HEV.out).2 q (by rw [HM.out]; exact hlt)
          have hkL : q < Li.length := by rw [HM.out]; exact hlt
          have hmem : Li.getD q 0 ∈ La ++ Li := List.mem_append_right _ (by simp [List.getD, hkL])
          have HIS := Lib.hid (IS.out _ hmem)
          have HKEY : Hid (keyOf Try.prog 3 (.int .i64 (Li.getD q 0)) = some (.int .i64 (Li.getD q 0))) := Lib.hid (keyOf_int_mk Try.underlying3 (mem_i64 HIN.out hmem))
          have HNOT : Hid (Li.getD q 0 ∉ La ++ Li.take q) := Lib.hid (by have h := not_take (l := La ++ Li) HND.out (k := k + q) (by rw [List.length_append, HN.out, HM.out]; omega); rw [← HN.out, List.take_length_add_append] at h; rwa [show (La ++ Li).getD (La.length + q) 0 = Li.getD q 0 from by simp [List.getD, List.getElem?_append_right]] at h)
          have HS : Hid (La ++ Li.take (q + 1) = La ++ Li.take q ++ [Li.getD q 0]) := Lib.hid (by rw [take_succ' Li q hkL, List.append_assoc])
          have hlt' : (q : Int) < (m : Int) := by omega
          have hk0 : 0 ≤ (q : Int) := by omega
          clear hmem hkL
          generalize Li.getD q 0 = y at *
          generalize La ++ Li.take q = S at *
          generalize hb1 : k + q = kb at *
          have hkm : kb < maxLen := by unfold maxLen; omega
          have HB1 := Lib.hid hb1
          clear hb1
          subst hAeq
          obtain ⟨l1, x0, x1, x2⟩ := HBL.out
          go_wp2_with fail
          refine (HIS.out _).mono ?_
          rintro e w2 ⟨rfl, hev⟩
          have HO2 : Hid (mapW w2 (w.heap.size + 1) kb D) := Lib.hid (HO.out.kept hev.grownBy (by simp))
          have HE2 := Lib.hid (HEV.out.step hev)
          have HB2 := Lib.hid (HBL.out.ev hev)
          clear hev l1 x0 x1 x2 c1
          have tok1 : True := trivial
          go_wp2_with (first
            | (at_lookup; have _t := tok1; refine wpList_lookup_own_int _ rfl _ _ 66 rfl 3 3 .i64 law3 Try.underlying66 Try.underlying3 (zero3 _) (w.heap.size + 1) kb _ rfl HO2.out _ _ rfl HKEY.out ?_; intro cc hat hwc; have hc0 : cc = 0 := (by rw [HCN.out.2 y, if_neg HNOT.out] at hat; simpa using hat.symm); subst hc0; clear hat hwc tok1 _t)
            | (at_mapUpdate; refine wpList_mapUpdate_own _ rfl _ _ _ 66 rfl 3 3 law3 Try.underlying66 _ (w.heap.size + 1) kb _ rfl HO2.out hkm _ _ _ rfl rfl HKEY.out _ [] (plainElem_int Try.underlying3 (by decide)) ?_; intro w3 hown3 hgrow3; have HO3 := Lib.hid hown3; have HG3 := Lib.hid hgrow3; clear hown3 hgrow3)
            | (at_lookup; refine wpList_lookup_own_int _ rfl _ _ 66 rfl 3 3 .i64 law3 Try.underlying66 Try.underlying3 (zero3 _) (w.heap.size + 1) (kb + 1) _ rfl HO3.out _ _ rfl HKEY.out ?_; intro cc hat hwc; have hc1 : cc = 1 := (by rw [atKey_put_same HCN.out.1 (by trivial)] at hat; simpa using hat.symm); subst hc1; clear hat hwc))
          have HE3 : Hid (Ev w w3) := Lib.hid (Ev.grown HE2.out HG3.out (fun j hj => by cases hj; omega))
          have HB3 := Lib.hid (BL.grown HB2.out HG3.out (by simp))
          go_roundw
          case rel => exact ⟨q + 1, _, by omega, by go_num, by first | (rw [show k + (q + 1) = kb + 1 from by rw [← HB1.out]; omega]; exact HO3.out) | exact HO3.out, by rw [HS.out]; exact HCN.out.put, HE3.out, HB3.out⟩
          case measure => simp [intOf]; omega
        · obtain rfl : q = m := by omega
          have hS0 : Li.take q = Li := List.take_of_length_le (by rw [HM.out]; exact Nat.le_refl _)
          rw [hS0] at HCN
          clear hS0
          obtain ⟨l1, x0, x1, x2⟩ := HBL.out
          go_wp2_with fail
          rw [rounds_succ]
          go_wp2_with fail
          clear l1 x0 x1 x2
          obtain ⟨w5, hw5⟩ : ∃ w5, w5 = wr := ⟨_, rfl⟩
          rw [← hw5] at HO HEV HBL ⊢
          clear hw5
          have HO5 := HO
          have HE5 := HEV
          go_loopw [52] (fun i wr => ∃ j : Nat, j ≤ R.length ∧ i = .int .i64 j ∧ Ev w5 wr) (fun i _ => R.length - (intOf i).toNat)
          case atStart => exact ⟨0, by omega, rfl, Ev.refl _⟩
          case round =>
            obtain ⟨j, hj, rfl, hev⟩ := hrel
            have HEJ := Lib.hid hev
            clear hev
            by_cases hlt : j < R.length
            · obtain ⟨b, o, rfl, hb, c1⟩ := (HC.out.ev (HE5.out.step HEJ.out)).2 j hlt
              have HRJ := Lib.hid (HRF.out j hlt)
              have HO6 := Lib.hid (HO5.out.kept HEJ.out.grownBy (by simp))
              have hkey : (Lit.int .i64 (j : Int)).wf = true := by simp [Lit.wf, IntKind.min, IntKind.max, IntKind.signed, IntKind.bits]; omega
              have HKEY : Hid (keyOf Try.prog 3 (.int .i64 (j : Int)) = some (.int .i64 (j : Int))) := Lib.hid (keyOf_int_mk Try.underlying3 hkey)
              have hlt' : (j : Int) < (R.length : Int) := by omega
              have hj0 : 0 ≤ (j : Int) := by omega
              clear hkey
              cases hR : R.getD j false with
              | false =>
                rw [hR] at c1
                clear hR HRJ
                go_wp2_with fail
                go_roundw
                case rel => exact ⟨j + 1, by omega, by go_num, HEJ.out⟩
                case measure => simp [intOf]; omega
              | true =>
                rw [hR] at c1
                have HIN2 := Lib.hid (HRJ.out hR)
                clear hR HRJ
                obtain ⟨cc, hrun, hat, -⟩ := HO6.out.lookup_int law3 Try.underlying66 Try.underlying3 (zero3 _) HKEY.out
                have hc1 : cc = 1 := by rw [HCN.out.2 (j : Int), if_pos HIN2.out] at hat; simpa using hat.symm
                subst hc1
                clear hat
                go_wp2_with fail
                go_roundw
                case rel => exact ⟨j + 1, by omega, by go_num, HEJ.out⟩
                case measure => simp [intOf]; omega
            · obtain rfl : j = R.length := by omega
              go_wp2_with fail
              go_ret
              exact ⟨rfl, HE5.out.step HEJ.out⟩
end Go.Proofs.Yteilclbpehmbpaa
