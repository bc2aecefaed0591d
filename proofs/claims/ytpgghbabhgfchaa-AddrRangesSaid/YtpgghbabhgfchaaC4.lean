import Derived.Test.YtpgghbabhgfchaaC2
namespace Go.Proofs.Ytpgghbabhgfchaa
open Go.RowKit
def cvB (k : Nat) (x : Int × Int) : Bool := mkS (pgs x.1.toNat x.2.toNat) k
theorem bL_eq (l : List (Int × Int)) (k : Nat) : bL l k = l.any (cvB k) := rfl
theorem cvB_iff {x : Int × Int} (h : okR x = true) (k : Nat) : cvB k x = true ↔ x.1 / 8 ≤ (k : Int) ∧ (k : Int) ≤ x.2 / 8 := by
  obtain ⟨h1, h2, h3⟩ := (okR_iff x).1 h
  unfold cvB
  rw [mkS_pgs _ _ _ (by omega) (by omega), decide_eq_true_iff]
  omega
theorem getD_mem {l : List (Int × Int)} {i : Nat} (h : i < l.length) : l.getD i (0, 0) ∈ l := by
  rw [List.getD_eq_getElem?_getD, List.getElem?_eq_getElem h]
  exact List.getElem_mem h
theorem all_of {l : List (Int × Int)} (h : ∀ j, j < l.length → okR (l.getD j (0, 0)) = true) : l.all okR = true := by
  rw [List.all_eq_true]
  intro x hx
  obtain ⟨i, hi, e⟩ := List.getElem_of_mem hx
  have := h i hi
  rw [List.getD_eq_getElem?_getD, List.getElem?_eq_getElem hi] at this
  simpa [e] using this
theorem all_not {l : List (Int × Int)} {j : Nat} (hj : j < l.length) (h : okR (l.getD j (0, 0)) = false) : l.all okR = false := by
  cases hc : l.all okR with
  | false => rfl
  | true =>
    rw [List.all_eq_true] at hc
    rw [hc _ (getD_mem hj)] at h
    cases h
theorem any_of {l : List (Int × Int)} {p : Int × Int → Bool} {j : Nat} (hj : j < l.length) (h : p (l.getD j (0, 0)) = true) : l.any p = true := List.any_eq_true.2 ⟨_, getD_mem hj, h⟩
theorem any_not {l : List (Int × Int)} {p : Int × Int → Bool} (h : ∀ j, j < l.length → p (l.getD j (0, 0)) = false) : l.any p = false := by
  cases hc : l.any p with
  | false => rfl
  | true =>
    obtain ⟨x, hx, hp⟩ := List.any_eq_true.1 hc
    obtain ⟨i, hi, e⟩ := List.getElem_of_mem hx
    have := h i hi
    rw [List.getD_eq_getElem?_getD, List.getElem?_eq_getElem hi] at this
    simp [e, hp] at this
def CvQ (W : World) (L : List Int) (er : Int) (x : Ending) (w' : World) : Prop := ∃ A c, x = .returned (.tuple #[.slice A L.length c, .int .i64 er]) ∧ RdI w' A L ∧ Ev W w'
set_option maxRecDepth 100000 in
set_option maxHeartbeats 8000000 in
theorem rcover_any (A : Option Addr) (cap : Nat) (l : List (Int × Int)) (w : World) (hr : RdP w A l) (hl : l.length ≤ 70) :
    Calls Try.prog 24 #[.slice A l.length cap] w fun e w' => CvQ w (cvL l) (cvE l) e w' := by
  obtain ⟨i0, hi0, hz0, hz1, hz2⟩ := info_parts info3
  by_cases h64 : l.length ≤ 64
  · have d1 : decide ((64 : Int) < (l.length : Int)) = false := decide_eq_false (by omega)
    have d2 : decide (64 < l.length) = false := decide_eq_false (by omega)
    have HR := Lib.hid hr
    have H64 := Lib.hid h64
    clear hr hl h64
    go_enter Try.func24, Try.ntmps24
    go_wp2_with fail
    clear d1 d2
    have hn64 : (l.length : Int) ≤ 64 := by have := H64.out; omega
    go_loopw [4] (fun i wr => ∃ m : Nat, m ≤ l.length ∧ i = .int .i64 m ∧ (∀ j, j < m → okR (l.getD j (0, 0)) = true) ∧ Ev w wr) (fun i _ => l.length - (intOf i).toNat)
    case atStart => exact ⟨0, by omega, rfl, (fun j hj => by omega), Ev.refl _⟩
    case round =>
      obtain ⟨m, hm, rfl, hok, hev⟩ := hrel
      have HOK := Lib.hid hok
      have HEV := Lib.hid hev
      clear hok hev
      by_cases hlt : m < l.length
      · obtain ⟨b, o, rfl, hb, c1, c2⟩ := (HR.out.ev HEV.out).2 m hlt
        have hlt' : (m : Int) < (l.length : Int) := by omega
        have hm0 : 0 ≤ (m : Int) := by omega
        have HLT := Lib.hid hlt
        obtain ⟨x, hx⟩ : ∃ x, x = l.getD m (0, 0) := ⟨_, rfl⟩
        rw [← hx] at c1 c2
        have HX := Lib.hid hx
        clear hx hlt hb
        cases hk : okR x with
        | true =>
          have HK := Lib.hid hk
          have HC := Lib.hid fun W => rck_of (okR_yes hk) W
          clear hk
          go_wp2_with fail
          refine (HC.out _).mono ?_
          rintro e w2 ⟨rfl, hev⟩
          have HE2 := Lib.hid (HEV.out.step hev)
          clear hev
          go_wp2_with fail
          go_roundw
          case rel => exact ⟨m + 1, by have := HLT.out; omega, by go_num, (fun j hj => by
            by_cases h : j = m
            · subst h; rw [← HX.out]; exact HK.out
            · exact HOK.out j (by omega)), HE2.out⟩
          case measure => have := HLT.out; simp [intOf]; omega
        | false =>
          have HC := Lib.hid fun W => rck_of (okR_no hk) W
          have HV : Hid (cvL l = [] ∧ cvE l = 2) := Lib.hid (by
            have ha := all_not HLT.out (by rw [← HX.out]; exact hk)
            unfold cvL cvE
            rw [ha]
            simp
            exact H64.out)
          clear hk
          go_wp2_with fail
          refine (HC.out _).mono ?_
          rintro e w2 ⟨rfl, hev⟩
          have HE2 := Lib.hid (HEV.out.step hev)
          clear hev
          go_wp2_with fail
          go_ret2
          rw [HV.out.1, HV.out.2]
          exact ⟨none, 0, rfl, RdI.nil _, HE2.out⟩
      · obtain rfl : m = l.length := by omega
        have HALL := Lib.hid (all_of HOK.out)
        have HV : Hid (cvL l = cvK (bL l) 8 ∧ cvE l = 0) := Lib.hid (by
          unfold cvL cvE
          rw [HALL.out, if_pos ⟨H64.out, rfl⟩, if_pos H64.out, if_pos rfl]
          exact ⟨rfl, rfl⟩)
        clear hlt hm
        go_wp2_with fail
        obtain ⟨w1, hw1⟩ : ∃ w1, w1 = wr := ⟨_, rfl⟩
        rw [← hw1] at HEV ⊢
        clear hw1
        go_loopw [6, 7] (fun v i wr => ∃ k : Nat, k ≤ 8 ∧ i = .int .i64 k ∧ OwnI wr w1.heap.size v (cvK (bL l) k) ∧ Ev w1 wr) (fun _ i _ => 8 - (intOf i).toNat)
        case atStart => exact ⟨0, by omega, rfl, World.ownsRow_nil _ _ _ _, Ev.refl _⟩
        case round =>
          obtain ⟨k, hk, rfl, hown, hev⟩ := hrel
          obtain ⟨vv, rfl⟩ : ∃ vv, vv = u6 := ⟨_, rfl⟩
          have HOWN := Lib.hid hown
          have HEV1 := Lib.hid hev
          clear hown hev
          by_cases hlt : k < 8
          · have hlt' : (k : Int) < 8 := by omega
            have hk0 : 0 ≤ (k : Int) := by omega
            have hlen := cvK_len (bL l) k
            have H3 : Hid ((cvK (bL l) k).length + 1 ≤ maxLen) := Lib.hid (by unfold maxLen; omega)
            have H4 : Hid (((cvK (bL l) k).length + 1) * 8 ≤ 140737488355328) := Lib.hid (by omega)
            have H5 : Hid (∀ o, w1.heap.size ≤ (wr.alloc o).heap.size) := Lib.hid (by intro o; have := HEV1.out.sz; simp; omega)
            have HCV : Hid (cvK (bL l) (k + 1) = if bL l k = true then cvK (bL l) k ++ [(k : Int)] else cvK (bL l) k) := Lib.hid rfl
            clear hlen
            go_wp2_with fail
            go_loop [6, 8] (fun v i => v = vv ∧ ∃ m : Nat, m ≤ l.length ∧ i = .int .i64 m ∧ (∀ j, j < m → cvB k (l.getD j (0, 0)) = false)) (fun _ i => l.length - (intOf i).toNat)
            case atStart => exact ⟨rfl, 0, by omega, rfl, (fun j hj => by omega)⟩
            case round =>
              obtain ⟨rfl, m, hm, rfl, hno⟩ := hrel
              have HNO := Lib.hid hno
              clear hno
              by_cases hlm : m < l.length
              · obtain ⟨b, o, rfl, hb, c1, c2⟩ := (HR.out.ev (HEV.out.step HEV1.out)).2 m hlm
                have hlm' : (m : Int) < (l.length : Int) := by omega
                have hm0 : 0 ≤ (m : Int) := by omega
                have HLM := Lib.hid hlm
                have hok := List.all_eq_true.1 HALL.out _ (getD_mem hlm)
                obtain ⟨x, hx⟩ : ∃ x, x = l.getD m (0, 0) := ⟨_, rfl⟩
                rw [← hx] at c1 c2 hok
                have HX := Lib.hid hx
                have hiff := cvB_iff hok k
                obtain ⟨x0, x1, x2⟩ := (okR_iff x).1 hok
                obtain ⟨f, t⟩ := x
                simp only [] at c1 c2 hiff x0 x1 x2
                have y1 : 0 ≤ t := by omega
                have y2 : f < 64 := by omega
                clear hx hlm hb hok
                by_cases q1 : f / 8 ≤ (k : Int)
                · by_cases q2 : (k : Int) ≤ t / 8
                  · have HB : Hid (bL l k = true) := Lib.hid (by rw [bL_eq]; exact any_of HLM.out (by rw [← HX.out]; exact hiff.2 ⟨q1, q2⟩))
                    clear hiff
                    go_wp2_with (at_builtin; go_loud (refine wpList_append_own _ rfl _ _ 37 rfl w1.heap.size 3 i0 (.int .i64 0) 1 8 Try.underlying37 hi0 hz0 hz1 hz2 rfl Nat.one_pos _ (cvK (bL l) k).length (IV (cvK (bL l) k)) rfl (HOWN.out.alloc _) ⟨wr.heap.size, 0, none⟩ 1 1 [.int .i64 (k : Int)] rfl rfl (one_cell _ _ _) (by simp [Value.oneCell']) H3.out H4.out (H5.out _) ?_); intro v1 w4 hown4 hg4 _; have hrow := HOWN.out.alloc (.cells #[.int .i64 (k : Int)] 3); have HW4 := Lib.hid (Ev.grown (HEV1.out.alloc (.cells #[.int .i64 (k : Int)] 3)) hg4 (fun g hg => (hrow.lt g hg).1)); have HO4 := Lib.hid hown4; clear hrow hg4 hown4)
                    go_roundw
                    case rel => exact ⟨k + 1, by omega, by go_num, by rw [HCV.out, if_pos HB.out]; simpa [OwnI, IV] using HO4.out, HW4.out⟩
                    case measure => simp [intOf]; omega
                  · have HB : Hid (cvB k (f, t) = false) := Lib.hid (by cases h : cvB k (f, t) with | false => rfl | true => exact absurd (hiff.1 h).2 q2)
                    clear hiff
                    go_wp2_with fail
                    go_round
                    case rel => exact ⟨rfl, m + 1, by have := HLM.out; omega, by go_num, (fun j hj => by
                      by_cases h : j = m
                      · subst h; rw [← HX.out]; exact HB.out
                      · exact HNO.out j (by omega))⟩
                    case measure => have := HLM.out; simp [intOf]; omega
                · have HB : Hid (cvB k (f, t) = false) := Lib.hid (by cases h : cvB k (f, t) with | false => rfl | true => exact absurd (hiff.1 h).1 q1)
                  clear hiff
                  go_wp2_with fail
                  go_round
                  case rel => exact ⟨rfl, m + 1, by have := HLM.out; omega, by go_num, (fun j hj => by
                    by_cases h : j = m
                    · subst h; rw [← HX.out]; exact HB.out
                    · exact HNO.out j (by omega))⟩
                  case measure => have := HLM.out; simp [intOf]; omega
              · obtain rfl : m = l.length := by omega
                have HB : Hid (bL l k = false) := Lib.hid (by rw [bL_eq]; exact any_not HNO.out)
                clear hlm hm
                go_wp2_with fail
                go_roundw
                case rel => exact ⟨k + 1, by omega, by go_num, by rw [HCV.out, if_neg (by rw [HB.out]; simp)]; exact HOWN.out, HEV1.out⟩
                case measure => simp [intOf]; omega
          · obtain rfl : k = 8 := by omega
            obtain ⟨A', c', rfl, h2⟩ := RdI.of_own HOWN.out (by have := cvK_len (bL l) 8; omega)
            have H2 := Lib.hid h2
            clear hlt hk h2
            go_wp2_with fail
            go_ret2
            rw [HV.out.1, HV.out.2]
            exact ⟨A', c', rfl, H2.out, HEV.out.step HEV1.out⟩
  · have d1 : decide ((64 : Int) < (l.length : Int)) = true := decide_eq_true (by omega)
    have d2 : decide (64 < l.length) = true := decide_eq_true (by omega)
    have HV : Hid (cvL l = [] ∧ cvE l = 5) := Lib.hid (by
      unfold cvL cvE
      rw [if_neg (by omega), if_neg (by omega)]
      exact ⟨rfl, rfl⟩)
    clear hr h64 hl
    go_enter Try.func24, Try.ntmps24
    go_wp2_with fail
    go_ret2
    rw [HV.out.1, HV.out.2]
    exact ⟨none, 0, rfl, RdI.nil _, Ev.refl _⟩
end Go.Proofs.Ytpgghbabhgfchaa
