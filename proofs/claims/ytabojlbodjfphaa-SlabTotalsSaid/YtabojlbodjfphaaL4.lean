import Derived.Test.YtabojlbodjfphaaL3
namespace Go.Proofs.Ytabojlbodjfphaa
open Go.RowKit Go.Shelf
theorem info23 : (Try.prog.info? 23).map (fun i => (i.zero, i.size, i.bytes)) = some (some (.agg #[.int .i64 0, .int .u8 0]), 2, 16) := by kernel_rfl
/-- slabs as cells -/
def flatL : List Sl → List Value
  | [] => []
  | (f, u) :: r => .int .i64 f :: .int .u8 (u : Int) :: flatL r
theorem flatL_len (s : List Sl) : (flatL s).length = s.length * 2 := by
  induction s with
  | nil => rfl
  | cons a s ih => obtain ⟨f, t⟩ := a; simp [flatL, ih]; omega
theorem flatL_app (s r : List Sl) : flatL (s ++ r) = flatL s ++ flatL r := by
  induction s with
  | nil => rfl
  | cons a s ih => obtain ⟨f, t⟩ := a; simp [flatL, ih]
theorem flatL_get (L : List Sl) : ∀ j, j < L.length → (flatL L)[j * 2]? = some (.int .i64 (L.getD j (0, 0)).1) ∧ (flatL L)[j * 2 + 1]? = some (.int .u8 ((L.getD j (0, 0)).2 : Int)) := by
  induction L with
  | nil => intro j hj; simp at hj
  | cons x L ih =>
    obtain ⟨f, t⟩ := x
    intro j hj
    rcases j with _ | j
    · simp [flatL]
    · have := ih j (by simpa using hj)
      rw [show (j + 1) * 2 = j * 2 + 2 from by omega]
      simpa [flatL] using this
theorem RdS.of_own {w : World} {base : Nat} {v : Value} {L : List Sl} (h : w.ownsRow base 23 2 v L.length (flatL L)) (hl : L.length ≤ 9223372036854775807) (hu : ∀ j, j < L.length → us L j < 256) : ∃ A cap, v = .slice A L.length cap ∧ RdS w A L := by
  rcases h.2 with ⟨rfl, h0⟩ | ⟨g, cap, cur, rfl, hbg, hh, hn, hc, hs, ht⟩
  · have e : L = [] := List.eq_nil_of_length_eq_zero h0
    subst e
    exact ⟨none, 0, rfl, by simp, fun j hj => by simp at hj⟩
  · refine ⟨some ⟨g, 0, none⟩, cap, rfl, hl, fun j hj => ⟨hu j hj, g, 0, rfl, (h.lt g rfl).2, ?_, ?_⟩⟩
    · rw [Nat.zero_add, World.ownsRow.cellAt h (j * 2) (by omega)]
      exact (flatL_get L j hj).1
    · rw [Nat.zero_add, World.ownsRow.cellAt h (j * 2 + 1) (by omega)]
      exact (flatL_get L j hj).2
def uN (l : List Int) (i : Nat) : Nat := 1 + (l.getD i 0 % 255).toNat
theorem uN_bd (l : List Int) (i : Nat) : 1 ≤ uN l i ∧ uN l i < 256 := by
  unfold uN
  have := Int.emod_lt_of_pos (l.getD i 0) (show (0 : Int) < 255 by omega)
  have := Int.emod_nonneg (l.getD i 0) (show (255 : Int) ≠ 0 by omega)
  omega
def mkL (l : List Int) (k : Nat) : List Sl := (List.range k).map fun i : Nat => (3 * (i : Int), uN l i)
theorem mkL_succ (l : List Int) (k : Nat) : mkL l (k + 1) = mkL l k ++ [(3 * (k : Int), uN l k)] := by simp [mkL, List.range_succ]
theorem mkL_len (l : List Int) (k : Nat) : (mkL l k).length = k := by simp [mkL]
theorem mkL_us (l : List Int) {k j : Nat} (h : j < k) : us (mkL l k) j = uN l j := by simp [us, mkL, List.getD, h]
theorem mkL_fr (l : List Int) {k j : Nat} (h : j < k) : fr (mkL l k) j = 3 * (j : Int) := by simp [fr, mkL, List.getD, h]
theorem mkL_ok (l : List Int) {k : Nat} (hk : k ≤ 40) : ∀ j, j < (mkL l k).length → erK (mkL l k) j = 0 := by
  intro j hj
  rw [mkL_len] at hj
  have hu := uN_bd l j
  unfold erK
  rw [mkL_fr l hj, mkL_us l hj, show ckE (3 * (j : Int)) = 0 from if_pos (by omega), if_neg (by decide), if_neg (by omega)]
  by_cases h0 : 0 < j
  · rw [mkL_fr l (show j - 1 < k by omega), if_neg (by omega)]
  · rw [if_neg (fun h => h0 h.1)]
theorem sumC_ext (L M : List Sl) (n : Nat) (h : ∀ j, j < n → us L j = us M j) : sumC L n = sumC M n := by
  induction n with
  | zero => rfl
  | succ n ih => rw [sumC, sumC, ih (fun j hj => h j (by omega)), h n (by omega)]
/-- the first slab with room, so far -/
def fi (l : List Int) : Nat → Int
  | 0 => -1
  | k + 1 => if fi l k < 0 ∧ uN l k ≠ 255 then (k : Int) else fi l k
theorem fi_spec (l : List Int) (n : Nat) : (fi l n = -1 ∧ ∀ j, j < n → uN l j = 255) ∨ ∃ m, m < n ∧ fi l n = (m : Int) ∧ uN l m ≠ 255 ∧ ∀ j, j < m → uN l j = 255 := by
  induction n with
  | zero => left; exact ⟨rfl, fun j hj => by omega⟩
  | succ n ih =>
    rw [fi]
    rcases ih with ⟨h1, h2⟩ | ⟨m, h1, h2, h3, h4⟩
    · by_cases hu : uN l n = 255
      · left
        rw [if_neg (fun h => h.2 hu)]
        refine ⟨h1, fun j hj => ?_⟩
        rcases Nat.lt_succ_iff_lt_or_eq.1 hj with h | rfl
        · exact h2 j h
        · exact hu
      · right
        rw [if_pos ⟨by omega, hu⟩]
        exact ⟨n, by omega, rfl, hu, h2⟩
    · right
      rw [if_neg (by omega)]
      exact ⟨m, by omega, h2, h3, h4⟩
theorem cn_lt8 {u : Nat} (h : u < 256) : (u ≠ 255 ∧ (cn u : Int) < 8) ∨ (u = 255 ∧ ¬ (cn u : Int) < 8) := by
  have hc := (cnF ⟨u, h⟩).2.2.2
  have hl := (cnF ⟨u, h⟩).2.1
  simp only at hc hl
  by_cases he : u = 255
  · right; exact ⟨he, by have := hc.2 he; omega⟩
  · left; exact ⟨he, by have := fun e => he (hc.1 e); omega⟩
set_option maxRecDepth 100000 in
set_option maxHeartbeats 4000000 in
theorem totals_law (A : Option Addr) (cap : Nat) (l : List Int) (w : World) (hr : RdI w A l) : Calls Try.prog 9 #[.slice A l.length cap] w fun x w' => x = .returned (.bool true) ∧ Ev w w' := by
  have HR := Lib.hid hr
  have hn := hr.1
  have M := Lib.hid fun n W => mod_any n 255 W (by omega) (by omega)
  have HCN : Hid (∀ f u W, 0 ≤ f → f < 256 → u < 256 → Calls Try.prog 14 #[sl f u] W fun e w' => e = .returned (.tuple #[.int .i64 (cn u : Int), .int .i64 0]) ∧ Ev W w') := Lib.hid fun f u W h0 h1 hu => by
    have h := Count_any f u W hu
    rw [show ckE f = 0 from if_pos ⟨h0, h1⟩] at h
    exact h
  have AW := Lib.hid awake_any
  obtain ⟨i0, hi0, hz0, hz1, hz2⟩ := info_parts info23
  clear hr
  obtain ⟨N, hN⟩ : ∃ N, N = min l.length 40 := ⟨_, rfl⟩
  have hN1 : N ≤ 40 := by omega
  have hN2 : N ≤ l.length := by omega
  have HN3 : Hid (N = 40 ∨ N = l.length) := Lib.hid (by omega)
  clear hN
  go_enter Try.func9, Try.ntmps9
  go_wp2_with fail
  go_loopw [3, 4, 5, 6] (fun v s f i wr => ∃ k : Nat, k ≤ N ∧ i = .int .i64 k ∧ s = .int .i64 (sumC (mkL l k) k : Int) ∧ f = .int .i64 (fi l k) ∧ wr.ownsRow w.heap.size 23 2 v k (flatL (mkL l k)) ∧ Ev w wr) (fun _ _ _ i _ => N - (intOf i).toNat)
  case atStart => exact ⟨0, by omega, rfl, rfl, rfl, World.ownsRow_nil _ _ _ _, Ev.refl w⟩
  case round =>
    obtain ⟨k, hk, rfl, rfl, rfl, hown, hev⟩ := hrel
    have HOWN := Lib.hid hown
    have HEV := Lib.hid hev
    clear hown hev
    by_cases hlt : k < N
    · have hkl : k < l.length := by omega
      have hk40 : (k : Int) < 40 := by omega
      have hkl' : (k : Int) < (l.length : Int) := by omega
      have hk0 : 0 ≤ (k : Int) := by omega
      obtain ⟨b, o, rfl, hb, c1⟩ := (HR.out.ev HEV.out).2 k hkl
      obtain ⟨u1, u2⟩ := uN_bd l k
      have hq : 1 + l.getD k 0 % 255 = (uN l k : Int) := by unfold uN; have := Int.emod_nonneg (l.getD k 0) (show (255 : Int) ≠ 0 by omega); omega
      have hm1 : 0 ≤ l.getD k 0 % 255 ∧ l.getD k 0 % 255 < 255 := ⟨Int.emod_nonneg _ (by omega), Int.emod_lt_of_pos _ (by omega)⟩
      have HM := Lib.hid (M.out (l.getD k 0))
      have HS1 : Hid (sumC (mkL l (k + 1)) (k + 1) = sumC (mkL l k) k + cn (uN l k)) := Lib.hid (by rw [sumC, mkL_us l (by omega), sumC_ext (mkL l (k + 1)) (mkL l k) k (fun j hj => by rw [mkL_us l (by omega), mkL_us l (by omega)])])
      have HS2 : Hid (fi l (k + 1) = if fi l k < 0 ∧ uN l k ≠ 255 then (k : Int) else fi l k) := Lib.hid rfl
      have HS3 : Hid (flatL (mkL l (k + 1)) = flatL (mkL l k) ++ [.int .i64 (3 * (k : Int)), .int .u8 (uN l k : Int)]) := Lib.hid (by rw [mkL_succ, flatL_app]; rfl)
      have hsb : sumC (mkL l k) k ≤ 8 * k := sumC_le _ _ (fun j hj => by rw [mkL_us l (by omega)]; exact (uN_bd l j).2)
      have hcb := cn_le u2
      have hcs := cn_lt8 u2
      have HC := Lib.hid fun W => HCN.out (3 * (k : Int)) (uN l k) W (by omega) (by omega) u2
      generalize l.getD k 0 % 255 = md at *
      generalize l.getD k 0 = x at *
      generalize sumC (mkL l k) k = s at *
      generalize flatL (mkL l k) = fl at *
      generalize cn (uN l k) = cc at *
      generalize uN l k = u at *
      generalize fi l k = ff at *
      obtain ⟨m1, m2⟩ := hm1
      have hw1 : (1 + md) % 256 = (u : Int) := by omega
      have HB := Lib.hid (BS.new wr (3 * (k : Int)) u)
      have HE := Lib.hid (HEV.out.alloc (slO (3 * (k : Int)) u))
      go_wp2_with fail
      refine (HM.out _).mono ?_
      rintro e w1 ⟨rfl, rfl⟩
      go_wp2_with fail
      refine (HC.out _).mono ?_
      rintro e w2 ⟨rfl, hev⟩
      have HB := Lib.hid (HB.out.ev hev)
      have HE := Lib.hid (HE.out.step hev)
      have HO2 := Lib.hid (Ev.own hev (HOWN.out.alloc (slO (3 * (k : Int)) u)))
      clear hev c1
      obtain ⟨l1, d1, d2, -, -⟩ := HB.out
      have hge := Lib.hid (row_ge HO2.out)
      have H3 : Hid (k + 1 ≤ maxLen) := Lib.hid (by unfold maxLen; omega)
      have H4 : Hid ((k + 1) * 16 ≤ 140737488355328) := Lib.hid (by omega)
      have H5 : Hid (∀ o, w.heap.size ≤ (w2.alloc o).heap.size) := Lib.hid (by intro o; have := HE.out.sz; simp; omega)
      have hlast : ∀ y : Int, fi l (k + 1) = y → (∃ v : Int, v = y) := fun y _ => ⟨y, rfl⟩
      clear hlast
      rcases (show (cc < 8 ∧ u ≠ 255 ∧ ff < 0 ∧ (cc : Int) < 8) ∨ (u ≠ 255 ∧ ¬ ff < 0 ∧ (cc : Int) < 8) ∨ (u = 255 ∧ ¬ (cc : Int) < 8) by
        rcases hcs with ⟨h1, h2⟩ | ⟨h1, h2⟩
        · by_cases hf : ff < 0
          · left; exact ⟨by omega, h1, hf, h2⟩
          · right; left; exact ⟨h1, hf, h2⟩
        · right; right; exact ⟨h1, by omega⟩) with ⟨-, h1, h2, h3⟩ | ⟨h1, h2, h3⟩ | ⟨h1, h3⟩
      · rw [if_pos ⟨h2, h1⟩] at HS2
        clear hcs h1 hq hw1 m1 m2 u1 u2
        go_wp2_with (at_builtin; go_loud (refine wpList_append_own _ rfl _ _ 41 rfl w.heap.size 23 i0 (.agg #[.int .i64 0, .int .u8 0]) 2 16 Try.underlying41 hi0 hz0 hz1 hz2 rfl (by decide) _ k fl rfl (HO2.out.alloc _) ⟨w2.heap.size, 0, none⟩ 1 1 [.int .i64 (3 * (k : Int)), .int .u8 (u : Int)] rfl rfl (cell_two_new _ _ _ _) (by simp [Value.oneCell']) H3.out H4.out (H5.out _) ?_); intro v1 w4 hown4 hg4 _)
        have HW4 := Lib.hid (Ev.grown (HE.out.alloc _) hg4 (fun g hg => hge.out g hg))
        have HOW4 := Lib.hid hown4
        clear hg4 hown4 l1 d1 d2
        go_wp2_with fail
        go_roundw
        case rel => exact ⟨k + 1, by omega, by go_num, by rw [HS1.out]; go_num, by rw [HS2.out], by rw [HS3.out]; exact HOW4.out, HW4.out⟩
        case measure => simp [intOf]; omega
      · rw [if_neg (fun h => h2 h.1)] at HS2
        have h2' : decide (ff < 0) = false := decide_eq_false (by omega)
        clear h2
        clear hcs h1 hq hw1 m1 m2 u1 u2
        go_wp2_with (at_builtin; go_loud (refine wpList_append_own _ rfl _ _ 41 rfl w.heap.size 23 i0 (.agg #[.int .i64 0, .int .u8 0]) 2 16 Try.underlying41 hi0 hz0 hz1 hz2 rfl (by decide) _ k fl rfl (HO2.out.alloc _) ⟨w2.heap.size, 0, none⟩ 1 1 [.int .i64 (3 * (k : Int)), .int .u8 (u : Int)] rfl rfl (cell_two_new _ _ _ _) (by simp [Value.oneCell']) H3.out H4.out (H5.out _) ?_); intro v1 w4 hown4 hg4 _)
        have HW4 := Lib.hid (Ev.grown (HE.out.alloc _) hg4 (fun g hg => hge.out g hg))
        have HOW4 := Lib.hid hown4
        clear hg4 hown4 l1 d1 d2
        go_wp2_with fail
        go_roundw
        case rel => exact ⟨k + 1, by omega, by go_num, by rw [HS1.out]; go_num, by rw [HS2.out], by rw [HS3.out]; exact HOW4.out, HW4.out⟩
        case measure => simp [intOf]; omega
      · rw [if_neg (fun h => h.2 h1)] at HS2
        have h3' : decide ((cc : Int) < 8) = false := decide_eq_false (by omega)
        clear h3
        clear hcs h1 hq hw1 m1 m2 u1 u2
        go_wp2_with (at_builtin; go_loud (refine wpList_append_own _ rfl _ _ 41 rfl w.heap.size 23 i0 (.agg #[.int .i64 0, .int .u8 0]) 2 16 Try.underlying41 hi0 hz0 hz1 hz2 rfl (by decide) _ k fl rfl (HO2.out.alloc _) ⟨w2.heap.size, 0, none⟩ 1 1 [.int .i64 (3 * (k : Int)), .int .u8 (u : Int)] rfl rfl (cell_two_new _ _ _ _) (by simp [Value.oneCell']) H3.out H4.out (H5.out _) ?_); intro v1 w4 hown4 hg4 _)
        have HW4 := Lib.hid (Ev.grown (HE.out.alloc _) hg4 (fun g hg => hge.out g hg))
        have HOW4 := Lib.hid hown4
        clear hg4 hown4 l1 d1 d2
        go_wp2_with fail
        go_roundw
        case rel => exact ⟨k + 1, by omega, by go_num, by rw [HS1.out]; go_num, by rw [HS2.out], by rw [HS3.out]; exact HOW4.out, HW4.out⟩
        case measure => simp [intOf]; omega
    · obtain rfl : k = N := by omega
      have hu : ∀ j, j < (mkL l k).length → us (mkL l k) j < 256 := fun j hj => by rw [mkL_len] at hj; rw [mkL_us l hj]; exact (uN_bd l j).2
      have hlen := mkL_len l k
      obtain ⟨A', c', hv, hR⟩ := RdS.of_own (by rw [hlen]; exact HOWN.out) (by omega) hu
      have HT : Hid (∀ W, Ev wr W → Calls Try.prog 30 #[.slice A' k c'] W fun e w' => e = .returned (.tuple #[.int .i64 (sumC (mkL l k) k : Int), .int .i64 0]) ∧ Ev W w') := Lib.hid fun W e => by
        have h := Total_ok A' c' (mkL l k) W (hR.ev e) (by omega) (mkL_ok l hN1)
        rw [hlen] at h
        exact h
      have HF : Hid (∀ W, Ev wr W → Calls Try.prog 28 #[.slice A' k c'] W fun e w' => e = .returned (.tuple #[.int .i64 (fi l k), .int .i64 0]) ∧ Ev W w') := Lib.hid fun W e => by
        have h := First_ok A' c' (mkL l k) W (hR.ev e) (by omega) (mkL_ok l hN1) (fi l k) (by
          rw [hlen]
          rcases fi_spec l k with ⟨h1, h2⟩ | ⟨m, h1, h2, h3, h4⟩
          · left; exact ⟨h1, fun j hj => by rw [mkL_us l hj]; exact h2 j hj⟩
          · right; exact ⟨m, h1, h2, by rw [mkL_us l h1]; exact h3, fun j hj => by rw [mkL_us l (by omega)]; exact h4 j hj⟩)
        rw [hlen] at h
        exact h
      rw [hlen] at hv
      generalize sumC (mkL l k) k = s at *
      generalize fi l k = ff at *
      subst hv
      have e1 : ((s : Int) == (s : Int)) = true := by simp
      have e2 : (ff == ff) = true := by simp
      clear hu hR hlen HOWN
      rcases HN3.out with rfl | hN3
      · by_cases h40 : (40 : Int) < (l.length : Int)
        all_goals
          go_wp2_with fail
          refine (HT.out _ (Ev.refl _)).mono ?_
          rintro e w1 ⟨rfl, hev⟩
          have HE := Lib.hid hev
          clear hev
          go_wp2_with fail
          refine (HF.out _ HE.out).mono ?_
          rintro e w2 ⟨rfl, hev⟩
          have HE := Lib.hid (HE.out.step hev)
          clear hev
          go_wp2_with fail
          refine (AW.out _).mono ?_
          rintro e w3 ⟨rfl, hev⟩
          have hE := HEV.out.step (HE.out.step hev)
          clear hev
          go_wp2_with fail
          go_ret
          exact ⟨rfl, hE⟩
      · have hlt' : ¬ (k : Int) < (l.length : Int) := by omega
        clear hN3 HN3
        go_wp2_with fail
        refine (HT.out _ (Ev.refl _)).mono ?_
        rintro e w1 ⟨rfl, hev⟩
        have HE := Lib.hid hev
        clear hev
        go_wp2_with fail
        refine (HF.out _ HE.out).mono ?_
        rintro e w2 ⟨rfl, hev⟩
        have HE := Lib.hid (HE.out.step hev)
        clear hev
        go_wp2_with fail
        refine (AW.out _).mono ?_
        rintro e w3 ⟨rfl, hev⟩
        have hE := HEV.out.step (HE.out.step hev)
        clear hev
        go_wp2_with fail
        go_ret
        exact ⟨rfl, hE⟩
end Go.Proofs.Ytabojlbodjfphaa
