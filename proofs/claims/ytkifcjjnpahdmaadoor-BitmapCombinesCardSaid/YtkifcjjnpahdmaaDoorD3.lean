import Derived.Test.YtkifcjjnpahdmaaDoorD2
import Derived.Deep.AppendLies
namespace Go.Proofs.YtkifcjjnpahdmaaDoor
open Go.RowKit
open Go.Deep

theorem box22 {a W : World} {u v u' v' : Value} {t t' : TypeId} (h : Below (a.heap.size + 2) ((a.alloc (.cells #[u, v] t)).alloc (.cells #[u', v'] t')) W) :
    W.cell? ⟨a.heap.size, 0, none⟩ = some u ∧ W.cell? ⟨a.heap.size, 1, none⟩ = some v ∧ W.cell? ⟨a.heap.size + 1, 0, none⟩ = some u' ∧ W.cell? ⟨a.heap.size + 1, 1, none⟩ = some v' ∧ W.frozen? ⟨a.heap.size + 1, 0, none⟩ = false ∧ W.frozen? ⟨a.heap.size + 1, 1, none⟩ = false :=
  ⟨(h.cell (p := ⟨a.heap.size, 0, none⟩) (by simp only []; omega)).trans (by simp), (h.cell (p := ⟨a.heap.size, 1, none⟩) (by simp only []; omega)).trans (by simp),
   (h.cell (p := ⟨a.heap.size + 1, 0, none⟩) (by simp only []; omega)).trans (by simp), (h.cell (p := ⟨a.heap.size + 1, 1, none⟩) (by simp only []; omega)).trans (by simp),
   (h.frozen (p := ⟨a.heap.size + 1, 0, none⟩) (by simp only []; omega)).trans (by simp), (h.frozen (p := ⟨a.heap.size + 1, 1, none⟩) (by simp only []; omega)).trans (by simp)⟩
theorem gbr_cell {a w : World} {row : Option Nat} (h : a.grownBy w row) (b o : Nat) (hb : b < a.heap.size) (hne : ∀ g, row = some g → b ≠ g) : w.cell? ⟨b, o, none⟩ = a.cell? ⟨b, o, none⟩ :=
  World.cell?_of_block (w := a) (a := ⟨b, o, none⟩) (h.block b hb (fun e => hne b e.symm rfl))
theorem gbr_frozen {a w : World} {row : Option Nat} (h : a.grownBy w row) (b o : Nat) (hb : b < a.heap.size) (hne : ∀ g, row = some g → b ≠ g) : w.frozen? ⟨b, o, none⟩ = a.frozen? ⟨b, o, none⟩ :=
  World.frozen?_of_block (w := a) (a := ⟨b, o, none⟩) (h.block b hb (fun e => hne b e.symm rfl))
theorem BL_set (p : Nat → Bool) (n k : Nat) (b : Bool) (q : Nat → Bool) (hq : ∀ i, q i = if i = k then b else p i) : (BL p n).set k (.bool b) = BL q n := by
  unfold BL
  apply List.ext_getElem
  · simp
  · intro i h1 h2
    rw [List.getElem_set]
    simp only [List.getElem_map, List.getElem_range, hq]
    by_cases e : k = i
    · rw [if_pos e, if_pos e.symm]
    · rw [if_neg e, if_neg (fun h => e h.symm)]
/-- the members after a range is put -/
def putP (ws : List Nat) (f t : Nat) (inn : Bool) (i : Nat) : Bool := if f ≤ i ∧ i < t then inn else bit ws i
theorem putW_pack (n : Nat) (ws : List Nat) (f t : Nat) (inn : Bool) (hx : ∀ j, ws.getD j 0 < 18446744073709551616) (hc : chkI n ws = 0) (htn : t ≤ n) : putW ws f t inn = pack (putP ws f t inn) n := by
  obtain ⟨g1, g2, g3, g4⟩ := chk_good hc
  have hfit := ((fitB_iff n ws g1 hx).1 g3).2
  have hlen : (putW ws f t inn).length = ws.length := by simp [putW]
  refine pack_eq _ _ _ (by rw [hlen, g4]) (fun j => ?_) fun i hi => ?_
  · rcases Nat.lt_or_ge j ws.length with h | h
    · rw [putW_at _ _ _ _ _ h]
      exact putw_lt _ _ _ (hx j) (maskI_lt _ _ _)
    · have : (putW ws f t inn).getD j 0 = 0 := by simp [hlen, h]
      rw [this]
      decide
  · rw [hlen] at hi
    have hj : i / 64 < ws.length := by omega
    have e : bit (putW ws f t inn) i = (putw (ws.getD (i / 64) 0) (maskI ((i / 64 : Nat) : Int) f t) inn).testBit (i % 64) := by
      unfold bit
      rw [putW_at _ _ _ _ _ hj]
    have em : (maskI ((i / 64 : Nat) : Int) f t).testBit (i % 64) = decide (f ≤ i ∧ i < t) := by
      rw [testBit_maskI _ _ _ _ (by omega)]
      rw [Bool.eq_iff_iff]
      simp only [decide_eq_true_eq]
      omega
    have eb : (ws.getD (i / 64) 0).testBit (i % 64) = bit ws i := rfl
    rw [e]
    unfold putw putP
    have hhi : n ≤ i → bit ws i = false := fun h => hfit i (by omega) hi
    cases inn with
    | true =>
      rw [if_pos rfl, Nat.testBit_or, em, eb]
      by_cases c : f ≤ i ∧ i < t
      · rw [if_pos c, decide_eq_true c, decide_eq_true (show i < n by omega)]
        simp
      · rw [if_neg c, decide_eq_false c, Bool.or_false]
        by_cases d : i < n
        · rw [decide_eq_true d, Bool.true_and]
        · rw [decide_eq_false d, hhi (by omega)]; rfl
    | false =>
      rw [if_neg (by simp), testBit_andn _ _ _ (maskI_lt _ _ _) (by omega), em, eb]
      by_cases c : f ≤ i ∧ i < t
      · rw [if_pos c, decide_eq_true c]
        simp
      · rw [if_neg c, decide_eq_false c]
        by_cases d : i < n
        · rw [decide_eq_true d]; simp
        · rw [decide_eq_false d, hhi (by omega)]; rfl

set_option maxRecDepth 100000 in
set_option maxHeartbeats 1000000 in
theorem rput_ok (n : Nat) (A : Option Addr) (cap : Nat) (ws : List Nat) (f t : Nat) (inn : Bool) (w : World) (hr : Rd w A ws) (h0 : chkI n ws = 0) (hft : f ≤ t) (htn : t ≤ n) :
    Calls Tryd.prog 26 #[.agg #[.int .i64 (n : Int), .slice A ws.length cap], .int .i64 (f : Int), .int .i64 (t : Int), .bool inn] w (RetS w n (pack (putP ws f t inn) n) 0) := by
  obtain ⟨g1, g2, _, g4⟩ := chk_good h0
  have hC := rcheck_any n A cap ws _ ((hr.alloc (.cells #[.int .i64 (n : Int), .slice A ws.length cap] 24)).alloc (.cells #[.int .i64 0, .slice none 0 0] 24))
  rw [h0] at hC
  have HC := Lib.hid hC
  have hM := fun W hR => members_any n A cap ws W hR (by omega) g4
  have HM := Lib.hid hM
  clear hC h0 g4 hM
  have d1 : decide ((f : Int) < 0) = false := by simp
  have d2 : decide (t < f) = false := by simp; omega
  have d3 : decide (n < t) = false := by simp; omega
  go_enter Tryd.func26, Tryd.ntmps26
  go_wp2_with fail
  refine HC.out.mono ?_
  rintro e w1 ⟨rfl, hb⟩
  clear HC
  have hs1 : w.heap.size + 2 ≤ w1.heap.size := by have := bsz hb; simpa using this
  have hb2 : Below (w.heap.size + 2) ((w.alloc (.cells #[.int .i64 (n : Int), .slice A ws.length cap] 24)).alloc (.cells #[.int .i64 0, .slice none 0 0] 24)) w1 := by simpa using hb
  have hbW := (((Below.refl _ _).alloc (Nat.le_refl _) _).alloc (by simp) _).trans (hb2.mono (B' := w.heap.size) (by omega))
  clear hb
  obtain ⟨hx0, hx1, hy0, hy1, hz0, hz1⟩ := box22 hb2
  go_wp2_with fail
  refine (HM.out _ (hr.below hbW)).mono ?_
  rintro e w2 ⟨v, rfl, hown, hb3⟩
  have hs2 := bsz hb3
  have hb4 := hb2.trans (hb3.mono (by omega))
  have hbX := hbW.trans (hb3.mono (by omega))
  clear hb2 hbW hb3 hx0 hx1 hy0 hy1 hz0 hz1
  obtain ⟨hx0, hx1, hy0, hy1, hz0, hz1⟩ := box22 hb4
  have hfr := fun g (h : v.ownBlock = some g) => hown.lt g h
  obtain ⟨Av, vc, hv, _, hFv, _⟩ := RdB.of_own hown
  subst hv
  go_wp2
  go_loopw [12] (fun i wr => ∃ k : Nat, f ≤ k ∧ k ≤ t ∧ i = .int .i64 k ∧ w2.grownBy wr (Value.slice Av n vc).ownBlock ∧ wr.ownsRow (w1.heap.size + 1) 4 1 (.slice Av n vc) n (BL (putP ws f k inn) n)) (fun i _ => t - (intOf i).toNat)
  case atStart => exact ⟨f, Nat.le_refl _, hft, rfl, World.grownBy.refl _ _, by
    have e : putP ws f f inn = bit ws := by
      funext i
      unfold putP
      rw [if_neg (by omega)]
    rw [e]
    exact hown⟩
  case round =>
    obtain ⟨k, hk0, hk1, rfl, hgb, hownk⟩ := hrel
    by_cases hlt : k < t
    · obtain ⟨g, vc', hv, hbg, _⟩ := hownk.form (by omega)
      injection hv with hv1 _ hv2
      subst hv1
      subst hv2
      have hst := hownk.stored k (.bool inn)
      have cg : wr.cell? ⟨g, k, none⟩ = some (.bool (putP ws f k inn k)) := by
        rw [hownk.cellAt k (by omega)]
        unfold BL
        simp [show k < n from by omega]
      have cf := hownk.frozenAt k
      have hlt' : (k : Int) < (t : Int) := by omega
      have hltn : (k : Int) < (n : Int) := by omega
      have HS := Lib.hid hst
      clear hst
      have hgb' : w2.grownBy wr (some g) := hgb
      have hgb2 : w2.grownBy (wr.setCell ⟨g, k, none⟩ (.bool inn)) (Value.slice (some ⟨g, 0, none⟩) n vc).ownBlock := gb_set hgb' k _
      have hnew : (BL (putP ws f k inn) n).set k (.bool inn) = BL (putP ws f (k + 1) inn) n := BL_set _ _ _ _ _ fun i => by
        unfold putP
        by_cases e : i = k
        · rw [if_pos e, if_pos (by omega)]
        · rw [if_neg e]
          by_cases c : f ≤ i ∧ i < k
          · rw [if_pos c, if_pos (by omega)]
          · rw [if_neg c, if_neg (by omega)]
      have HN := Lib.hid hnew
      have HG := Lib.hid hgb2
      clear hnew hgb hgb' hgb2 hownk hown
      go_wp2
      go_roundw
      case rel => exact ⟨k + 1, by omega, by omega, by go_num, HG.out, by rw [← HN.out]; exact HS.out.1⟩
      case measure => simp [intOf]; omega
    · obtain rfl : k = t := by omega
      have hRB : RdB wr Av n (putP ws f k inn) := by
        obtain ⟨A2, c2, hv, _, _, h⟩ := RdB.of_own hownk
        injection hv with hv1
        rw [hv1]
        exact h
      have hne : ∀ b, b < w1.heap.size → ∀ g, (Value.slice Av n vc).ownBlock = some g → b ≠ g := fun b hb g hg => by have := (hfr g hg).1; omega
      have cy0 := (gbr_cell hgb (w.heap.size + 1) 0 (by omega) (hne _ (by omega))).trans hy0
      have cy1 := (gbr_cell hgb (w.heap.size + 1) 1 (by omega) (hne _ (by omega))).trans hy1
      have fy0 := (gbr_frozen hgb (w.heap.size + 1) 0 (by omega) (hne _ (by omega))).trans hz0
      have fy1 := (gbr_frozen hgb (w.heap.size + 1) 1 (by omega) (hne _ (by omega))).trans hz1
      have hsr := hgb.size
      have hbR : Below w.heap.size w wr := hbX.grown hgb (by omega) (fun g hg => by have := (hfr g hg).1; omega)
      have HM2 := Lib.hid (made_any n Av vc (putP ws f k inn) wr hRB (by omega))
      clear hgb hownk hown hRB hx0 hx1 hy0 hy1 hz0 hz1 hb4 hfr
      go_wp2_with fail
      refine HM2.out.mono ?_
      rintro e w5 ⟨g, rfl, hg, hR5, hb5⟩
      have hs5 := bsz hb5
      have ey0 := (hb5.cell (p := ⟨w.heap.size + 1, 0, none⟩) (by simp only []; omega)).trans cy0
      have ey1 := (hb5.cell (p := ⟨w.heap.size + 1, 1, none⟩) (by simp only []; omega)).trans cy1
      have ez0 := (hb5.frozen (p := ⟨w.heap.size + 1, 0, none⟩) (by simp only []; omega)).trans fy0
      have ez1 := (hb5.frozen (p := ⟨w.heap.size + 1, 1, none⟩) (by simp only []; omega)).trans fy1
      go_wp2
      have hF5 : ∀ a, some (⟨g, 0, none⟩ : Addr) = some a → a.block ≠ w.heap.size + 1 := fun a h => by rw [← Option.some.inj h]; simp only []; omega
      refine bodyPost_ret (v := .tuple #[.agg #[.int .i64 (n : Int), .slice (some ⟨g, 0, none⟩) (nw n) (nw n)], .int .i64 0]) (by simp [results, Tryd.results26, go_sem, ey0, ey1]) rfl ⟨some ⟨g, 0, none⟩, nw n, by rw [pack_len], nil0_some _, from_some (by omega), (hR5.setCell hF5 _).setCell hF5 _, ?_⟩
      exact ((hbR.trans (hb5.mono (by omega))).setCell (by simp only []; omega) _).setCell (by simp only []; omega) _
end Go.Proofs.YtkifcjjnpahdmaaDoor
