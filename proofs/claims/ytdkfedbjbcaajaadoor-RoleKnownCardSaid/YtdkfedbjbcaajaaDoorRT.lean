import Derived.Test.YtdkfedbjbcaajaaDoorRS
namespace Go.Proofs.YtdkfedbjbcaajaaDoor
open Go.RowKit

theorem chk_cases (l : List Int) : (chkV l).1 = 0 ∧ ¬ 256 < l.length ∧ goodL l l.length ∨ (chkV l).1 ≠ 0 := by
  by_cases h : 256 < l.length
  · right; rw [chk_long l h]; decide
  · by_cases hg : goodL l l.length
    · left; exact ⟨by rw [chk_good l h hg], h, hg⟩
    · right
      have : ∃ i, i < l.length ∧ isR (l.getD i 0) = false ∧ goodL l i := by
        have hex : ∃ i, i < l.length ∧ isR (l.getD i 0) = false := by
          apply Classical.byContradiction
          intro hc
          apply hg
          intro j hj
          rcases hb : isR (l.getD j 0) with _ | _
          · exact absurd ⟨j, hj, hb⟩ hc
          · rfl
        obtain ⟨i, hi⟩ := hex
        induction i using Nat.strongRecOn with
        | _ i ih =>
          by_cases h2 : goodL l i
          · exact ⟨i, hi.1, hi.2, h2⟩
          · have : ∃ j, j < i ∧ isR (l.getD j 0) = false := by
              apply Classical.byContradiction
              intro hc
              apply h2
              intro j hj
              rcases hb : isR (l.getD j 0) with _ | _
              · exact absurd ⟨j, hj, hb⟩ hc
              · rfl
            obtain ⟨j, hj, hb⟩ := this
            exact ih j hj ⟨by omega, hb⟩
      obtain ⟨i, hi, hb, hgi⟩ := this
      rw [chk_bad l h i hi hgi hb]
      show (14 : Int) ≠ 0
      decide
/-- how many of the first n have a role -/
def cn (l : List Int) (n : Nat) (r : Nat) : Nat := ((List.range n).filter (fun j => l.getD j 0 == (r : Int))).length
theorem cn_succ (l : List Int) (n r : Nat) : cn l (n + 1) r = cn l n r + if l.getD n 0 == (r : Int) then 1 else 0 := by
  unfold cn
  rw [List.range_succ, List.filter_append, List.length_append]
  cases h : (l.getD n 0 == (r : Int)) <;> simp only [List.filter_cons, List.filter_nil, h] <;> simp
theorem cn_le (l : List Int) (n r : Nat) : cn l n r ≤ n := by
  unfold cn
  exact Nat.le_trans (List.length_filter_le _ _) (by simp)
def ctN (l : List Int) : List Int := (List.range 8).map (fun r => (cn l l.length r : Int))
def ctL (l : List Int) : List Int := if (chkV l).1 = 0 then ctN l else []
theorem ctN_len (l : List Int) : (ctN l).length = 8 := by unfold ctN; simp
/-- the frames with a role among the first n -/
def ofN (l : List Int) (r : Int) (n : Nat) : List Int := ((List.range n).filter (fun j => l.getD j 0 == r)).map (fun j : Nat => (j : Int))
theorem ofN_yes (l : List Int) (r : Int) (n : Nat) (h : (l.getD n 0 == r) = true) : IV (ofN l r (n + 1)) = IV (ofN l r n) ++ [.int .i64 (n : Int)] := by
  unfold ofN IV
  rw [List.range_succ, List.filter_append]
  simp only [List.filter_cons, List.filter_nil, h]
  simp
theorem ofN_yesl (l : List Int) (r : Int) (n : Nat) (h : (l.getD n 0 == r) = true) : (ofN l r (n + 1)).length = (ofN l r n).length + 1 := by
  unfold ofN
  rw [List.range_succ, List.filter_append]
  simp only [List.filter_cons, List.filter_nil, h]
  simp
theorem ofN_no (l : List Int) (r : Int) (n : Nat) (h : (l.getD n 0 == r) = false) : ofN l r (n + 1) = ofN l r n := by
  unfold ofN
  rw [List.range_succ, List.filter_append]
  simp only [List.filter_cons, List.filter_nil, h]
  simp
theorem ofN_le (l : List Int) (r : Int) (n : Nat) : (ofN l r n).length ≤ n := by
  unfold ofN
  rw [List.length_map]
  exact Nat.le_trans (List.length_filter_le _ _) (by simp)
def ofE (l : List Int) (r : Int) : Int := if (chkV l).1 = 0 then (if isR r then 0 else 14) else (chkV l).1
def ofL (l : List Int) (r : Int) : List Int := if ofE l r = 0 then ofN l r l.length else []
theorem ofL_len (l : List Int) (r : Int) : (ofL l r).length ≤ l.length := by
  unfold ofL; split
  · exact ofN_le _ _ _
  · simp
theorem mkRow8 (w : World) : (Instr.makeSlice 25 (.int .i64 8) (.int .i64 8)).run Tryd.prog w = .ok (.slice (some ⟨w.heap.size, 0, none⟩) 8 8) (w.alloc (.cells (madeCells #[.int .i64 0] 8) 3)) := by kernel_rfl
theorem ct_rd (l : List Int) (W : World) (b : Nat) (h : W.rowIs b 3 8 (fun k => .int .i64 (cn l l.length k : Int))) : RdI W (some ⟨b, 0, none⟩) (ctN l) := by
  refine ⟨by rw [ctN_len]; decide, fun j hj => ?_⟩
  rw [ctN_len] at hj
  have hc := h.cell hj
  refine ⟨b, 0, rfl, ?_, ?_⟩
  · rcases Nat.lt_or_ge b W.heap.size with h1 | h1
    · exact h1
    · exfalso
      have : W.heap[b]? = none := Array.getElem?_eq_none h1
      simp [World.cell?, this] at hc
  · rw [Nat.zero_add, hc]
    unfold ctN
    simp [hj]
set_option maxRecDepth 100000 in
set_option maxHeartbeats 4000000 in
theorem rcheck_any (A : Option Addr) (c : Nat) (l : List Int) (w : World) (hr : RdI w A l) :
    Calls Tryd.prog 20 #[.slice A l.length c] w fun e w' => e = .returned (.tuple #[.int .i64 (chkV l).1, .int .i64 (chkV l).2]) ∧ w = w' := by
  have HR := Lib.hid hr
  clear hr
  by_cases hl : 256 < l.length
  · have hl' : (256 : Int) < (l.length : Int) := by omega
    have HC := Lib.hid (chk_long l hl)
    clear hl
    go_enter Tryd.func20, Tryd.ntmps20
    go_wp2_with fail
    exact bodyPost_ret (v := .tuple #[.int .i64 5, .int .i64 0]) (by simp [results, Tryd.results20, go_sem]) rfl ⟨by rw [HC.out], rfl⟩
  · have hl' : (l.length : Int) ≤ 256 := by omega
    have HL := Lib.hid hl
    clear hl
    go_enter Tryd.func20, Tryd.ntmps20
    go_upto_region 4 with fail
    go_loopg [4] l.length (fun gh iv wr => ∃ i : Nat, gh + i = l.length ∧ iv = .int .i64 i ∧ goodL l i ∧ wr = w)
    case atStart => exact ⟨0, rfl, rfl, fun j hj => by omega, rfl⟩
    case round =>
      obtain ⟨i, hg, rfl, hgood, rfl⟩ := hrel
      have HG := Lib.hid hg
      have HGD := Lib.hid hgood
      clear hgood
      by_cases h1 : i < l.length
      · have h1' : (i : Int) < (l.length : Int) := by omega
        have hi0' : (0 : Int) ≤ (i : Int) := by omega
        have hi256 : (i : Int) < 256 := by omega
        obtain ⟨b, o, rfl, hb, c1⟩ := HR.out.2 i h1
        have C := Lib.hid (is_any (l.getD i 0) wr)
        have H1 := Lib.hid h1
        by_cases h2 : isR (l.getD i 0) = true
        · have HG2 : Hid (goodL l (i + 1)) := Lib.hid fun j hj => by
            rcases Nat.lt_or_ge j i with h | h
            · exact HGD.out j h
            · obtain rfl : j = i := by omega
              exact h2
          rw [h2] at C
          generalize l.getD i 0 = x at *
          clear hg h1 h2
          go_wp2_with fail
          refine C.out.mono ?_
          rintro e w5 ⟨rfl, rfl⟩
          go_wp2_with fail
          go_roundg (gk - 1)
          case rel => exact ⟨i + 1, by have := HG.out; have := H1.out; omega, by go_num, HG2.out, rfl⟩
          case measure => have := HG.out; have := H1.out; omega
        · have h2 : isR (l.getD i 0) = false := by simpa using h2
          have HC := Lib.hid (chk_bad l HL.out i h1 HGD.out h2)
          rw [h2] at C
          generalize l.getD i 0 = x at *
          clear hg h1 h2
          go_wp2_with fail
          refine C.out.mono ?_
          rintro e w5 ⟨rfl, rfl⟩
          go_wp2_with fail
          exact bodyPost_ret (v := .tuple #[.int .i64 14, .int .i64 i]) (by simp [results, Tryd.results20, go_sem]) rfl ⟨by rw [HC.out], rfl⟩
      · obtain rfl : i = l.length := by omega
        have HC := Lib.hid (chk_good l HL.out HGD.out)
        clear hg h1
        go_wp2_with fail
        exact bodyPost_ret (v := .tuple #[.int .i64 0, .int .i64 0]) (by simp [results, Tryd.results20, go_sem]) rfl ⟨by rw [HC.out], rfl⟩

set_option maxRecDepth 100000 in
set_option maxHeartbeats 4000000 in
theorem counts_any (A : Option Addr) (c : Nat) (l : List Int) (w : World) (hr : RdI w A l) :
    Calls Tryd.prog 27 #[.slice A l.length c] w fun e w' => ∃ B d, e = .returned (.tuple #[.slice B (ctL l).length d, .int .i64 (chkV l).1]) ∧ RdI w' B (ctL l) ∧ Ev w w' := by
  have HR := Lib.hid hr
  have HC := Lib.hid (check_any A c l w hr)
  rcases chk_cases l with ⟨h0, hl, hg⟩ | h0
  · have HCT : Hid (ctL l = ctN l) := Lib.hid (by unfold ctL; rw [if_pos h0])
    have HGL := Lib.hid hg
    have hl' : (l.length : Int) ≤ 256 := by omega
    have hl2 : l.length ≤ 256 := by omega
    have HB := Lib.hid (World.rowIs_made w (.int .i64 0) 8 3)
    have HE : Hid (Ev w (w.alloc (.cells (madeCells #[.int .i64 0] 8) 3))) := Lib.hid ((Ev.refl w).alloc _)
    have hm := mkRow8 w
    generalize (w.alloc (.cells (madeCells #[.int .i64 0] 8) 3)) = W0 at *
    rw [h0] at HC
    rw [h0]
    have HM := Lib.hid hm
    clear hr hl hg h0 hm
    go_enter Tryd.func27, Tryd.ntmps27
    go_wp2_with fail
    refine HC.out.mono ?_
    rintro e w5 ⟨rfl, rfl⟩
    have hm := HM.out
    go_upto_region 6 with fail
    clear hm HM
    go_loopg [20] l.length (fun gh iv wr => ∃ i : Nat, gh + i = l.length ∧ iv = .int .i64 i ∧ wr.rowIs w.heap.size 3 8 (fun k => .int .i64 (cn l i k : Int)) ∧ Ev w wr)
    case atStart => exact ⟨0, rfl, rfl, HB.out, HE.out⟩
    case round =>
      obtain ⟨i, hg, rfl, hrow, hev⟩ := hrel
      have HG := Lib.hid hg
      have HRW := Lib.hid hrow
      have HV := Lib.hid hev
      clear hrow hev
      by_cases h1 : i < l.length
      · have h1' : (i : Int) < (l.length : Int) := by omega
        have hi0' : (0 : Int) ≤ (i : Int) := by omega
        have hi256 : (i : Int) < 256 := by omega
        obtain ⟨b, o, rfl, hb, c1⟩ := (HR.out.ev HV.out).2 i h1
        obtain ⟨n, hn8, hn⟩ := isR_nat (HGL.out i h1)
        have hn8' : (n : Int) < 8 := by omega
        have hn0 : (0 : Int) ≤ (n : Int) := by omega
        have hz := cn_le l i n
        have hz1 : (0 : Int) ≤ (cn l i n : Int) := by omega
        have hz2 : (cn l i n : Int) ≤ 256 := by omega
        have HN : Hid ((wr.setCell ⟨w.heap.size, n, none⟩ (.int .i64 ((cn l i n : Int) + 1))).rowIs w.heap.size 3 8 (fun k => .int .i64 (cn l (i + 1) k : Int))) := Lib.hid ((World.rowIs.set HRW.out n _).congr (fun k hk => by
          rw [cn_succ, hn]
          by_cases e : k = n
          · subst e
            simp
          · rw [if_neg e, if_neg (by simp; omega)]; rfl))
        have HV2 : Hid (Ev w (wr.setCell ⟨w.heap.size, n, none⟩ (.int .i64 ((cn l i n : Int) + 1)))) := Lib.hid (HV.out.setC (by simp) _)
        have H1 := Lib.hid h1
        have d0 : wr.cell? ⟨w.heap.size, n, none⟩ = some (.int .i64 (cn l i n : Int)) := HRW.out.cell hn8
        have e0 := HRW.out.frozen n
        rw [hn] at c1
        generalize cn l i n = z at *
        clear hg h1 hn hz
        go_wp2_with fail
        go_roundg (gk - 1)
        case rel => exact ⟨i + 1, by have := HG.out; have := H1.out; omega, by go_num, HN.out, HV2.out⟩
        case measure => have := HG.out; have := H1.out; omega
      · obtain rfl : i = l.length := by omega
        have HF := Lib.hid (ct_rd l wr w.heap.size HRW.out)
        clear hg h1
        go_wp2_with fail
        exact bodyPost_ret (v := .tuple #[.slice (some ⟨w.heap.size, 0, none⟩) 8 8, .int .i64 0]) (by simp [results, Tryd.results27, go_sem]) rfl ⟨some ⟨w.heap.size, 0, none⟩, 8, by rw [HCT.out, ctN_len], by rw [HCT.out]; exact HF.out, HV.out⟩
  · have HCT : Hid (ctL l = []) := Lib.hid (by unfold ctL; rw [if_neg h0])
    generalize (chkV l).1 = er at *
    generalize (chkV l).2 = er2 at *
    have hq : (er != 0) = true := by simpa using h0
    clear hr h0
    go_enter Tryd.func27, Tryd.ntmps27
    go_wp2_with fail
    refine HC.out.mono ?_
    rintro e w5 ⟨rfl, rfl⟩
    go_wp2_with fail
    exact bodyPost_ret (v := .tuple #[.slice none 0 0, .int .i64 er]) (by simp [results, Tryd.results27, go_sem]) rfl ⟨none, 0, by rw [HCT.out]; rfl, by rw [HCT.out]; exact ⟨by simp, fun j hj => by simp at hj⟩, Ev.refl _⟩

set_option maxRecDepth 100000 in
set_option maxHeartbeats 4000000 in
theorem rcounts_any (A : Option Addr) (c : Nat) (l : List Int) (w : World) (hr : RdI w A l) :
    Calls Tryd.prog 28 #[.slice A l.length c] w fun e w' => ∃ B d, e = .returned (.tuple #[.slice B (ctL l).length d, .int .i64 (chkV l).1]) ∧ RdI w' B (ctL l) ∧ Ev w w' := by
  have HR := Lib.hid hr
  have HC := Lib.hid (rcheck_any A c l w hr)
  rcases chk_cases l with ⟨h0, hl, hg⟩ | h0
  · have HCT : Hid (ctL l = ctN l) := Lib.hid (by unfold ctL; rw [if_pos h0])
    have HGL := Lib.hid hg
    have hl' : (l.length : Int) ≤ 256 := by omega
    have hl2 : l.length ≤ 256 := by omega
    have HB := Lib.hid (World.rowIs_made w (.int .i64 0) 8 3)
    have HE : Hid (Ev w (w.alloc (.cells (madeCells #[.int .i64 0] 8) 3))) := Lib.hid ((Ev.refl w).alloc _)
    have hm := mkRow8 w
    generalize (w.alloc (.cells (madeCells #[.int .i64 0] 8) 3)) = W0 at *
    rw [h0] at HC
    rw [h0]
    have HM := Lib.hid hm
    clear hr hl hg h0 hm
    go_enter Tryd.func28, Tryd.ntmps28
    go_wp2_with fail
    refine HC.out.mono ?_
    rintro e w5 ⟨rfl, rfl⟩
    have hm := HM.out
    go_upto_region 6 with fail
    clear hm HM
    go_loopg [7] l.length (fun gh iv wr => ∃ i : Nat, gh + i = l.length ∧ iv = .int .i64 i ∧ wr.rowIs w.heap.size 3 8 (fun k => .int .i64 (cn l i k : Int)) ∧ Ev w wr)
    case atStart => exact ⟨0, rfl, rfl, HB.out, HE.out⟩
    case round =>
      obtain ⟨i, hg, rfl, hrow, hev⟩ := hrel
      have HG := Lib.hid hg
      have HRW := Lib.hid hrow
      have HV := Lib.hid hev
      clear hrow hev
      by_cases h1 : i < l.length
      · have h1' : (i : Int) < (l.length : Int) := by omega
        have hi0' : (0 : Int) ≤ (i : Int) := by omega
        have hi256 : (i : Int) < 256 := by omega
        obtain ⟨b, o, rfl, hb, c1⟩ := (HR.out.ev HV.out).2 i h1
        obtain ⟨n, hn8, hn⟩ := isR_nat (HGL.out i h1)
        have hn8' : (n : Int) < 8 := by omega
        have hn0 : (0 : Int) ≤ (n : Int) := by omega
        have hz := cn_le l i n
        have hz1 : (0 : Int) ≤ (cn l i n : Int) := by omega
        have hz2 : (cn l i n : Int) ≤ 256 := by omega
        have HN : Hid ((wr.setCell ⟨w.heap.size, n, none⟩ (.int .i64 ((cn l i n : Int) + 1))).rowIs w.heap.size 3 8 (fun k => .int .i64 (cn l (i + 1) k : Int))) := Lib.hid ((World.rowIs.set HRW.out n _).congr (fun k hk => by
          rw [cn_succ, hn]
          by_cases e : k = n
          · subst e
            simp
          · rw [if_neg e, if_neg (by simp; omega)]; rfl))
        have HV2 : Hid (Ev w (wr.setCell ⟨w.heap.size, n, none⟩ (.int .i64 ((cn l i n : Int) + 1)))) := Lib.hid (HV.out.setC (by simp) _)
        have H1 := Lib.hid h1
        have d0 : wr.cell? ⟨w.heap.size, n, none⟩ = some (.int .i64 (cn l i n : Int)) := HRW.out.cell hn8
        have e0 := HRW.out.frozen n
        rw [hn] at c1
        generalize cn l i n = z at *
        clear hg h1 hn hz
        go_wp2_with fail
        go_roundg (gk - 1)
        case rel => exact ⟨i + 1, by have := HG.out; have := H1.out; omega, by go_num, HN.out, HV2.out⟩
        case measure => have := HG.out; have := H1.out; omega
      · obtain rfl : i = l.length := by omega
        have HF := Lib.hid (ct_rd l wr w.heap.size HRW.out)
        clear hg h1
        go_wp2_with fail
        exact bodyPost_ret (v := .tuple #[.slice (some ⟨w.heap.size, 0, none⟩) 8 8, .int .i64 0]) (by simp [results, Tryd.results28, go_sem]) rfl ⟨some ⟨w.heap.size, 0, none⟩, 8, by rw [HCT.out, ctN_len], by rw [HCT.out]; exact HF.out, HV.out⟩
  · have HCT : Hid (ctL l = []) := Lib.hid (by unfold ctL; rw [if_neg h0])
    generalize (chkV l).1 = er at *
    generalize (chkV l).2 = er2 at *
    have hq : (er != 0) = true := by simpa using h0
    clear hr h0
    go_enter Tryd.func28, Tryd.ntmps28
    go_wp2_with fail
    refine HC.out.mono ?_
    rintro e w5 ⟨rfl, rfl⟩
    go_wp2_with fail
    exact bodyPost_ret (v := .tuple #[.slice none 0 0, .int .i64 er]) (by simp [results, Tryd.results28, go_sem]) rfl ⟨none, 0, by rw [HCT.out]; rfl, by rw [HCT.out]; exact ⟨by simp, fun j hj => by simp at hj⟩, Ev.refl _⟩
end Go.Proofs.YtdkfedbjbcaajaaDoor
