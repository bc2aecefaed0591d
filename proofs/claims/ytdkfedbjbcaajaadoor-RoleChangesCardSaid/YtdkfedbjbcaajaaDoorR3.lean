import Derived.Test.YtdkfedbjbcaajaaDoorR2
import Derived.Deep.LoopGhost
import Derived.RegionTactic
import Derived.ChangeAlike
namespace Go.Proofs.YtdkfedbjbcaajaaDoor
open Go.RowKit
structure St where
  bf : Nat → Nat
  rc : Nat → Bool
  q : List Nat
def updN (f : Nat → Nat) (k v : Nat) : Nat → Nat := fun i => if i = k then v else f i
def updB (f : Nat → Bool) (k : Nat) (v : Bool) : Nat → Bool := fun i => if i = k then v else f i
def stI (r : Nat) (s : St) (x : Nat) : St := if mb r x && !s.rc x then ⟨updN s.bf x r, updB s.rc x true, s.q ++ [x]⟩ else s
def inn (r : Nat) (s : St) : Nat → St
  | 0 => s
  | j + 1 => stI r (inn r s j) j
def outS (s : St) : St := match s.q with
  | [] => s
  | r :: _ => ⟨(inn r s 8).bf, (inn r s 8).rc, (inn r s 8).q.tail⟩
def run (f : Nat) : Nat → St
  | 0 => ⟨fun _ => 0, updB (fun _ => false) f true, [f]⟩
  | n + 1 => outS (run f n)
theorem run_q : ∀ f : Fin 8, ∀ n : Fin 10, (run f.1 n.1).q.length ≤ 8 ∧ (∀ x ∈ (run f.1 n.1).q, x < 8) ∧ (n.1 = 8 → (run f.1 n.1).q = []) := by decide +kernel
theorem run_i : ∀ f : Fin 8, ∀ n : Fin 9, ∀ j : Fin 9, ∀ r ∈ (run f.1 n.1).q, (inn r (run f.1 n.1) j.1).q.length ≤ 16 := by decide +kernel
theorem run_stop (f n : Nat) (h : (run f n).q = []) (m : Nat) : run f (n + m) = run f n := by
  induction m with
  | zero => rfl
  | succ m ih =>
    show outS (run f (n + m)) = _
    rw [ih]; unfold outS; rw [h]
def fin (f : Nat) : St := run f 8
theorem fin_eq (f n : Nat) (hn : n ≤ 8) (h : (run f n).q = []) : run f n = fin f := by
  have := run_stop f n h (8 - n)
  unfold fin
  rw [← this]; congr 1; omega
abbrev Bx (W : World) (b0 b1 : Nat) (s : St) : Prop := W.rowIs b0 57 8 (fun k => .int .i64 (s.bf k : Int)) ∧ W.rowIs b1 58 8 (fun k => .bool (s.rc k))
theorem rowIs_ev {w W : World} {b : Nat} {t : TypeId} {n : Nat} {f : Nat → Value} (h : w.rowIs b t n f) (e : Ev w W) : W.rowIs b t n f := h.of_block (e.block _ h.lt)
theorem rowIs_bl {w W : World} {B b : Nat} {t : TypeId} {n : Nat} {f : Nat → Value} (h : w.rowIs b t n f) (e : Below B w W) (hb : b < B) : W.rowIs b t n f := h.of_block (e.block _ hb)
def qi (s : St) : List Int := s.q.map fun x : Nat => (x : Int)
theorem inn_pre (r : Nat) (s : St) (j : Nat) : ∃ m, (inn r s j).q = s.q ++ m := by
  induction j with
  | zero => exact ⟨[], by simp [inn]⟩
  | succ j ih =>
    obtain ⟨m, hm⟩ := ih
    show ∃ m, (stI r (inn r s j) j).q = s.q ++ m
    unfold stI
    split
    · exact ⟨m ++ [j], by show (inn r s j).q ++ [j] = _; rw [hm, List.append_assoc]⟩
    · exact ⟨m, hm⟩
theorem start_box (w : World) (f : Nat) (hf : f < 8) : OwnQ (((w.alloc (.cells #[.int .i64 0, .int .i64 0, .int .i64 0, .int .i64 0, .int .i64 0, .int .i64 0, .int .i64 0, .int .i64 0] 57)).alloc (.cells ([Value.bool false, .bool false, .bool false, .bool false, .bool false, .bool false, .bool false, .bool false].set f (.bool true)).toArray 58)).alloc (.cells #[.int .i64 (f : Int)] 3)) (w.heap.size + 2) (.slice (some ⟨w.heap.size + 1 + 1, 0, none⟩) 1 1) (qi (run f 0)) ∧
    Bx (((w.alloc (.cells #[.int .i64 0, .int .i64 0, .int .i64 0, .int .i64 0, .int .i64 0, .int .i64 0, .int .i64 0, .int .i64 0] 57)).alloc (.cells ([Value.bool false, .bool false, .bool false, .bool false, .bool false, .bool false, .bool false, .bool false].set f (.bool true)).toArray 58)).alloc (.cells #[.int .i64 (f : Int)] 3)) w.heap.size (w.heap.size + 1) (run f 0) ∧
    Ev w (((w.alloc (.cells #[.int .i64 0, .int .i64 0, .int .i64 0, .int .i64 0, .int .i64 0, .int .i64 0, .int .i64 0, .int .i64 0] 57)).alloc (.cells ([Value.bool false, .bool false, .bool false, .bool false, .bool false, .bool false, .bool false, .bool false].set f (.bool true)).toArray 58)).alloc (.cells #[.int .i64 (f : Int)] 3)) := by
  generalize hA : (Obj.cells #[.int .i64 0, .int .i64 0, .int .i64 0, .int .i64 0, .int .i64 0, .int .i64 0, .int .i64 0, .int .i64 0] 57) = A
  generalize hB : (Obj.cells ([Value.bool false, .bool false, .bool false, .bool false, .bool false, .bool false, .bool false, .bool false].set f (.bool true)).toArray 58) = B
  have e2 : ((w.alloc A).alloc B).heap.size = w.heap.size + 2 := by simp
  have hb0 : (((w.alloc A).alloc B).alloc (.cells #[.int .i64 (f : Int)] 3)).heap[w.heap.size]? = some A := (heap_alloc_old _ _ (by simp; omega)).trans ((heap_alloc_old _ _ (by simp)).trans (heap_alloc_new w A))
  have hb1 : (((w.alloc A).alloc B).alloc (.cells #[.int .i64 (f : Int)] 3)).heap[w.heap.size + 1]? = some B := (heap_alloc_old _ _ (by simp)).trans (heap_alloc2_new w A B)
  have hb2 : (((w.alloc A).alloc B).alloc (.cells #[.int .i64 (f : Int)] 3)).heap[w.heap.size + 2]? = some (.cells #[.int .i64 (f : Int)] 3) := by
    have := heap_alloc_new ((w.alloc A).alloc B) (.cells #[.int .i64 (f : Int)] 3)
    rwa [e2] at this
  subst hA hB
  refine ⟨⟨w.heap.size + 2, 0, 1, _, by simp [qi, run], by omega, hb2, by simp [qi, run], fun _ => by simp, fun j hj => ?_⟩, ⟨⟨_, hb0, rfl, fun k hk => ?_⟩, ⟨_, hb1, by simp, fun k hk => ?_⟩⟩, (((Ev.refl w).alloc _).alloc _ : Ev w _).alloc _⟩
  · have : j = 0 := by simpa [qi, run] using hj
    subst this; simp [qi, run]
  · rcases (show k = 0 ∨ k = 1 ∨ k = 2 ∨ k = 3 ∨ k = 4 ∨ k = 5 ∨ k = 6 ∨ k = 7 by omega) with rfl | rfl | rfl | rfl | rfl | rfl | rfl | rfl <;> rfl
  · simp only [run, updB]
    by_cases e : k = f
    · subst e; simp [hk]
    · rw [if_neg e]
      rw [List.getElem?_toArray, List.getElem?_set_ne (Ne.symm e)]
      rcases (show k = 0 ∨ k = 1 ∨ k = 2 ∨ k = 3 ∨ k = 4 ∨ k = 5 ∨ k = 6 ∨ k = 7 by omega) with rfl | rfl | rfl | rfl | rfl | rfl | rfl | rfl <;> rfl
theorem cell_new (X : World) (n : Nat) (h : X.heap.size = n) (v : Value) (T : TypeId) : (X.alloc (.cells #[v] T)).cell? ⟨n, 0, none⟩ = some v := by subst h; simp
theorem sz_le (X W : World) (n : Nat) (o : Obj) (h : X.heap.size = W.heap.size) (hn : n ≤ W.heap.size) : n ≤ (X.alloc o).heap.size := by simp; omega
theorem OwnQ.pop {w : World} {base g o cap : Nat} {C : Array Value} {x : Int} {l : List Int} (h2 : base ≤ g) (h3 : w.heap[g]? = some (.cells C 3 (0, 0))) (h4 : (x :: l).length ≤ cap) (h5 : 0 < cap → o + cap ≤ C.size) (h6 : ∀ j, j < (x :: l).length → C[o + j]? = some (.int .i64 ((x :: l).getD j 0))) :
    (cap = 1 → OwnQ w base (.slice (some ⟨g, o, none⟩) l.length (cap - 1)) l) ∧ OwnQ w base (.slice (some ⟨g, o + 1, none⟩) l.length (cap - 1)) l := by
  have h4' : l.length + 1 ≤ cap := by simpa using h4
  refine ⟨fun hc => ⟨g, o, cap - 1, C, rfl, h2, h3, by omega, fun h => by omega, fun j hj => by omega⟩, ⟨g, o + 1, cap - 1, C, rfl, h2, h3, by omega, fun h => by have := h5 (by omega); omega, fun j hj => ?_⟩⟩
  have := h6 (j + 1) (by simp; omega)
  rw [show o + 1 + j = o + (j + 1) from by omega, this]
  simp
set_option maxRecDepth 100000 in
set_option maxHeartbeats 16000000 in
theorem search_any (f : Nat) (w : World) (hf : f < 8) (hT : Tab w) : Calls Tryd.prog 41 #[.int .i64 (f : Int)] w fun e w' => e = .returned (.tuple #[.agg #[.int .i64 ((fin f).bf 0 : Int), .int .i64 ((fin f).bf 1 : Int), .int .i64 ((fin f).bf 2 : Int), .int .i64 ((fin f).bf 3 : Int), .int .i64 ((fin f).bf 4 : Int), .int .i64 ((fin f).bf 5 : Int), .int .i64 ((fin f).bf 6 : Int), .int .i64 ((fin f).bf 7 : Int)], .agg #[.bool ((fin f).rc 0), .bool ((fin f).rc 1), .bool ((fin f).rc 2), .bool ((fin f).rc 3), .bool ((fin f).rc 4), .bool ((fin f).rc 5), .bool ((fin f).rc 6), .bool ((fin f).rc 7)]]) ∧ Ev w w' := by
  obtain ⟨i0, hi0, hz0, hz1, hz2⟩ := info_parts info3
  have hf0 : (0 : Int) ≤ (f : Int) := by omega
  have hf8 : (f : Int) < 8 := by omega
  go_enter Tryd.func41, Tryd.ntmps41
  go_wp2_with fail
  go_loopg [4] 8 (fun gh v wr => ∃ n : Nat, gh + n = 8 ∧ OwnQ wr (w.heap.size + 2) v (qi (run f n)) ∧ Bx wr w.heap.size (w.heap.size + 1) (run f n) ∧ Ev w wr)
  case atStart => exact ⟨0, rfl, start_box w f hf⟩
  case round =>
    obtain ⟨n, hg, hown, hbx, hev⟩ := hrel
    have HG := Lib.hid hg
    have HOWN := Lib.hid hown
    have HBX := Lib.hid hbx
    have HEV := Lib.hid hev
    have hn8 : n ≤ 8 := by omega
    have hsz := hev.sz
    obtain ⟨hq1, hq2, hq3⟩ := run_q ⟨f, hf⟩ ⟨n, by omega⟩
    simp only [] at hq1 hq2 hq3
    clear hg hbx hev hown
    cases hqq : (run f n).q with
    | nil =>
      have hfin := fin_eq f n hn8 hqq
      obtain ⟨g, o, cap, C, rfl, -, -, -, -, -⟩ := HOWN.out
      rw [show (qi (run f n)).length = 0 from by unfold qi; rw [hqq]; rfl]
      rw [hfin] at HBX
      clear hq1 hq2 hq3 hqq hfin HOWN
      obtain ⟨S, hS⟩ : ∃ S, S = fin f := ⟨_, rfl⟩
      rw [← hS] at HBX
      have c0 := HBX.out.1.cell (i := 0) (by omega)
      have d0 := HBX.out.2.cell (i := 0) (by omega)
      have f0 := HBX.out.1.frozen 0
      have g0 := HBX.out.2.frozen 0
      have c1 := HBX.out.1.cell (i := 1) (by omega)
      have d1 := HBX.out.2.cell (i := 1) (by omega)
      have f1 := HBX.out.1.frozen 1
      have g1 := HBX.out.2.frozen 1
      have c2 := HBX.out.1.cell (i := 2) (by omega)
      have d2 := HBX.out.2.cell (i := 2) (by omega)
      have f2 := HBX.out.1.frozen 2
      have g2 := HBX.out.2.frozen 2
      have c3 := HBX.out.1.cell (i := 3) (by omega)
      have d3 := HBX.out.2.cell (i := 3) (by omega)
      have f3 := HBX.out.1.frozen 3
      have g3 := HBX.out.2.frozen 3
      have c4 := HBX.out.1.cell (i := 4) (by omega)
      have d4 := HBX.out.2.cell (i := 4) (by omega)
      have f4 := HBX.out.1.frozen 4
      have g4 := HBX.out.2.frozen 4
      have c5 := HBX.out.1.cell (i := 5) (by omega)
      have d5 := HBX.out.2.cell (i := 5) (by omega)
      have f5 := HBX.out.1.frozen 5
      have g5 := HBX.out.2.frozen 5
      have c6 := HBX.out.1.cell (i := 6) (by omega)
      have d6 := HBX.out.2.cell (i := 6) (by omega)
      have f6 := HBX.out.1.frozen 6
      have g6 := HBX.out.2.frozen 6
      have c7 := HBX.out.1.cell (i := 7) (by omega)
      have d7 := HBX.out.2.cell (i := 7) (by omega)
      have f7 := HBX.out.1.frozen 7
      have g7 := HBX.out.2.frozen 7
      go_wp2_with fail
      go_region
      go_wp2_with fail
      refine bodyPost_ret (v := .tuple #[.agg #[.int .i64 (S.bf 0 : Int), .int .i64 (S.bf 1 : Int), .int .i64 (S.bf 2 : Int), .int .i64 (S.bf 3 : Int), .int .i64 (S.bf 4 : Int), .int .i64 (S.bf 5 : Int), .int .i64 (S.bf 6 : Int), .int .i64 (S.bf 7 : Int)], .agg #[.bool (S.rc 0), .bool (S.rc 1), .bool (S.rc 2), .bool (S.rc 3), .bool (S.rc 4), .bool (S.rc 5), .bool (S.rc 6), .bool (S.rc 7)]]) (by simp [results, Tryd.results41, go_sem, hS, c0, d0, c1, d1, c2, d2, c3, d3, c4, d4, c5, d5, c6, d6, c7, d7]) rfl ⟨by first | rfl | rw [hS] | rw [← hS], ?_⟩
      have hE := HEV.out
      repeat (first | with_reducible exact hE | with_reducible refine Ev.setC ?_ (by simp) _ | with_reducible refine Ev.drew ?_ | with_reducible refine Ev.drewN ?_ _)
    | cons r t =>
      rw [hqq] at hq1 hq2 hq3
      have hr8 : r < 8 := hq2 r (by simp)
      have hn7 : n < 8 := by
        rcases Nat.lt_or_ge n 8 with h | h
        · exact h
        · have := hq3 (by omega); cases this
      have htl : t.length + 1 ≤ 8 := by simpa using hq1
      have hint : ∀ j, j ≤ 8 → (inn r (run f n) j).q.length ≤ 16 := fun j hj => run_i ⟨f, hf⟩ ⟨n, by omega⟩ ⟨j, by omega⟩ r (by rw [hqq]; simp)
      have HNX : Hid (run f (n + 1) = ⟨(inn r (run f n) 8).bf, (inn r (run f n) 8).rc, (inn r (run f n) 8).q.tail⟩) := Lib.hid (by show outS (run f n) = _; unfold outS; rw [hqq])
      have HPR := Lib.hid (inn_pre r (run f n) 8)
      have HQQ := Lib.hid hqq
      have HINT := Lib.hid hint
      clear hq1 hq2 hq3 hqq hint
      obtain ⟨g, o, cap, C, rfl, p2, p3, p4, p5, p6⟩ := HOWN.out
      have HOWN2 := HOWN
      have hl : (qi (run f n)).length = t.length + 1 := by unfold qi; rw [List.length_map, HQQ.out]; rfl
      have c0 : wr.cell? ⟨g, o, none⟩ = some (.int .i64 (r : Int)) := by
        have := p6 0 (by omega)
        rw [cell_of_row wr g o C 3 (0, 0) p3]
        rw [Nat.add_zero] at this
        rw [this]; unfold qi; rw [HQQ.out]; rfl
      have hm0 : (0 : Int) < ((qi (run f n)).length : Int) := by omega
      have hm0' : 0 < (qi (run f n)).length := by omega
      clear p2 p3 p4 p5 p6 hl
      obtain ⟨m, hm⟩ : ∃ m, m = (qi (run f n)).length := ⟨_, rfl⟩
      rw [← hm] at hm0 hm0' HOWN ⊢
      clear HOWN2 hm
      go_wp2_with fail
      obtain ⟨wo, hwo⟩ : ∃ wo : World, wo = wr := ⟨_, rfl⟩
      rw [← hwo] at HOWN HBX HEV ⊢
      clear hwo c0 hm0 hm0' hsz
      go_loopw [4, 19] (fun v i W => ∃ j : Nat, j ≤ 8 ∧ i = .int .i64 j ∧ OwnQ W (w.heap.size + 2) v (qi (inn r (run f n) j)) ∧ Bx W w.heap.size (w.heap.size + 1) (inn r (run f n) j) ∧ Ev w W) (fun _ i _ => 8 - (intOf i).toNat)
      case atStart =>
        exact ⟨0, by omega, rfl, HOWN.out, HBX.out, HEV.out⟩
      case round =>
        obtain ⟨j, hj, rfl, hown, hbx, hev⟩ := hrel
        have HO := Lib.hid hown
        have HB := Lib.hid hbx
        have HE := Lib.hid hev
        have hsz := hev.sz
        clear hown hbx hev
        by_cases hlt : j < 8
        · have hlt' : (j : Int) < 8 := by omega
          have hj0 : (0 : Int) ≤ (j : Int) := by omega
          have K1 := Lib.hid fun W h => may_any r j W h hr8 hlt
          have HTW := Lib.hid (hT.ev HE.out)
          have HS : Hid (inn r (run f n) (j + 1) = stI r (inn r (run f n) j) j) := Lib.hid rfl
          have hlen := HINT.out j hj
          have c1 := HB.out.2.cell hlt
          have c0 := HB.out.1.cell hlt
          have f1 := HB.out.2.frozen j
          have f0 := HB.out.1.frozen j
          generalize inn r (run f n) j = S at *
          by_cases h1 : mb r j = true
          · rw [h1] at K1
            by_cases h2 : S.rc j = true
            · rw [h2] at c1
              have HN : Hid (stI r S j = S) := Lib.hid (by unfold stI; rw [h1, h2]; rfl)
              clear h1 h2
              go_wp2_with fail
              refine (K1.out _ HTW.out).mono ?_
              rintro e w5 ⟨rfl, rfl⟩
              go_wp2_with fail
              go_roundw
              case rel => exact ⟨j + 1, by omega, by go_num, by rw [HS.out, HN.out]; exact HO.out, by rw [HS.out, HN.out]; exact HB.out, HE.out⟩
              case measure => simp [intOf]; omega
            · have h2 : S.rc j = false := by simpa using h2
              rw [h2] at c1
              have HN : Hid (stI r S j = ⟨updN S.bf j r, updB S.rc j true, S.q ++ [j]⟩) := Lib.hid (by unfold stI; rw [h1, h2]; rfl)
              clear h1 h2
              have hql : (qi S).length ≤ 1000 := by unfold qi; rw [List.length_map]; omega
              go_wp2_with fail
              refine (K1.out _ HTW.out).mono ?_
              rintro e w5 ⟨rfl, rfl⟩
              have HLT : Hid (w.heap.size + 2 ≤ wr.heap.size) := Lib.hid (by have := HB.out.2.lt; omega)
              have HBS : Hid (Bx ((wr.setCell ⟨w.heap.size, j, none⟩ (.int .i64 (r : Int))).setCell ⟨w.heap.size + 1, j, none⟩ (.bool true)) w.heap.size (w.heap.size + 1) ⟨updN S.bf j r, updB S.rc j true, S.q ++ [j]⟩) := Lib.hid ⟨((HB.out.1.set j (.int .i64 (r : Int))).setOther (by simp) _).congr (fun i hi => by
                  simp only [updN]; by_cases e : i = j
                  · rw [if_pos e, if_pos e]
                  · rw [if_neg e, if_neg e]), ((HB.out.2.setOther (by simp) _).set j (.bool true)).congr (fun i hi => by
                  simp only [updB]; by_cases e : i = j
                  · rw [if_pos e, if_pos e]
                  · rw [if_neg e, if_neg e])⟩
              have HOS : Hid (OwnQ ((wr.setCell ⟨w.heap.size, j, none⟩ (.int .i64 (r : Int))).setCell ⟨w.heap.size + 1, j, none⟩ (.bool true)) (w.heap.size + 2) u4 (qi S)) := Lib.hid ((HO.out.far (by simp) _).far (by simp) _)
              have HES : Hid (Ev w ((wr.setCell ⟨w.heap.size, j, none⟩ (.int .i64 (r : Int))).setCell ⟨w.heap.size + 1, j, none⟩ (.bool true))) := Lib.hid ((HE.out.setC (by simp) _).setC (by simp) _)
              have HX1 := Lib.hid fun o => sz_le ((wr.setCell ⟨w.heap.size, j, none⟩ (.int .i64 (r : Int))).setCell ⟨w.heap.size + 1, j, none⟩ (.bool true)) wr (w.heap.size + 2) o (by simp) HLT.out
              have HX2 := Lib.hid (cell_new ((wr.setCell ⟨w.heap.size, j, none⟩ (.int .i64 (r : Int))).setCell ⟨w.heap.size + 1, j, none⟩ (.bool true)) wr.heap.size (by simp) (.int .i64 (j : Int)) 3)
              have HX3 := Lib.hid (HOS.out.below ((Ev.refl _).alloc (.cells #[.int .i64 (j : Int)] 3)))
              go_wp2_with (at_builtin; go_loud (refine wpList_push _ rfl _ _ 25 rfl i0 Tryd.underlying25 hi0 hz0 hz1 hz2 (w.heap.size + 2) _ (qi S) rfl HX3.out hql (HX1.out _) ⟨wr.heap.size, 0, none⟩ 1 (j : Int) rfl HX2.out rfl ?_); intro v' w6 hown6 hbel6)
              have HO6 : Hid (OwnQ w6 (w.heap.size + 2) v' (qi ⟨updN S.bf j r, updB S.rc j true, S.q ++ [j]⟩)) := Lib.hid (by
                have e : qi ⟨updN S.bf j r, updB S.rc j true, S.q ++ [j]⟩ = qi S ++ [(j : Int)] := by unfold qi; simp
                rw [e]; exact hown6)
              have HB6 : Hid (Bx w6 w.heap.size (w.heap.size + 1) ⟨updN S.bf j r, updB S.rc j true, S.q ++ [j]⟩) := Lib.hid ⟨rowIs_bl (HBS.out.1.alloc _) hbel6 (by omega), rowIs_bl (HBS.out.2.alloc _) hbel6 (by omega)⟩
              have HE6 : Hid (Ev w w6) := Lib.hid (Below.trans (HES.out.alloc _) (hbel6.mono (by omega)))
              clear hown6 hbel6
              go_wp2_with fail
              go_roundw
              case rel => exact ⟨j + 1, by omega, by go_num, by rw [HS.out, HN.out]; exact HO6.out, by rw [HS.out, HN.out]; exact HB6.out, HE6.out⟩
              case measure => simp [intOf]; omega
          · have h1 : mb r j = false := by simpa using h1
            rw [h1] at K1
            have HN : Hid (stI r S j = S) := Lib.hid (by unfold stI; rw [h1]; rfl)
            clear h1
            go_wp2_with fail
            refine (K1.out _ HTW.out).mono ?_
            rintro e w5 ⟨rfl, rfl⟩
            go_wp2_with fail
            go_roundw
            case rel => exact ⟨j + 1, by omega, by go_num, by rw [HS.out, HN.out]; exact HO.out, by rw [HS.out, HN.out]; exact HB.out, HE.out⟩
            case measure => simp [intOf]; omega
        · obtain rfl : j = 8 := by omega
          obtain ⟨m, hm⟩ := HPR.out
          rw [HQQ.out] at hm
          have hqi : qi (inn r (run f n) 8) = (r : Int) :: (t ++ m).map fun x : Nat => (x : Int) := by unfold qi; rw [hm]; simp
          have HQ2 : Hid (qi (run f (n + 1)) = (t ++ m).map fun x : Nat => (x : Int)) := Lib.hid (by rw [HNX.out]; unfold qi; rw [hm]; simp)
          have HB2 : Hid (Bx wr w.heap.size (w.heap.size + 1) (run f (n + 1))) := Lib.hid (by rw [HNX.out]; exact HB.out)
          have HO2 := HO.out
          rw [hqi] at HO2
          have HO2 := Lib.hid HO2
          clear hm hqi HPR HQQ HINT HB HO HOWN HBX HNX hlt hj
          generalize ((t ++ m).map fun x : Nat => (x : Int)) = L at *
          obtain ⟨g2, o2, cap2, C2, rfl, p2, p3, p4, p5, p6⟩ := HO2.out
          have HP := Lib.hid (OwnQ.pop p2 p3 p4 p5 p6)
          have hc1 : L.length + 1 ≤ cap2 := by simpa using p4
          rw [show ((r : Int) :: L).length = L.length + 1 from rfl]
          have hc2 : (1 : Int) ≤ (cap2 : Int) := by omega
          have hc3 : (1 : Int) ≤ ((L.length + 1 : Nat) : Int) := by omega
          clear p2 p3 p4 p5 p6 HO2
          by_cases hcap : cap2 = 1
          · have HV := Lib.hid (HP.out.1 hcap)
            subst hcap
            have hL : L.length = 0 := by omega
            obtain rfl : L = [] := List.eq_nil_of_length_eq_zero hL
            go_wp2_with fail
            go_roundg (gk - 1)
            case rel => exact ⟨n + 1, by have := HG.out; omega, by rw [HQ2.out]; exact HV.out, HB2.out, HE.out⟩
            case measure => have := HG.out; omega
          · have HV := Lib.hid HP.out.2
            go_wp2_with fail
            go_roundg (gk - 1)
            case rel => exact ⟨n + 1, by have := HG.out; omega, by rw [HQ2.out]; exact HV.out, HB2.out, HE.out⟩
            case measure => have := HG.out; omega
end Go.Proofs.YtdkfedbjbcaajaaDoor
