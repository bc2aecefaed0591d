import Derived.Test.YtdkfedbjbcaajaaDoorRK
namespace Go.Proofs.YtdkfedbjbcaajaaDoor
open Go.RowKit
theorem clone_any (A : Option Addr) (c : Nat) (l : List Int) (w : World) (hr : RdI w A l) (hl : l.length ≤ 1000) (hA : A = none → l = []) :
    Calls Tryd.prog 44 #[.slice A l.length c] w fun e w' => ∃ v, e = .returned v ∧ OwnI w' w.heap.size v l ∧ Ev w w' := by
  rcases A with _ | a
  · rw [hA rfl]
    exact (Tryd.slices_Clone_int_nil _ _ _).mono fun e w' hh => ⟨_, hh.1, nil_own _ _, by rw [hh.2]; exact Ev.refl _⟩
  · by_cases h0 : l.length = 0
    · have e : l = [] := List.eq_nil_of_length_eq_zero h0
      subst e
      exact (Tryd.slices_Clone_int_zero _ _ _).mono fun e w' hh => by
        obtain ⟨v, h1, h2, -, h4⟩ := hh
        exact ⟨v, h1, h2, h4⟩
    · obtain ⟨b, o, e, hb, -⟩ := hr.2 0 (by omega)
      cases e
      have h := Tryd.slices_Clone_int b o l.length c l w (Nat.le_refl _) (by omega) (fun j hj => by
        obtain ⟨b', o', e, -, hc⟩ := hr.2 j hj
        cases e
        exact hc)
      exact h.mono fun e w' hh => by
        obtain ⟨v, h1, h2, -, h4⟩ := hh
        rw [List.take_length] at h2
        exact ⟨v, h1, h2, h4⟩
def RdC (w : World) (A : Option Addr) (l : List (Int × Int)) : Prop :=
  ∀ j, j < l.length → ∃ b o, A = some ⟨b, o, none⟩ ∧ b < w.heap.size ∧ w.cell? ⟨b, o + j * 2, none⟩ = some (.int .i64 (l.getD j (0, 0)).1) ∧ w.cell? ⟨b, o + j * 2 + 1, none⟩ = some (.int .i64 (l.getD j (0, 0)).2)
theorem RdC.ev {w w' : World} {A : Option Addr} {l : List (Int × Int)} (h : RdC w A l) (e : Ev w w') : RdC w' A l := fun j hj => by
  obtain ⟨b, o, h1, h2, h3, h4⟩ := h j hj
  have := e.sz
  exact ⟨b, o, h1, by omega, by rw [e.cell (p := ⟨b, o + j * 2, none⟩) h2]; exact h3, by rw [e.cell (p := ⟨b, o + j * 2 + 1, none⟩) h2]; exact h4⟩
/-- what a run of changes makes of a valid list -/
def runS (m : List Int) : List (Int × Int) → Int → List Int × Int × Int
  | [], _ => (m, 0, 0)
  | (f, r) :: t, i => if f < 0 ∨ (m.length : Int) ≤ f then ([], 2, i) else if isR r && mb (m.getD f.toNat 0).toNat r.toNat then runS (m.set f.toNat r) t (i + 1) else ([], 14, i)
theorem OwnI.put {w : World} {base g cap i : Nat} {L : List Int} {x : Int} (h : OwnI w base (.slice (some ⟨g, 0, none⟩) L.length cap) L) :
    OwnI (w.setCell ⟨g, i, none⟩ (.int .i64 x)) base (.slice (some ⟨g, 0, none⟩) L.length cap) (L.set i x) ∧ base ≤ g := by
  have h1 := World.ownsRow.stored h i (.int .i64 x)
  refine ⟨?_, (World.ownsRow.lt h g rfl).1⟩
  have e : IV (L.set i x) = (IV L).set i (.int .i64 x) := by unfold IV; simp [List.map_set]
  unfold OwnI
  rw [e]; simpa using h1.1
theorem good_set {m : List Int} (h : goodL m m.length) (k : Nat) {r : Int} (hr : isR r = true) : goodL (m.set k r) (m.set k r).length := fun j hj => by
  rw [List.length_set] at hj
  rw [List.getD_eq_getElem?_getD, List.getElem?_set]
  by_cases e : k = j
  · subst e; simp [hj, hr]
  · rw [if_neg e]; have := h j hj; rwa [List.getD_eq_getElem?_getD] at this
set_option maxRecDepth 100000 in
set_option maxHeartbeats 8000000 in
theorem run_ok (A B : Option Addr) (c d : Nat) (l : List Int) (cs : List (Int × Int)) (w : World) (hr : RdI w A l) (hl : l.length ≤ 256) (hA : A = none → l = []) (hg : goodL l l.length) (hcs : RdC w B cs) (hc : cs.length ≤ 1000) (hT : Tab w) :
    Calls Tryd.prog 21 #[.slice A l.length c, .slice B cs.length d] w fun e w' => ∃ v, e = .returned (.tuple #[v, .int .i64 (runS l cs 0).2.1, .int .i64 (runS l cs 0).2.2]) ∧ OwnI w' w.heap.size v (runS l cs 0).1 ∧ Ev w w' := by
  have C0 := check_any A c l w hr
  rw [chk_good l (by omega) hg] at C0
  have C1 := Lib.hid C0
  clear C0
  have C2 := Lib.hid (clone_any A c l w hr (by omega) hA)
  have HG0 := Lib.hid hg
  have HC := Lib.hid hcs
  have HTT := Lib.hid hT
  have hl' : (l.length : Int) ≤ 256 := by omega
  clear hr hA hg hcs hT
  go_enter Tryd.func21, Tryd.ntmps21
  go_wp2_with fail
  refine C1.out.mono ?_
  rintro e w1 ⟨rfl, rfl⟩
  go_wp2_with fail
  refine C2.out.mono ?_
  rintro e w1 ⟨v, rfl, hown, hev⟩
  obtain ⟨A9, c9, rfl, -⟩ := RdI.of_own hown (by omega)
  have HO := Lib.hid hown
  have HE := Lib.hid hev
  clear hown hev
  go_upto_region 6 with fail
  go_loopg [24] cs.length (fun gh iv wr => ∃ (i : Nat) (m : List Int), gh + i = cs.length ∧ iv = .int .i64 i ∧ m.length = l.length ∧ OwnI wr w.heap.size (.slice A9 l.length c9) m ∧ goodL m m.length ∧ runS m (cs.drop i) i = runS l cs 0 ∧ Ev w wr)
  case atStart => exact ⟨0, l, rfl, rfl, rfl, HO.out, HG0.out, rfl, HE.out⟩
  case round =>
    obtain ⟨i, m, hgi, rfl, hml, hown, hgood, hrun, hev⟩ := hrel
    have HGI := Lib.hid hgi
    have HOW := Lib.hid hown
    have HGD := Lib.hid hgood
    have HRN := Lib.hid hrun
    have HEV := Lib.hid hev
    have HML := Lib.hid hml
    clear hown hgood hrun hev hml HO HE
    by_cases h1 : i < cs.length
    · have h1' : (i : Int) < (cs.length : Int) := by omega
      have hi0' : (0 : Int) ≤ (i : Int) := by omega
      have hi1 : (i : Int) < 1000 := by omega
      obtain ⟨b, o, rfl, hb, k1, k2⟩ := (HC.out.ev HEV.out) i h1
      have hdrop : cs.drop i = cs.getD i (0, 0) :: cs.drop (i + 1) := by
        rw [List.drop_eq_getElem_cons h1, List.getD_eq_getElem?_getD, List.getElem?_eq_getElem h1]; rfl
      have HD := Lib.hid hdrop
      obtain ⟨f, r, hfr⟩ : ∃ f r, cs.getD i (0, 0) = (f, r) := ⟨_, _, rfl⟩
      rw [hfr] at k1 k2 hdrop
      simp only [] at k1 k2
      have HST : Hid (runS l cs 0 = runS m ((f, r) :: cs.drop (i + 1)) i) := Lib.hid (by rw [← HRN.out, hdrop])
      have hml : (m.length : Int) = (l.length : Int) := by rw [HML.out]
      clear hdrop hfr HD
      have HE1 : Hid (Ev w (wr.alloc (.cells #[.int .i64 f, .int .i64 r] 39))) := Lib.hid (HEV.out.alloc _)
      by_cases h2 : f < 0
      · have HQ : Hid (runS l cs 0 = ([], 2, (i : Int))) := Lib.hid (by rw [HST.out]; simp [runS, h2])
        clear hml hgi h1
        go_wp2_with fail
        exact bodyPost_ret (v := .tuple #[.slice none 0 0, .int .i64 2, .int .i64 i]) (by simp [results, Tryd.results21, go_sem]) rfl ⟨_, by rw [HQ.out], by rw [HQ.out]; exact nil_own _ _, HE1.out⟩
      · by_cases h3 : (m.length : Int) ≤ f
        · have HQ : Hid (runS l cs 0 = ([], 2, (i : Int))) := Lib.hid (by rw [HST.out]; simp [runS, h3])
          rw [hml] at h3
          have h2' : 0 ≤ f := by omega
          clear hml hgi h1 h2
          go_wp2_with fail
          exact bodyPost_ret (v := .tuple #[.slice none 0 0, .int .i64 2, .int .i64 i]) (by simp [results, Tryd.results21, go_sem]) rfl ⟨_, by rw [HQ.out], by rw [HQ.out]; exact nil_own _ _, HE1.out⟩
        · obtain ⟨k, rfl⟩ : ∃ k : Nat, f = (k : Int) := ⟨f.toNat, by omega⟩
          have hk : k < m.length := by omega
          have hk' : (k : Int) < (l.length : Int) := by omega
          have hk0 : (0 : Int) ≤ (k : Int) := by omega
          have hor : ¬ ((k : Int) < 0 ∨ (m.length : Int) ≤ (k : Int)) := by omega
          have CR := Lib.hid fun W => isRole_any r W
          by_cases h4 : isR r = true
          · obtain ⟨x, hx8, hx⟩ := isR_nat (HGD.out k hk)
            obtain ⟨y, hy8, rfl⟩ := isR_nat h4
            have CM1 : Hid (∀ n, Calls Tryd.prog 38 #[.int .i64 (x : Int), .int .i64 (y : Int)] ((wr.alloc (.cells #[.int .i64 (k : Int), .int .i64 (y : Int)] 39)).drewN n) fun e w' => e = .returned (.bool (mb x y)) ∧ ∃ m, w' = (wr.alloc (.cells #[.int .i64 (k : Int), .int .i64 (y : Int)] 39)).drewN m) := Lib.hid fun n => (may_any x y _ (HTT.out.ev (HE1.out.drewN n)) hx8 hy8).mono fun e w' hh => ⟨hh.1, n, hh.2.symm⟩
            have CM2 : Hid (∀ a n, Calls Tryd.prog 38 #[.int .i64 (x : Int), .int .i64 (y : Int)] ((wr.alloc (.cells #[.int .i64 (k : Int), .int .i64 (y : Int)] 39)).drewN (a + n)) fun e w' => e = .returned (.bool (mb x y)) ∧ ∃ m, w' = (wr.alloc (.cells #[.int .i64 (k : Int), .int .i64 (y : Int)] 39)).drewN (a + m)) := Lib.hid fun a n => (may_any x y _ (HTT.out.ev (HE1.out.drewN _)) hx8 hy8).mono fun e w' hh => ⟨hh.1, n, hh.2.symm⟩
            rw [h4] at CR
            have HOW1 := HOW.out.alloc (.cells #[.int .i64 (k : Int), .int .i64 (y : Int)] 39)
            obtain ⟨g, rfl⟩ : ∃ g, A9 = some ⟨g, 0, none⟩ := by
              rcases HOW.out.2 with ⟨e, h0⟩ | ⟨g, cap, cur, e, -⟩
              · exfalso; have := HML.out; have : l.length = 0 := by injection e
                omega
              · simp only [Value.slice.injEq] at e
                exact ⟨g, e.1⟩
            have HOM : Hid (OwnI (wr.alloc (.cells #[.int .i64 (k : Int), .int .i64 (y : Int)] 39)) w.heap.size (.slice (some ⟨g, 0, none⟩) m.length c9) m) := Lib.hid (by rw [HML.out]; exact HOW1)
            have ck := OwnI.at HOM.out k hk
            have fk := World.ownsRow.frozenAt HOM.out k
            have hgl := HOM.out.lt g rfl
            have hglt : g < wr.heap.size := (HOW.out.lt g rfl).2
            rw [hx] at ck
            have ck' : wr.cell? ⟨g, k, none⟩ = some (.int .i64 (x : Int)) := by
              rw [← ck]
              exact ((((Ev.refl wr).alloc (.cells #[.int .i64 (k : Int), .int .i64 (y : Int)] 39)).cell (p := ⟨g, k, none⟩) hglt)).symm
            by_cases h5 : mb x y = true
            · have HQ : Hid (runS l cs 0 = runS (m.set k (y : Int)) (cs.drop (i + 1)) (i + 1)) := Lib.hid (by
                rw [HST.out, runS, if_neg hor]
                simp only [Int.toNat_natCast]
                rw [h4, hx, Int.toNat_natCast, h5]
                simp)
              rw [h5] at CM1 CM2
              have HGS : Hid (goodL (m.set k (y : Int)) (m.set k (y : Int)).length) := Lib.hid (good_set HGD.out k h4)
              have HON : Hid (∀ n, OwnI (((wr.alloc (.cells #[.int .i64 (k : Int), .int .i64 (y : Int)] 39)).drewN n).setCell ⟨g, k, none⟩ (.int .i64 (y : Int))) w.heap.size (.slice (some ⟨g, 0, none⟩) l.length c9) (m.set k (y : Int))) := Lib.hid fun n => by
                have h := (OwnI.put (i := k) (x := (y : Int)) (((Ev.refl _).drewN n).own HOM.out)).1
                rwa [HML.out] at h
              have HBG : Hid (w.heap.size ≤ g) := Lib.hid hgl.1
              have H1 := Lib.hid h1
              clear hml hgi h1 h2 h3 h4 hor hx h5 HOW1 hgl
              go_wp2_with fail
              go_quiet ((first | (go_at_call 37; first | exact q1 fun W => CR.out W | exact q2 fun W => CR.out W) | (go_at_call 38; first | exact CM1.out _ | exact CM2.out _ _)))
              go_wp2_with fail
              go_roundg (gk - 1)
              case rel => exact ⟨i + 1, m.set k (y : Int), by have := HGI.out; have := H1.out; omega, by go_num, by rw [List.length_set]; exact HML.out, HON.out _, HGS.out, by rw [HQ.out]; rfl, (HE1.out.drewN _).setC HBG.out _⟩
              case measure => have := HGI.out; have := H1.out; omega
            · have h5 : mb x y = false := by simpa using h5
              have HQ : Hid (runS l cs 0 = ([], 14, (i : Int))) := Lib.hid (by
                rw [HST.out, runS, if_neg hor]
                simp only [Int.toNat_natCast]
                rw [h4, hx, Int.toNat_natCast, h5]
                simp)
              rw [h5] at CM1 CM2
              clear hml hgi h1 h2 h3 h4 hor hx h5 HOW1 hgl
              go_wp2_with fail
              go_quiet ((first | (go_at_call 37; first | exact q1 fun W => CR.out W | exact q2 fun W => CR.out W) | (go_at_call 38; first | exact CM1.out _ | exact CM2.out _ _)))
              go_wp2_with fail
              exact bodyPost_ret (v := .tuple #[.slice none 0 0, .int .i64 14, .int .i64 i]) (by simp [results, Tryd.results21, go_sem]) rfl ⟨_, by rw [HQ.out], by rw [HQ.out]; exact nil_own _ _, HE1.out.drewN _⟩
          · have h4 : isR r = false := by simpa using h4
            have HQ : Hid (runS l cs 0 = ([], 14, (i : Int))) := Lib.hid (by rw [HST.out]; simp [runS, h4]; omega)
            rw [h4] at CR
            clear hml hgi h1 h2 h3 h4 hor
            go_wp2_with fail
            go_quiet ((go_at_call 37; first | exact q1 fun W => CR.out W | exact q2 fun W => CR.out W))
            go_wp2_with fail
            exact bodyPost_ret (v := .tuple #[.slice none 0 0, .int .i64 14, .int .i64 i]) (by simp [results, Tryd.results21, go_sem]) rfl ⟨_, by rw [HQ.out], by rw [HQ.out]; exact nil_own _ _, HE1.out.drewN _⟩
    · obtain rfl : i = cs.length := by omega
      have hq := HRN.out
      rw [List.drop_length] at hq
      have HQ : Hid (runS l cs 0 = (m, 0, 0)) := Lib.hid hq.symm
      clear hgi h1 hq
      go_wp2_with fail
      exact bodyPost_ret (v := .tuple #[.slice A9 l.length c9, .int .i64 0, .int .i64 0]) (by simp [results, Tryd.results21, go_sem]) rfl ⟨_, by rw [HQ.out], by rw [HQ.out]; exact HOW.out, HEV.out⟩
end Go.Proofs.YtdkfedbjbcaajaaDoor
