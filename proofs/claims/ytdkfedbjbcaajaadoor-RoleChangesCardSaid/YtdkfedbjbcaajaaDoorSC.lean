import Derived.Test.YtdkfedbjbcaajaaDoorSB
import Derived.Test.YtdkfedbjbcaajaaDoorRV
import Derived.Test.YtdkfedbjbcaajaaDoorRV
namespace Go.Proofs.YtdkfedbjbcaajaaDoor
open Go.RowKit
theorem own_copy0 (w : World) : (w.alloc (.cells #[] 3)).ownsRow w.heap.size 3 1 (.slice (some ⟨w.heap.size, 0, none⟩) 0 0) 0 [] :=
  ⟨rfl, .inr ⟨w.heap.size, 0, #[], rfl, Nat.le_refl _, heap_alloc_new w _, Nat.le_refl _, Nat.zero_le _, rfl, rfl⟩⟩
theorem rchange_g (A : Option Addr) (c : Nat) (m : List Int) (f r : Int) (w : World) (hr : RdI w A m) (hA : A = none → m = []) (hl : m.length ≤ 256) (hg : goodL m m.length) :
    Calls Tryd.prog 24 #[.slice A m.length c, .int .i64 f, .int .i64 r] w fun e w' => ∃ B d, e = .returned (.tuple #[.slice B (runS m [(f, r)] 0).1.length d, .int .i64 (runS m [(f, r)] 0).2.1]) ∧ RdI w' B (runS m [(f, r)] 0).1 ∧ (B = none → (runS m [(f, r)] 0).1 = []) ∧ Ev w w' :=
  (rchange_any A c m f r w hr hA).mono fun e w' ⟨v, h1, h2, h3⟩ => by
    unfold ruV at h1 h2
    rw [if_pos (by rw [chk_good m (by omega) hg])] at h1 h2
    obtain ⟨B, d, rfl, h4, h5⟩ := RdI.of_own' h2 (by have := runS_len m [(f, r)] 0; omega)
    exact ⟨B, d, h1, h4, fun h => (h5 h).1, h3⟩
/-- the reference's run: a list that reads so -/
def SomeL (w : World) (l : List Int) (er n : Int) (e : Ending) (w' : World) : Prop := ∃ B d, e = .returned (.tuple #[.slice B l.length d, .int .i64 er, .int .i64 n]) ∧ RdI w' B l ∧ Ev w w'
set_option maxRecDepth 100000 in
set_option maxHeartbeats 8000000 in
theorem rrun_ok (A B : Option Addr) (c d : Nat) (l : List Int) (cs : List (Int × Int)) (w : World) (hl : l.length ≤ 256) (hr : RdI w A l) (hg : goodL l l.length) (hA : A = none → l = [] ∧ c = 0) (hcs : RdC w B cs) (hc : cs.length ≤ 1000) (h0 : (chkV l).1 = 0) :
    Calls Tryd.prog 22 #[.slice A l.length c, .slice B cs.length d] w fun e w' => SomeL w (runS l cs 0).1 (runS l cs 0).2.1 (runS l cs 0).2.2 e w' := by
  obtain ⟨i0, hi0, hz0, hz1, hz2⟩ := info_parts info3
  have HC := Lib.hid (rcheck_any A c l w hr)
  rw [h0] at HC
  have HCS := Lib.hid hcs
  have HG := Lib.hid hg
  have HLL := Lib.hid hl
  cases A with
  | none =>
    obtain ⟨rfl, rfl⟩ := hA rfl
    clear hr hg hA hcs h0
    go_enter Tryd.func22, Tryd.ntmps22
    go_wp2_with fail
    refine HC.out.mono ?_
    rintro e w5 ⟨rfl, rfl⟩
    have HE0 : Hid (Ev w (w.alloc (.cells #[] 3))) := Lib.hid ((Ev.refl w).alloc _)
    go_upto_region 6 with fail
    go_loopg [7, 9, 10] cs.length (fun gh ev ov iv wr => ∃ (i : Nat) (m : List Int) (A9 : Option Addr) (c9 : Nat), gh + i = cs.length ∧ iv = .int .i64 i ∧ ev = .int .i64 0 ∧ m.length = ([] : List Int).length ∧ ov = .slice A9 m.length c9 ∧ RdI wr A9 m ∧ (A9 = none → m = []) ∧ goodL m m.length ∧ runS m (cs.drop i) i = runS ([] : List Int) cs 0 ∧ Ev w wr)
    case atStart => exact ⟨0, [], some ⟨w.heap.size, 0, none⟩, 0, rfl, rfl, rfl, rfl, rfl, ⟨by simp, fun j hj => by simp at hj⟩, fun _ => rfl, HG.out, rfl, HE0.out⟩
    case round =>
      obtain ⟨i, m, A9, c9, hgi, rfl, rfl, hml, rfl, hrd, hn9, hgood, hrun, hev⟩ := hrel
      have HGI := Lib.hid hgi
      have HRD := Lib.hid hrd
      have HN9 := Lib.hid hn9
      have HGD := Lib.hid hgood
      have HRN := Lib.hid hrun
      have HEV := Lib.hid hev
      have HML := Lib.hid hml
      clear hrd hn9 hgood hrun hev hml
      by_cases h1 : i < cs.length
      · have h1' : (i : Int) < (cs.length : Int) := by omega
        have hi0' : (0 : Int) ≤ (i : Int) := by omega
        have hi1 : (i : Int) < 1000 := by omega
        obtain ⟨b, o, rfl, hb, k1, k2⟩ := (HCS.out.ev HEV.out) i h1
        have hdrop : cs.drop i = cs.getD i (0, 0) :: cs.drop (i + 1) := by
          rw [List.drop_eq_getElem_cons h1, List.getD_eq_getElem?_getD, List.getElem?_eq_getElem h1]; rfl
        obtain ⟨f, r, hfr⟩ : ∃ f r, cs.getD i (0, 0) = (f, r) := ⟨_, _, rfl⟩
        rw [hfr] at k1 k2 hdrop
        simp only [] at k1 k2
        have HST : Hid (runS ([] : List Int) cs 0 = if (runS m [(f, r)] 0).2.1 = 0 then runS (runS m [(f, r)] 0).1 (cs.drop (i + 1)) (i + 1) else ([], (runS m [(f, r)] 0).2.1, (i : Int))) := Lib.hid (by rw [← HRN.out, hdrop, runS_cons])
        have HGG := Lib.hid (runS_good m f r HGD.out)
        have CR := Lib.hid fun W (h : Ev wr W) => rchange_g A9 c9 m f r W (HRD.out.ev h) HN9.out (by have := HML.out; have := HLL.out; omega) HGD.out
        have H1 := Lib.hid h1
        have HSS : Hid (∀ W, Ev wr W → (W.cell? ⟨b, o + i * 2, none⟩ = some (.int .i64 f) ∧ W.cell? ⟨b, o + i * 2 + 1, none⟩ = some (.int .i64 r)) ∧ Ev wr W) := Lib.hid fun W h => ⟨⟨(h.cell (p := ⟨b, o + i * 2, none⟩) hb).trans k1, (h.cell (p := ⟨b, o + i * 2 + 1, none⟩) hb).trans k2⟩, h⟩
        generalize runS m [(f, r)] 0 = R at *
        obtain ⟨L, er, n9⟩ := R
        simp only [] at HST HGG CR
        clear hdrop hfr hgi h1
        have dd := HSS.out _ (Ev.refl wr)
        go_wp2_with fail
        go_region_held3 (fun W => (W.cell? ⟨b, o + i * 2, none⟩ = some (.int .i64 f) ∧ W.cell? ⟨b, o + i * 2 + 1, none⟩ = some (.int .i64 r)) ∧ Ev wr W)
          ((refine HSS.out _ ?_; first | (with_reducible assumption) | (with_reducible exact Ev.drew (Ev.refl _))))
          ((go_at_call 24; refine (CR.out _ (Ev.drew (Ev.refl _))).mono ?_; rintro e w8 ⟨B8, d8, rfl, hr8, hn8, hev8⟩; have hE8 : Ev wr w8 := Ev.step (Ev.drew (Ev.refl _)) hev8))
        have HR8 := Lib.hid hr8
        have HN8 := Lib.hid hn8
        have HE8 := Lib.hid hE8
        clear dd hr8 hn8 hev8 hE8 k1 k2
        by_cases h0 : er = 0
        · subst h0
          have HG1 := Lib.hid (HGG.out rfl)
          clear HGG
          have HQ : Hid (runS ([] : List Int) cs 0 = runS L (cs.drop (i + 1)) (i + 1)) := Lib.hid (by rw [HST.out, if_pos rfl])
          go_wp2_with fail
          go_roundg (gk - 1)
          case rel => exact ⟨i + 1, L, B8, d8, by have := HGI.out; have := H1.out; omega, by go_num, rfl, by rw [HG1.out.2]; exact HML.out, rfl, HR8.out, HN8.out, HG1.out.1, by rw [HQ.out]; rfl, HEV.out.step HE8.out⟩
          case measure => have := HGI.out; have := H1.out; omega
        · have HQ : Hid (runS ([] : List Int) cs 0 = ([], er, (i : Int))) := Lib.hid (by rw [HST.out, if_neg h0])
          have hq : (er != 0) = true := by simpa using h0
          clear h0
          go_wp2_with fail
          exact bodyPost_ret (v := .tuple #[.slice none 0 0, .int .i64 er, .int .i64 i]) (by simp [results, Tryd.results22, go_sem]) rfl ⟨none, 0, by rw [HQ.out]; rfl, by rw [HQ.out]; exact ⟨by simp, fun j hj => by simp at hj⟩, HEV.out.step HE8.out⟩
      · obtain rfl : i = cs.length := by omega
        have hq := HRN.out
        rw [List.drop_length] at hq
        have HQ : Hid (runS ([] : List Int) cs 0 = (m, 0, 0)) := Lib.hid hq.symm
        clear hgi h1 hq
        go_wp2_with fail
        exact bodyPost_ret (v := .tuple #[.slice A9 m.length c9, .int .i64 0, .int .i64 0]) (by simp [results, Tryd.results22, go_sem]) rfl ⟨A9, c9, by rw [HQ.out], by rw [HQ.out]; exact HRD.out, HEV.out⟩
  | some ad =>
    have hnews : ∀ j u, (IV l)[j]? = some u → (w.alloc (.cells #[] 3)).cell? (ad.add j) = some u := by
      intro j u hu
      obtain ⟨hj, rfl⟩ := IV_at l j u hu
      obtain ⟨b', o', he, hb', hc'⟩ := (hr.ev ((Ev.refl w).alloc (.cells #[] 3))).2 j hj
      rw [Option.some.inj he, add_cell]
      exact hc'
    have hone : ∀ u ∈ IV l, u.oneCell' = true := by
      intro u hu
      obtain ⟨x, _, rfl⟩ := List.mem_map.1 hu
      rfl
    have HL1 := Lib.hid (show 0 + l.length ≤ maxLen by simp [maxLen]; omega)
    have HL2 := Lib.hid (show (0 + l.length) * 8 ≤ 140737488355328 by omega)
    have HC1 := Lib.hid (show (IV l).length = l.length * 1 from by simp [IV])
    have HC5 := Lib.hid (show w.heap.size ≤ (w.alloc (.cells #[] 3)).heap.size from by simp)
    have HN := Lib.hid hnews
    have HO := Lib.hid (own_copy0 w)
    have H1 := Lib.hid hone
    clear hr hg hA hcs h0 hnews hone
    go_enter Tryd.func22, Tryd.ntmps22
    go_wp2_with fail
    refine HC.out.mono ?_
    rintro e w5 ⟨rfl, rfl⟩
    go_upto_region 6 with (at_builtin; go_loud (refine wpList_append_own _ rfl (.tmp 19) (.tmp 20) 25 rfl w.heap.size 3 i0 (.int .i64 0) 1 8 Tryd.underlying25 hi0 hz0 hz1 hz2 rfl Nat.one_pos (.slice (some ⟨w.heap.size, 0, none⟩) 0 0) 0 [] rfl HO.out ad l.length c (IV l) rfl HC1.out HN.out H1.out HL1.out HL2.out HC5.out ?_); intro v1 w1 hown1 hg1 _; rw [Nat.zero_add, List.nil_append] at hown1; have HE0 : Hid (Ev w w1) := Lib.hid (Ev.grown (al1 _ _) hg1 (fun k hk => by simp [Value.ownBlock] at hk; omega)); have HOW : Hid (OwnI w1 w.heap.size v1 l) := Lib.hid hown1; clear hown1 hg1)
    obtain ⟨A1, c1, rfl, hr1, hn1⟩ := RdI.of_own' HOW.out (by omega)
    have HR1 := Lib.hid hr1
    have HN1 := Lib.hid hn1
    clear hr1 hn1
    go_loopg [7, 9, 10] cs.length (fun gh ev ov iv wr => ∃ (i : Nat) (m : List Int) (A9 : Option Addr) (c9 : Nat), gh + i = cs.length ∧ iv = .int .i64 i ∧ ev = .int .i64 0 ∧ m.length = l.length ∧ ov = .slice A9 m.length c9 ∧ RdI wr A9 m ∧ (A9 = none → m = []) ∧ goodL m m.length ∧ runS m (cs.drop i) i = runS l cs 0 ∧ Ev w wr)
    case atStart => exact ⟨0, l, A1, c1, rfl, rfl, rfl, rfl, rfl, HR1.out, fun h => (HN1.out h).1, HG.out, rfl, HE0.out⟩
    case round =>
      obtain ⟨i, m, A9, c9, hgi, rfl, rfl, hml, rfl, hrd, hn9, hgood, hrun, hev⟩ := hrel
      have HGI := Lib.hid hgi
      have HRD := Lib.hid hrd
      have HN9 := Lib.hid hn9
      have HGD := Lib.hid hgood
      have HRN := Lib.hid hrun
      have HEV := Lib.hid hev
      have HML := Lib.hid hml
      clear hrd hn9 hgood hrun hev hml
      by_cases h1 : i < cs.length
      · have h1' : (i : Int) < (cs.length : Int) := by omega
        have hi0' : (0 : Int) ≤ (i : Int) := by omega
        have hi1 : (i : Int) < 1000 := by omega
        obtain ⟨b, o, rfl, hb, k1, k2⟩ := (HCS.out.ev HEV.out) i h1
        have hdrop : cs.drop i = cs.getD i (0, 0) :: cs.drop (i + 1) := by
          rw [List.drop_eq_getElem_cons h1, List.getD_eq_getElem?_getD, List.getElem?_eq_getElem h1]; rfl
        obtain ⟨f, r, hfr⟩ : ∃ f r, cs.getD i (0, 0) = (f, r) := ⟨_, _, rfl⟩
        rw [hfr] at k1 k2 hdrop
        simp only [] at k1 k2
        have HST : Hid (runS l cs 0 = if (runS m [(f, r)] 0).2.1 = 0 then runS (runS m [(f, r)] 0).1 (cs.drop (i + 1)) (i + 1) else ([], (runS m [(f, r)] 0).2.1, (i : Int))) := Lib.hid (by rw [← HRN.out, hdrop, runS_cons])
        have HGG := Lib.hid (runS_good m f r HGD.out)
        have CR := Lib.hid fun W (h : Ev wr W) => rchange_g A9 c9 m f r W (HRD.out.ev h) HN9.out (by have := HML.out; have := HLL.out; omega) HGD.out
        have H1 := Lib.hid h1
        have HSS : Hid (∀ W, Ev wr W → (W.cell? ⟨b, o + i * 2, none⟩ = some (.int .i64 f) ∧ W.cell? ⟨b, o + i * 2 + 1, none⟩ = some (.int .i64 r)) ∧ Ev wr W) := Lib.hid fun W h => ⟨⟨(h.cell (p := ⟨b, o + i * 2, none⟩) hb).trans k1, (h.cell (p := ⟨b, o + i * 2 + 1, none⟩) hb).trans k2⟩, h⟩
        generalize runS m [(f, r)] 0 = R at *
        obtain ⟨L, er, n9⟩ := R
        simp only [] at HST HGG CR
        clear hdrop hfr hgi h1
        have dd := HSS.out _ (Ev.refl wr)
        go_wp2_with fail
        go_region_held3 (fun W => (W.cell? ⟨b, o + i * 2, none⟩ = some (.int .i64 f) ∧ W.cell? ⟨b, o + i * 2 + 1, none⟩ = some (.int .i64 r)) ∧ Ev wr W)
          ((refine HSS.out _ ?_; first | (with_reducible assumption) | (with_reducible exact Ev.drew (Ev.refl _))))
          ((go_at_call 24; refine (CR.out _ (Ev.drew (Ev.refl _))).mono ?_; rintro e w8 ⟨B8, d8, rfl, hr8, hn8, hev8⟩; have hE8 : Ev wr w8 := Ev.step (Ev.drew (Ev.refl _)) hev8))
        have HR8 := Lib.hid hr8
        have HN8 := Lib.hid hn8
        have HE8 := Lib.hid hE8
        clear dd hr8 hn8 hev8 hE8 k1 k2
        by_cases h0 : er = 0
        · subst h0
          have HG1 := Lib.hid (HGG.out rfl)
          clear HGG
          have HQ : Hid (runS l cs 0 = runS L (cs.drop (i + 1)) (i + 1)) := Lib.hid (by rw [HST.out, if_pos rfl])
          go_wp2_with fail
          go_roundg (gk - 1)
          case rel => exact ⟨i + 1, L, B8, d8, by have := HGI.out; have := H1.out; omega, by go_num, rfl, by rw [HG1.out.2]; exact HML.out, rfl, HR8.out, HN8.out, HG1.out.1, by rw [HQ.out]; rfl, HEV.out.step HE8.out⟩
          case measure => have := HGI.out; have := H1.out; omega
        · have HQ : Hid (runS l cs 0 = ([], er, (i : Int))) := Lib.hid (by rw [HST.out, if_neg h0])
          have hq : (er != 0) = true := by simpa using h0
          clear h0
          go_wp2_with fail
          exact bodyPost_ret (v := .tuple #[.slice none 0 0, .int .i64 er, .int .i64 i]) (by simp [results, Tryd.results22, go_sem]) rfl ⟨none, 0, by rw [HQ.out]; rfl, by rw [HQ.out]; exact ⟨by simp, fun j hj => by simp at hj⟩, HEV.out.step HE8.out⟩
      · obtain rfl : i = cs.length := by omega
        have hq := HRN.out
        rw [List.drop_length] at hq
        have HQ : Hid (runS l cs 0 = (m, 0, 0)) := Lib.hid hq.symm
        clear hgi h1 hq
        go_wp2_with fail
        exact bodyPost_ret (v := .tuple #[.slice A9 m.length c9, .int .i64 0, .int .i64 0]) (by simp [results, Tryd.results22, go_sem]) rfl ⟨A9, c9, by rw [HQ.out], by rw [HQ.out]; exact HRD.out, HEV.out⟩
theorem rrun_any (A B : Option Addr) (c d : Nat) (l : List Int) (cs : List (Int × Int)) (w : World) (hr : RdI w A l) (hA : A = none → l = [] ∧ c = 0) (hcs : RdC w B cs) (hc : cs.length ≤ 1000) :
    Calls Tryd.prog 22 #[.slice A l.length c, .slice B cs.length d] w fun e w' => SomeL w (ruV l cs).1 (ruV l cs).2.1 (ruV l cs).2.2 e w' := by
  rcases chk_cases l with ⟨h0, hl, hg⟩ | h0
  · unfold ruV
    rw [if_pos h0]
    exact rrun_ok A B c d l cs w (by omega) hr hg hA hcs hc h0
  · have HC := Lib.hid (rcheck_any A c l w hr)
    unfold ruV
    rw [if_neg h0]
    generalize (chkV l).1 = er at *
    generalize (chkV l).2 = er2 at *
    have hq : (er != 0) = true := by simpa using h0
    clear hr h0 hcs
    go_enter Tryd.func22, Tryd.ntmps22
    go_wp2_with fail
    refine HC.out.mono ?_
    rintro e w5 ⟨rfl, rfl⟩
    go_wp2_with fail
    exact bodyPost_ret (v := .tuple #[.slice none 0 0, .int .i64 er, .int .i64 0]) (by simp [results, Tryd.results22, go_sem]) rfl ⟨none, 0, rfl, ⟨by simp, fun j hj => by simp at hj⟩, Ev.refl _⟩
end Go.Proofs.YtdkfedbjbcaajaaDoor
