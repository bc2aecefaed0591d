import Derived.Test.YtdkfedbjbcaajaaDoorRZ
import Derived.Test.YtdkfedbjbcaajaaDoorRQ
namespace Go.Proofs.YtdkfedbjbcaajaaDoor
open Go.RowKit
set_option maxHeartbeats 8000000 in
theorem rmay_bad (f : Nat) (t : Int) (w : World) (hf : f < 8) (ht : isR t = false) : Calls Tryd.prog 40 #[.int .i64 (f : Int), .int .i64 t] w fun e w' => e = .returned (.bool false) ∧ w = w' := by
  unfold isR at ht
  have ht := of_decide_eq_false ht
  have t0 : (t == 0) = false := by simp; omega
  have t1 : (t == 1) = false := by simp; omega
  have t2 : (t == 2) = false := by simp; omega
  have t3 : (t == 3) = false := by simp; omega
  have t4 : (t == 4) = false := by simp; omega
  have t5 : (t == 5) = false := by simp; omega
  have t6 : (t == 6) = false := by simp; omega
  have t7 : (t == 7) = false := by simp; omega
  clear ht
  rcases (show f = 0 ∨ f = 1 ∨ f = 2 ∨ f = 3 ∨ f = 4 ∨ f = 5 ∨ f = 6 ∨ f = 7 by omega) with rfl | rfl | rfl | rfl | rfl | rfl | rfl | rfl <;>
  (go_enter Tryd.func40, Tryd.ntmps40
   go_wp2
   go_ret
   exact ⟨rfl, rfl⟩)
def mbR (x : Nat) (t : Int) : Bool := isR t && mb x t.toNat
theorem rmay_gen (x : Nat) (t : Int) (w : World) (hx : x < 8) : Calls Tryd.prog 40 #[.int .i64 (x : Int), .int .i64 t] w fun e w' => e = .returned (.bool (mbR x t)) ∧ w = w' := by
  unfold mbR
  rcases ht : isR t with _ | _
  · exact rmay_bad x t w hx ht
  · obtain ⟨n, hn, rfl⟩ := isR_nat ht
    rw [Bool.true_and, Int.toNat_natCast]
    exact rmay_any x n w hx hn
/-- what a run of changes makes of a list -/
def ruV (l : List Int) (cs : List (Int × Int)) : List Int × Int × Int := if (chkV l).1 = 0 then runS l cs 0 else ([], (chkV l).1, 0)
theorem runS_cons (m : List Int) (f r : Int) (t : List (Int × Int)) (n : Int) : runS m ((f, r) :: t) n = if (runS m [(f, r)] 0).2.1 = 0 then runS (runS m [(f, r)] 0).1 t (n + 1) else ([], (runS m [(f, r)] 0).2.1, n) := by
  rw [runS, runS]
  by_cases h1 : f < 0 ∨ (m.length : Int) ≤ f
  · rw [if_pos h1, if_pos h1, if_neg (by decide)]
  · rw [if_neg h1, if_neg h1]
    by_cases h2 : (isR r && mb (m.getD f.toNat 0).toNat r.toNat) = true
    · rw [if_pos h2, if_pos h2, runS, if_pos rfl]
    · rw [if_neg h2, if_neg h2, if_neg (by decide)]
theorem runS_one_out (m : List Int) (f r : Int) (h : f < 0 ∨ (m.length : Int) ≤ f) : runS m [(f, r)] 0 = ([], 2, 0) := by rw [runS, if_pos h]
theorem runS_one_no (m : List Int) (k : Nat) (r : Int) (hk : k < m.length) (h : mbR (m.getD k 0).toNat r = false) : runS m [((k : Int), r)] 0 = ([], 14, 0) := by
  rw [runS, if_neg (by omega), Int.toNat_natCast]
  unfold mbR at h
  rw [h]; rfl
theorem runS_one_ok (m : List Int) (k : Nat) (r : Int) (hk : k < m.length) (h : mbR (m.getD k 0).toNat r = true) : runS m [((k : Int), r)] 0 = (m.set k r, 0, 0) := by
  rw [runS, if_neg (by omega), Int.toNat_natCast]
  unfold mbR at h
  rw [h]; rfl
theorem runS_good (m : List Int) (f r : Int) (hg : goodL m m.length) (h0 : (runS m [(f, r)] 0).2.1 = 0) : goodL (runS m [(f, r)] 0).1 (runS m [(f, r)] 0).1.length ∧ (runS m [(f, r)] 0).1.length = m.length := by
  by_cases h1 : f < 0 ∨ (m.length : Int) ≤ f
  · rw [runS_one_out m f r h1] at h0; cases h0
  · obtain ⟨k, rfl⟩ : ∃ k : Nat, f = (k : Int) := ⟨f.toNat, by omega⟩
    rcases h2 : mbR (m.getD k 0).toNat r with _ | _
    · rw [runS_one_no m k r (by omega) h2] at h0; cases h0
    · rw [runS_one_ok m k r (by omega) h2]
      have hr : isR r = true := by unfold mbR at h2; exact (Bool.and_eq_true_iff.1 h2).1
      exact ⟨good_set hg k hr, by rw [List.length_set]⟩
theorem run_any (A B : Option Addr) (c d : Nat) (l : List Int) (cs : List (Int × Int)) (w : World) (hr : RdI w A l) (hA : A = none → l = []) (hcs : RdC w B cs) (hc : cs.length ≤ 1000) (hT : Tab w) :
    Calls Tryd.prog 21 #[.slice A l.length c, .slice B cs.length d] w fun e w' => ∃ v, e = .returned (.tuple #[v, .int .i64 (ruV l cs).2.1, .int .i64 (ruV l cs).2.2]) ∧ OwnI w' w.heap.size v (ruV l cs).1 ∧ Ev w w' := by
  rcases chk_cases l with ⟨h0, hl, hg⟩ | h0
  · have := run_ok A B c d l cs w hr (by omega) hA hg hcs hc hT
    unfold ruV
    rw [if_pos h0]
    exact this
  · have HC := Lib.hid (check_any A c l w hr)
    unfold ruV
    rw [if_neg h0]
    generalize (chkV l).1 = er at *
    generalize (chkV l).2 = er2 at *
    have hq : (er != 0) = true := by simpa using h0
    clear hr h0 hcs hT
    go_enter Tryd.func21, Tryd.ntmps21
    go_wp2_with fail
    refine HC.out.mono ?_
    rintro e w5 ⟨rfl, rfl⟩
    go_wp2_with fail
    exact bodyPost_ret (v := .tuple #[.slice none 0 0, .int .i64 er, .int .i64 0]) (by simp [results, Tryd.results21, go_sem]) rfl ⟨_, rfl, nil_own _ _, Ev.refl _⟩
set_option maxRecDepth 100000 in
set_option maxHeartbeats 4000000 in
theorem change_any (A : Option Addr) (c : Nat) (l : List Int) (f r : Int) (w : World) (hr : RdI w A l) (hA : A = none → l = []) (hT : Tab w) :
    Calls Tryd.prog 23 #[.slice A l.length c, .int .i64 f, .int .i64 r] w fun e w' => ∃ v, e = .returned (.tuple #[v, .int .i64 (ruV l [(f, r)]).2.1]) ∧ OwnI w' w.heap.size v (ruV l [(f, r)]).1 ∧ Ev w w' := by
  have HE : Hid (Ev w (w.alloc (.cells #[.int .i64 f, .int .i64 r] 39))) := Lib.hid ((Ev.refl w).alloc _)
  have C := Lib.hid (run_any A (some ⟨w.heap.size, 0, none⟩) c 1 l [(f, r)] _ (hr.ev HE.out) hA (rdc_new1 w f r) (by simp) (hT.ev HE.out))
  have HS : Hid (w.heap.size ≤ (w.alloc (.cells #[.int .i64 f, .int .i64 r] 39)).heap.size) := Lib.hid (by simp)
  generalize ruV l [(f, r)] = R at *
  clear hr hA hT
  go_enter Tryd.func23, Tryd.ntmps23
  go_wp2_with fail
  refine C.out.mono ?_
  rintro e w1 ⟨v, rfl, hown, hev⟩
  have HO := Lib.hid (own_weaken hown HS.out)
  have HV := Lib.hid (HE.out.step hev)
  clear hown hev
  go_wp2_with fail
  exact bodyPost_ret (v := .tuple #[v, .int .i64 R.2.1]) (by simp [results, Tryd.results23, go_sem]) rfl ⟨_, rfl, HO.out, HV.out⟩
set_option maxRecDepth 100000 in
set_option maxHeartbeats 4000000 in
theorem rchange_any (A : Option Addr) (c : Nat) (l : List Int) (f r : Int) (w : World) (hr : RdI w A l) (hA : A = none → l = []) :
    Calls Tryd.prog 24 #[.slice A l.length c, .int .i64 f, .int .i64 r] w fun e w' => ∃ v, e = .returned (.tuple #[v, .int .i64 (ruV l [(f, r)]).2.1]) ∧ OwnI w' w.heap.size v (ruV l [(f, r)]).1 ∧ Ev w w' := by
  obtain ⟨i0, hi0, hz0, hz1, hz2⟩ := info_parts info3
  have HC := Lib.hid (rcheck_any A c l w hr)
  unfold ruV
  rcases chk_cases l with ⟨h0, hl, hg⟩ | h0
  · rw [h0] at HC
    rw [if_pos h0]
    have hl' : (l.length : Int) ≤ 256 := by omega
    by_cases h1 : f < 0 ∨ (l.length : Int) ≤ f
    · rw [runS_one_out l f r h1]
      clear h0 hl hg hr hA
      rcases (show f < 0 ∨ (0 ≤ f ∧ (l.length : Int) ≤ f) by omega) with h2 | ⟨h2, h3⟩
      all_goals
        clear h1
        go_enter Tryd.func24, Tryd.ntmps24
        go_wp2_with fail
        refine HC.out.mono ?_
        rintro e w5 ⟨rfl, rfl⟩
        go_wp2_with fail
        exact bodyPost_ret (v := .tuple #[.slice none 0 0, .int .i64 2]) (by simp [results, Tryd.results24, go_sem]) rfl ⟨_, rfl, nil_own _ _, Ev.refl _⟩
    · obtain ⟨k, rfl⟩ : ∃ k : Nat, f = (k : Int) := ⟨f.toNat, by omega⟩
      have hk : k < l.length := by omega
      obtain ⟨b, o, rfl, hb, c1⟩ := hr.2 k hk
      obtain ⟨x, hx8, hx⟩ := isR_nat (hg k hk)
      have CM := Lib.hid (rmay_gen x r w hx8)
      have hk' : (k : Int) < (l.length : Int) := by omega
      have hk0 : (0 : Int) ≤ (k : Int) := by omega
      rw [hx] at c1
      rcases h2 : mbR x r with _ | _
      · rw [runS_one_no l k r hk (by rw [hx, Int.toNat_natCast]; exact h2)]
        rw [h2] at CM
        clear h0 hl hg hr hA h1 hk hx h2
        go_enter Tryd.func24, Tryd.ntmps24
        go_wp2_with fail
        refine HC.out.mono ?_
        rintro e w5 ⟨rfl, rfl⟩
        go_wp2_with fail
        refine CM.out.mono ?_
        rintro e w5 ⟨rfl, rfl⟩
        go_wp2_with fail
        exact bodyPost_ret (v := .tuple #[.slice none 0 0, .int .i64 14]) (by simp [results, Tryd.results24, go_sem]) rfl ⟨_, rfl, nil_own _ _, Ev.refl _⟩
      · rw [runS_one_ok l k r hk (by rw [hx, Int.toNat_natCast]; exact h2)]
        rw [h2] at CM
        have hown0 : (w.alloc (.cells #[] 3)).ownsRow w.heap.size 3 1 (.slice (some ⟨w.heap.size, 0, none⟩) 0 0) 0 [] :=
          ⟨rfl, .inr ⟨w.heap.size, 0, #[], rfl, Nat.le_refl _, heap_alloc_new w _, Nat.le_refl _, Nat.zero_le _, rfl, rfl⟩⟩
        have hnews : ∀ j u, (IV l)[j]? = some u → (w.alloc (.cells #[] 3)).cell? ((⟨b, o, none⟩ : Addr).add j) = some u := by
          intro j u hu
          obtain ⟨hj, rfl⟩ := IV_at l j u hu
          obtain ⟨b', o', he, hb', hc'⟩ := (hr.ev ((Ev.refl w).alloc (.cells #[] 3))).2 j hj
          rw [Option.some.inj he, add_cell]
          exact hc'
        have hone : ∀ u ∈ IV l, u.oneCell' = true := by
          intro u hu
          obtain ⟨x, _, rfl⟩ := List.mem_map.1 hu
          rfl
        have HL1 := Lib.hid (show 0 + l.length ≤ maxLen by simp [maxLen]; omega)
        have HL2 := Lib.hid (show (0 + l.length) * 8 ≤ 140737488355328 by omega)
        have HC1 := Lib.hid (show (IV l).length = l.length * 1 from by simp [IV])
        have HC5 := Lib.hid (show w.heap.size ≤ (w.alloc (.cells #[] 3)).heap.size from by simp)
        have HN := Lib.hid hnews
        have HO := Lib.hid hown0
        have H1 := Lib.hid hone
        have HK := Lib.hid hk
        clear h0 hl hg hr hA h1 hk hx h2 hnews hown0 hone
        go_enter Tryd.func24, Tryd.ntmps24
        go_wp2_with fail
        refine HC.out.mono ?_
        rintro e w5 ⟨rfl, rfl⟩
        go_wp2_with fail
        refine CM.out.mono ?_
        rintro e w5 ⟨rfl, rfl⟩
        go_upto_region 9 with (at_builtin; go_loud (refine wpList_append_own _ rfl (.tmp 37) (.tmp 38) 25 rfl w.heap.size 3 i0 (.int .i64 0) 1 8 Tryd.underlying25 hi0 hz0 hz1 hz2 rfl Nat.one_pos (.slice (some ⟨w.heap.size, 0, none⟩) 0 0) 0 [] rfl HO.out ⟨b, o, none⟩ l.length c (IV l) rfl HC1.out HN.out H1.out HL1.out HL2.out HC5.out ?_); intro v1 w1 hown1 hg1 _)
        rw [Nat.zero_add, List.nil_append] at hown1
        have hev1 : Ev w w1 := Ev.grown (al1 _ _) hg1 (fun k hk => by simp [Value.ownBlock] at hk; omega)
        have HOW : Hid (OwnI w1 w.heap.size v1 l) := Lib.hid hown1
        have HV1 := Lib.hid hev1
        clear hown1 hg1 hev1
        obtain ⟨g, cg, rfl⟩ : ∃ g cg, v1 = .slice (some ⟨g, 0, none⟩) l.length cg := by
          rcases HOW.out.2 with ⟨-, h0⟩ | ⟨g, cap, cur, e, -⟩
          · have := HK.out; omega
          · exact ⟨g, cap, e⟩
        have hgl := HOW.out.lt g rfl
        have HP := Lib.hid (OwnI.put (i := k) (x := r) HOW.out)
        have ck := OwnI.at HOW.out k HK.out
        have fk := World.ownsRow.frozenAt HOW.out k
        have HV2 := Lib.hid (HV1.out.setC (p := ⟨g, k, none⟩) hgl.1 (.int .i64 r))
        clear hgl
        go_wp2_with fail
        exact bodyPost_ret (v := .tuple #[.slice (some ⟨g, 0, none⟩) l.length cg, .int .i64 0]) (by simp [results, Tryd.results24, go_sem]) rfl ⟨_, rfl, by unfold OwnI; rw [List.length_set]; have h := HP.out.1; unfold OwnI at h; rwa [List.length_set] at h, HV2.out⟩
  · rw [if_neg h0]
    generalize (chkV l).1 = er at *
    generalize (chkV l).2 = er2 at *
    have hq : (er != 0) = true := by simpa using h0
    clear hr h0
    go_enter Tryd.func24, Tryd.ntmps24
    go_wp2_with fail
    refine HC.out.mono ?_
    rintro e w5 ⟨rfl, rfl⟩
    go_wp2_with fail
    exact bodyPost_ret (v := .tuple #[.slice none 0 0, .int .i64 er]) (by simp [results, Tryd.results24, go_sem]) rfl ⟨_, rfl, nil_own _ _, Ev.refl _⟩
end Go.Proofs.YtdkfedbjbcaajaaDoor
