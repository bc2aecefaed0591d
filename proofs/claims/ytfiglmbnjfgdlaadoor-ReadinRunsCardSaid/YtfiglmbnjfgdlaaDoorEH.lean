import Derived.Test.YtfiglmbnjfgdlaaDoorOF
import Derived.Test.YtfiglmbnjfgdlaaDoorDM
namespace Go.Proofs.YtfiglmbnjfgdlaaDoor
open Go.RowKit Go.Deep
theorem RdC.nilc (w : World) (A : Option Addr) : RdC w A [] := fun j hj => by simp at hj
set_option maxRecDepth 100000 in
set_option maxHeartbeats 16000000 in
theorem runs_law (s f w : Int) (B : Option Addr) (d : Nat) (cs : List (Int × Int)) (W : World) (hT : Tab W) (hcs : RdC W B cs) (hn : B = none → cs.length = 0 ∧ d = 0) (hlen : cs.length ≤ 20) :
    Calls Tryd.prog 4 #[rd s f w, .slice B cs.length d] W fun x w' => x = .returned (.bool true) ∧ Ev W w' := by
  have HTT := Lib.hid hT
  have HF := Lib.hid eqR
  have HCS := Lib.hid hcs
  have HN := Lib.hid hn
  have HLEN := Lib.hid hlen
  have HE1 : Hid (Ev W (W.alloc (rdO s f w))) := Lib.hid (al1 _ _)
  have HB1 := Lib.hid (BoxR.new W s f w)
  have C22 : Hid (∀ A c W', Tab W' → RdC W' A cs → Calls Tryd.prog 22 #[rd s f w, .slice A cs.length c] W' fun x w' => RunQ W' (ruA s f w cs) x w') := Lib.hid fun A c W' h1 h2 => run_any s f w A c cs W' h1 h2 (by omega)
  have C23 : Hid (∀ W', RdC W' B cs → Calls Tryd.prog 23 #[rd s f w, .slice B cs.length d] W' fun x w' => RunQ W' (ruA s f w cs) x w') := Lib.hid fun W' h2 => rrun_any s f w B d cs W' h2 (by omega)
  have C24 := Lib.hid fun W h => over_any s f w W h
  have C25 := Lib.hid fun W => rover_any s f w W
  have C26 := Lib.hid fun W => shortest_any s f w W
  have C27 := Lib.hid fun W => rshortest_any s f w W
  unfold RunQ at C22 C23
  unfold ListQ at C26 C27
  have hq : ∀ x : Int, (x != x) = false := fun x => by simp
  have q1 := hq (ruA s f w cs).n
  have q2 := hq (ruA s f w cs).e
  have q3 : ((ck s f w == 0 && (evL s f w).length == 0) == (ck s f w == 0 && (evL s f w).length == 0)) = true := by simp
  have q4 : (ck s f w == ck s f w) = true := by simp
  have q5 : (seE s f w == seE s f w) = true := by simp
  clear hq hT hcs hn hlen
  generalize ruA s f w cs = V at *
  obtain ⟨vs, vf, vw, vn, ve⟩ := V
  simp only [] at C22 C23 q1 q2
  generalize (ck s f w == 0 && (evL s f w).length == 0) = ov at *
  generalize ck s f w = er2 at *
  generalize seL s f w = L2 at *
  generalize seE s f w = er3 at *
  generalize (vn : Int) = vni at *
  have d1 : decide ((20 : Int) < (cs.length : Int)) = false := decide_eq_false (by have := HLEN.out; omega)
  have d2 : decide (20 < cs.length) = false := decide_eq_false (by have := HLEN.out; omega)
  go_enter Tryd.func4, Tryd.ntmps4
  go_upto_region 3 with fail
  have HCS1 := Lib.hid (HCS.out.ev HE1.out)
  clear d1 d2
  generalize (W.alloc (rdO s f w)) = w1 at *
  go_cut [5] from 19 (fun s5 wd => ∃ A c, s5 = .slice A cs.length c ∧ RdC wd A cs ∧ Ev w1 wd)
  case first =>
    cases B with
    | none =>
      obtain ⟨h1, rfl⟩ := HN.out rfl
      obtain rfl : cs = [] := List.eq_nil_of_length_eq_zero h1
      clear h1
      go_wp2_with fail
      go_meet
      case rel => exact ⟨_, _, rfl, RdC.nilc _ _, al1 _ _⟩
    | some ad =>
      obtain ⟨i0, hi0, hz0, hz1, hz2⟩ := info_parts info42
      have HO : Hid ((w1.alloc (.cells #[] 42)).ownsRow w1.heap.size 42 2 (.slice (some ⟨w1.heap.size, 0, none⟩) 0 0) 0 []) := Lib.hid
        ⟨rfl, .inr ⟨w1.heap.size, 0, #[], rfl, Nat.le_refl _, heap_alloc_new w1 _, Nat.le_refl _, Nat.zero_le _, rfl, rfl⟩⟩
      have HNW := Lib.hid (news_of (HCS1.out.ev ((Ev.refl w1).alloc (.cells #[] 42))))
      have H1 := Lib.hid (flatC_one cs)
      have HL1 := Lib.hid (show 0 + cs.length ≤ maxLen by have := HLEN.out; simp [maxLen]; omega)
      have HL2 := Lib.hid (show (0 + cs.length) * 16 ≤ 140737488355328 by have := HLEN.out; omega)
      have HC1 := Lib.hid (flatC_len cs)
      have HC5 := Lib.hid (show w1.heap.size ≤ (w1.alloc (.cells #[] 42)).heap.size from by simp)
      go_wp2_with (at_builtin; go_loud (refine wpList_append_own _ rfl (.tmp 23) (.tmp 24) 38 rfl w1.heap.size 42 i0 (.agg #[.int .i64 0, .int .i64 0]) 2 16 Tryd.underlying38 hi0 hz0 hz1 hz2 rfl (by decide) (.slice (some ⟨w1.heap.size, 0, none⟩) 0 0) 0 [] rfl HO.out ad cs.length d (flatC cs) rfl HC1.out HNW.out H1.out HL1.out HL2.out HC5.out ?_); intro v1 w2 hown1 hg1 _)
      rw [Nat.zero_add, List.nil_append] at hown1
      obtain ⟨A2, c2, rfl, hr2⟩ := RdC.of_own hown1
      have HEV2 : Hid (Ev w1 w2) := Lib.hid (Ev.grown (al1 _ _) hg1 (fun k hk => by simp [Value.ownBlock] at hk; omega))
      have HR2 := Lib.hid hr2
      clear hown1 hg1 hr2
      go_meet
      case rel => exact ⟨_, _, rfl, HR2.out, HEV2.out⟩
  case rest =>
  obtain ⟨A, c, rfl, hra, hev⟩ := hcut
  generalize wc = w2 at *
  have HRA2 := Lib.hid hra
  have HE2 := Lib.hid (HE1.out.step hev)
  have HB2 := Lib.hid (HB1.out.ev hev)
  clear hra hev
  obtain ⟨b0, b1, b2⟩ := HB2.out.c
  go_wp2_with fail
  refine (C22.out _ _ _ (HTT.out.ev HE2.out) HRA2.out).mono ?_
  rintro e w3 ⟨rfl, hev⟩
  have HE3 := Lib.hid ((HE2.out.step hev).alloc (rdO vs vf vw))
  have HB3 := Lib.hid ((HB2.out.ev hev).al (rdO vs vf vw))
  have HP3 := Lib.hid (BoxR.new w3 vs vf vw)
  have HR3 := Lib.hid ((HRA2.out.ev hev).ev ((Ev.refl _).alloc (rdO vs vf vw)))
  clear hev b0 b1 b2
  go_upto_region 5 with fail
  generalize (w3.alloc (rdO vs vf vw)) = w4 at *
  generalize w3.heap.size = p at *
  obtain ⟨b0, b1, b2⟩ := HB3.out.c
  go_wp2_with fail
  refine (C23.out _ (HCS.out.ev HE3.out)).mono ?_
  rintro e w5 ⟨rfl, hev⟩
  have HE5 := Lib.hid ((HE3.out.step hev).alloc (rdO vs vf vw))
  have HB5 := Lib.hid ((HB3.out.ev hev).al (rdO vs vf vw))
  have HP5 := Lib.hid ((HP3.out.ev hev).al (rdO vs vf vw))
  have HQ5 := Lib.hid (BoxR.new w5 vs vf vw)
  have HR5 := Lib.hid ((HR3.out.ev hev).ev ((Ev.refl _).alloc (rdO vs vf vw)))
  clear hev b0 b1 b2
  go_upto_region 6 with fail
  generalize (w5.alloc (rdO vs vf vw)) = w6 at *
  generalize w5.heap.size = q at *
  obtain ⟨c0, c1, c2⟩ := HP5.out.c
  obtain ⟨d0, d1, d2⟩ := HQ5.out.c
  have hf := HF.out
  go_upto_region 8 with fail
  clear c0 c1 c2 d0 d1 d2 hf q1 q2
  have HCS6 := Lib.hid (HCS.out.ev HE5.out)
  have hn20 : (cs.length : Int) ≤ 20 := by have := HLEN.out; omega
  go_wp2_with fail
  go_loopw [12] (fun i wr => ∃ k : Nat, k ≤ cs.length ∧ i = .int .i64 k ∧ Ev w6 wr) (fun i _ => cs.length - (intOf i).toNat)
  case atStart => exact ⟨0, by omega, rfl, Ev.refl _⟩
  case round =>
    obtain ⟨k, hk, rfl, hev⟩ := hrel
    have HEV := Lib.hid hev
    clear hev
    by_cases hlt : k < cs.length
    · obtain ⟨b, o, hA, hb, k1, k2⟩ := (HR5.out.ev HEV.out) k hlt
      obtain ⟨b', o', hB, hb', k1', k2'⟩ := (HCS6.out.ev HEV.out) k hlt
      subst hA hB
      obtain ⟨fr, e, hfr⟩ : ∃ fr e, cs.getD k (0, 0) = (fr, e) := ⟨_, _, rfl⟩
      rw [hfr] at k1 k2 k1' k2'
      simp only [] at k1 k2 k1' k2'
      have heq : ∀ W, Sem.run Tryd.prog (Op.equalIn 10000 42 (.agg #[.int .i64 fr, .int .i64 e]) (.agg #[.int .i64 fr, .int .i64 e])) W = .ok true W := fun W => by rw [eq42]; simp
      have hlt' : (k : Int) < (cs.length : Int) := by omega
      have hk0 : 0 ≤ (k : Int) := by omega
      clear hfr hb hb'
      go_wp2_with fail
      go_quiet (fail)
      go_wp2_with fail
      go_roundw
      case rel => exact ⟨k + 1, by omega, by go_num, HEV.out.drewN _⟩
      case measure => simp [intOf]; omega
    · obtain rfl : k = cs.length := by omega
      have HE7 := Lib.hid (HE5.out.step HEV.out)
      have HB7 := Lib.hid (HB5.out.ev HEV.out)
      clear hk
      obtain ⟨b0, b1, b2⟩ := HB7.out.c
      go_wp2_with fail
      refine (C24.out _ (HTT.out.ev HE7.out)).mono ?_
      rintro e w8 ⟨rfl, hev⟩
      have HE8 := Lib.hid (HE7.out.step hev)
      have HB8 := Lib.hid (HB7.out.ev hev)
      clear hev b0 b1 b2
      obtain ⟨b0, b1, b2⟩ := HB8.out.c
      go_wp2_with fail
      refine (C25.out _).mono ?_
      rintro e w9 ⟨rfl, hev⟩
      have HE9 := Lib.hid (HE8.out.step hev)
      have HB9 := Lib.hid (HB8.out.ev hev)
      clear hev b0 b1 b2
      obtain ⟨b0, b1, b2⟩ := HB9.out.c
      go_wp2_with fail
      refine (C26.out _).mono ?_
      rintro e w10 ⟨A10, c10, rfl, hr10, hev⟩
      have HE10 := Lib.hid (HE9.out.step hev)
      have HB10 := Lib.hid (HB9.out.ev hev)
      have HR10 := Lib.hid hr10
      clear hev hr10 b0 b1 b2
      obtain ⟨b0, b1, b2⟩ := HB10.out.c
      go_wp2_with fail
      refine (C27.out _).mono ?_
      rintro e w11 ⟨A11, c11, rfl, hr11, hev⟩
      have HE11 := Lib.hid (HE10.out.step hev)
      have HR11 := Lib.hid hr11
      have HR10' := Lib.hid (HR10.out.ev hev)
      clear hev hr11 b0 b1 b2
      go_wp2_with fail
      refine (sameI A10 A11 c10 c11 L2 _ HR10'.out HR11.out).mono ?_
      rintro e w12 ⟨rfl, hev⟩
      have HE12 := Lib.hid (HE11.out.step hev)
      clear hev
      go_wp2_with fail
      refine (awake_any _ (HTT.out.ev HE12.out)).mono ?_
      rintro e w13 ⟨rfl, hev⟩
      have HE13 := Lib.hid (HE12.out.step hev)
      clear hev
      go_wp2_with fail
      go_ret
      exact ⟨rfl, HE13.out⟩
set_option maxRecDepth 100000 in
theorem runs_big (s f w : Int) (B : Option Addr) (n d : Nat) (W : World) (hT : Tab W) (hn : 20 < n) (hm : (n : Int) ≤ 9223372036854775807) :
    Calls Tryd.prog 4 #[rd s f w, .slice B n d] W fun x w' => x = .returned (.bool true) ∧ Ev W w' := by
  have HTT := Lib.hid hT
  have HE1 : Hid (Ev W (W.alloc (rdO s f w))) := Lib.hid (al1 _ _)
  have d1 : decide ((20 : Int) < (n : Int)) = true := decide_eq_true (by omega)
  have d2 : decide (20 < n) = true := decide_eq_true hn
  clear hT
  go_enter Tryd.func4, Tryd.ntmps4
  go_wp2_with fail
  refine (awake_any _ (HTT.out.ev HE1.out)).mono ?_
  rintro e w13 ⟨rfl, hev⟩
  have HE13 := Lib.hid (HE1.out.step hev)
  clear hev
  go_wp2_with fail
  go_ret
  exact ⟨rfl, HE13.out⟩
theorem runs_all (s f w : Int) (A : Option Addr) (len cap : Nat) (W : World) (hT : Tab W) (hnil : A = none → len = 0 ∧ cap = 0) (hes : len ≤ 4000000000 → ∃ es : List (Int × Int), es.length = len ∧ RdC W A es) (hmax : (len : Int) ≤ 9223372036854775807) :
    Calls Tryd.prog 4 #[rd s f w, .slice A len cap] W fun x w' => x = .returned (.bool true) ∧ Ev W w' := by
  by_cases h : 20 < len
  · exact runs_big s f w A len cap W hT h hmax
  · obtain ⟨es, rfl, hr⟩ := hes (by omega)
    exact runs_law s f w A cap es W hT hr hnil (by omega)
end Go.Proofs.YtfiglmbnjfgdlaaDoor
