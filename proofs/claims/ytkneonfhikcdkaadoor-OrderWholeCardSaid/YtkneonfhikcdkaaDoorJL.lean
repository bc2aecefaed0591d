import Derived.Test.YtkneonfhikcdkaaDoorJF
namespace Go.Proofs.YtkneonfhikcdkaaDoor
open Go.RowKit Go.Deep
def fiL (l : List (Int × Int)) : List Int := if (chkL 0 0 l).1 = 0 then (frL l).map (fun x => (x.1 : Int)) else []
def FrQ (W : World) (L : List Int) (er : Int) (x : Ending) (w' : World) : Prop := ∃ A c, x = .returned (.tuple #[.slice A L.length c, .int .i64 er]) ∧ RdI w' A L ∧ Ev W w'
theorem valid_of {l : List (Int × Int)} (h : (chkL 0 0 l).1 = 0) : chkL 0 0 l = (0, 0) ∧ (∀ j, j < l.length → blkE (l.getD j (0, 0)).1 (l.getD j (0, 0)).2 = 0) ∧ (frL l).length ≤ 256 := by
  have h0 := chkL_err l 0 0 h
  refine ⟨h0, fun j hj => ((join_at l h0 0 (by omega)).2.2 j (by omega) hj).1, ?_⟩
  rcases frL_bound l 0 (okL_of l 0 0 h0) (by omega) with h1 | h1
  · omega
  · subst h1; simp [frL]
theorem frq_of {W w' : World} {v : Value} {l : List (Int × Int)} {x : Ending} {er : Int} (hx : x = .returned (.tuple #[v, .int .i64 er])) (h : OwnF w' W.heap.size v (frL l)) (hN : (frL l).length ≤ 256) (he : Ev W w') : FrQ W ((frL l).map (fun x => (x.1 : Int))) er x w' := by
  have h2 : OwnI w' W.heap.size v ((frL l).map (fun x => (x.1 : Int))) := by
    unfold OwnI IV
    unfold OwnF fcells at h
    rw [List.length_map, List.map_map]
    exact h
  obtain ⟨A, c, rfl, h3⟩ := RdI.of_own h2 (by rw [List.length_map]; omega)
  exact ⟨A, c, hx, h3, he⟩
theorem RdI.nilO (w : World) : RdI w none [] := ⟨by simp, fun j hj => by simp at hj⟩
theorem Frames_any (A : Option Addr) (cap : Nat) (l : List (Int × Int)) (w : World) (hr : RdP w A l) : Calls Tryd.prog 31 #[.slice A l.length cap] w fun e w' => FrQ w (fiL l) (chkL 0 0 l).1 e w' := by
  unfold fiL
  by_cases h : (chkL 0 0 l).1 = 0
  · obtain ⟨h1, h2, h3⟩ := valid_of h
    rw [if_pos h, h]
    exact (Frames_ok A cap l w hr h1 h2 h3).mono fun e w' ⟨v, q1, q2, q3⟩ => frq_of q1 q2 h3 q3
  · rw [if_neg h]
    exact (Frames_bad A cap l w hr h).mono fun e w' ⟨q1, q2⟩ => ⟨none, 0, q1, RdI.nilO _, q2⟩
theorem rFrames_any (A : Option Addr) (cap : Nat) (l : List (Int × Int)) (w : World) (hr : RdP w A l) (hl : l.length ≤ 1000) : Calls Tryd.prog 32 #[.slice A l.length cap] w fun e w' => FrQ w (fiL l) (chkL 0 0 l).1 e w' := by
  unfold fiL
  by_cases h : (chkL 0 0 l).1 = 0
  · obtain ⟨h1, h2, h3⟩ := valid_of h
    rw [if_pos h, h]
    exact (rFrames_ok A cap l w hr h1 h2 h3 hl).mono fun e w' ⟨v, q1, q2, q3⟩ => frq_of q1 q2 h3 q3
  · rw [if_neg h]
    exact (rFrames_bad A cap l w hr h).mono fun e w' ⟨q1, q2⟩ => ⟨none, 0, q1, RdI.nilO _, q2⟩
set_option maxRecDepth 100000 in
set_option maxHeartbeats 16000000 in
theorem lists_law (B : Option Addr) (d : Nat) (l : List (Int × Int)) (w : World) (hr : RdP w B l) (hn : B = none → l.length = 0 ∧ d = 0) (hl : l.length ≤ 60) (hT : Tab w) (h2 : 2 ≤ w.heap.size) :
    Calls Tryd.prog 6 #[.slice B l.length d] w fun e w' => e = .returned (.bool true) ∧ Ev w w' := by
  have HTT : Hid (∀ W, Ev w W → Tab W ∧ 2 ≤ W.heap.size) := Lib.hid fun W e => ⟨hT.ev h2 e, Nat.le_trans h2 e.sz⟩
  have HR := Lib.hid hr
  have HN := Lib.hid hn
  have HL := Lib.hid hl
  have C27 := Lib.hid fun A c W (h : RdP W A l) => checkList_any A c l W h
  have C28 := Lib.hid fun A c W (h : RdP W A l) => rcheckList_any A c l W h
  have C29 := Lib.hid fun A c W (h : RdP W A l) => join_gen A c l W h (by omega)
  have C30 := Lib.hid fun A c W (h : RdP W A l) => rjoin_gen A c l W h (by omega)
  have C31 := Lib.hid fun A c W (h : RdP W A l) => Frames_any A c l W h
  have C32 := Lib.hid fun A c W (h : RdP W A l) => rFrames_any A c l W h (by omega)
  unfold JnQ at C29 C30
  unfold FrQ at C31 C32
  have hq : ∀ x : Int, (x != x) = false := fun x => by simp
  have q1 := hq (chkL 0 0 l).1
  have q2 := hq (chkL 0 0 l).2
  have q3 : ((chkL 0 0 l).1 == (chkL 0 0 l).1) = true := by simp
  clear hq hr hn hl hT h2
  generalize (chkL 0 0 l).1 = er at *
  generalize (chkL 0 0 l).2 = ix at *
  generalize jnL l = J at *
  generalize fiL l = F at *
  have d1 : decide ((60 : Int) < (l.length : Int)) = false := decide_eq_false (by have := HL.out; omega)
  have d2 : decide (60 < l.length) = false := decide_eq_false (by have := HL.out; omega)
  go_enter Tryd.func6, Tryd.ntmps6
  go_upto_region 3 with fail
  clear d1 d2
  go_cut [3] from 18 (fun s3 wd => ∃ A c, s3 = .slice A l.length c ∧ RdP wd A l ∧ Ev w wd)
  case first =>
    cases B with
    | none =>
      obtain ⟨h1, rfl⟩ := HN.out rfl
      obtain rfl : l = [] := List.eq_nil_of_length_eq_zero h1
      clear h1
      go_wp2_with fail
      go_meet
      case rel => exact ⟨_, _, rfl, RdP.nil _ _, al1 _ _⟩
    | some ad =>
      obtain ⟨i0, hi0, hz0, hz1, hz2⟩ := info_parts info28
      have HO : Hid ((w.alloc (.cells #[] 28)).ownsRow w.heap.size 28 2 (.slice (some ⟨w.heap.size, 0, none⟩) 0 0) 0 []) := Lib.hid
        ⟨rfl, .inr ⟨w.heap.size, 0, #[], rfl, Nat.le_refl _, heap_alloc_new w _, Nat.le_refl _, Nat.zero_le _, rfl, rfl⟩⟩
      have HNW := Lib.hid (newsP (HR.out.ev ((Ev.refl w).alloc (.cells #[] 28))))
      have H1 := Lib.hid (flatS_one l)
      have HL1 := Lib.hid (show 0 + l.length ≤ maxLen by have := HL.out; simp [maxLen]; omega)
      have HL2 := Lib.hid (show (0 + l.length) * 16 ≤ 140737488355328 by have := HL.out; omega)
      have HC1 := Lib.hid (flatS_len l)
      have HC5 := Lib.hid (show w.heap.size ≤ (w.alloc (.cells #[] 28)).heap.size from by simp)
      go_wp2_with (at_builtin; go_loud (refine wpList_append_own _ rfl (.tmp 18) (.tmp 19) 33 rfl w.heap.size 28 i0 (bk 0 0) 2 16 Tryd.underlying33 hi0 hz0 hz1 hz2 rfl (by decide) (.slice (some ⟨w.heap.size, 0, none⟩) 0 0) 0 [] rfl HO.out ad l.length d (flatS l) rfl HC1.out HNW.out H1.out HL1.out HL2.out HC5.out ?_); intro v1 w2 hown1 hg1 _)
      rw [Nat.zero_add, List.nil_append] at hown1
      obtain ⟨A2, c2, rfl, hr2, -⟩ := RdP.of_own hown1 (by have := HL.out; omega)
      have HEV2 : Hid (Ev w w2) := Lib.hid (Below.grown (al1 w (.cells #[] 28)) hg1 HC5.out (fun k hk => by simp [Value.ownBlock] at hk; omega))
      have HR2 := Lib.hid hr2
      clear hown1 hg1 hr2
      go_meet
      case rel => exact ⟨_, _, rfl, HR2.out, HEV2.out⟩
  case rest =>
  obtain ⟨A, c, rfl, hra, hev⟩ := hcut
  generalize wc = w2 at *
  have HA2 := Lib.hid hra
  have HE2 := Lib.hid hev
  clear hra hev
  go_wp2_with fail
  refine (C27.out _ _ _ HA2.out).mono ?_
  rintro e w3 ⟨rfl, hev⟩
  have HE3 := Lib.hid (HE2.out.step hev)
  have HA3 := Lib.hid (HA2.out.ev hev)
  clear hev
  go_wp2_with fail
  refine (C28.out _ _ _ (HR.out.ev HE3.out)).mono ?_
  rintro e w4 ⟨rfl, hev⟩
  have HE4 := Lib.hid (HE3.out.step hev)
  have HA4 := Lib.hid (HA3.out.ev hev)
  clear hev
  go_wp2_with fail
  refine (C29.out _ _ _ HA4.out).mono ?_
  rintro e w5 ⟨A5, c5, rfl, hr5, -, hev⟩
  have HE5 := Lib.hid (HE4.out.step hev)
  have HA5 := Lib.hid (HA4.out.ev hev)
  have HR5 := Lib.hid hr5
  clear hev hr5
  go_wp2_with fail
  refine (C30.out _ _ _ (HR.out.ev HE5.out)).mono ?_
  rintro e w6 ⟨A6, c6, rfl, hr6, -, hev⟩
  have HE6 := Lib.hid (HE5.out.step hev)
  have HA6 := Lib.hid (HA5.out.ev hev)
  have HR56 := Lib.hid (HR5.out.ev hev)
  have HR6 := Lib.hid hr6
  clear hev hr6
  go_wp2_with fail
  refine (sameB A5 A6 c5 c6 J _ HR56.out HR6.out).mono ?_
  rintro e w7 ⟨rfl, hev⟩
  have HE7 := Lib.hid (HE6.out.step hev)
  have HA7 := Lib.hid (HA6.out.ev hev)
  clear hev
  go_wp2_with fail
  refine (C31.out _ _ _ HA7.out).mono ?_
  rintro e w8 ⟨A8, c8, rfl, hr8, hev⟩
  have HE8 := Lib.hid (HE7.out.step hev)
  have HA8 := Lib.hid (HA7.out.ev hev)
  have HR8 := Lib.hid hr8
  clear hev hr8
  go_wp2_with fail
  refine (C32.out _ _ _ (HR.out.ev HE8.out)).mono ?_
  rintro e w9 ⟨A9, c9, rfl, hr9, hev⟩
  have HE9 := Lib.hid (HE8.out.step hev)
  have HA9 := Lib.hid (HA8.out.ev hev)
  have HR89 := Lib.hid (HR8.out.ev hev)
  have HR9 := Lib.hid hr9
  clear hev hr9
  go_wp2_with fail
  refine (sameI A8 A9 c8 c9 F _ HR89.out HR9.out).mono ?_
  rintro e w10 ⟨rfl, hev⟩
  have HE10 := Lib.hid (HE9.out.step hev)
  have HA10 := Lib.hid (HA9.out.ev hev)
  clear hev
  go_wp2_with fail
  refine (sameB A B c d l _ HA10.out (HR.out.ev HE10.out)).mono ?_
  rintro e w11 ⟨rfl, hev⟩
  have HE11 := Lib.hid (HE10.out.step hev)
  clear hev
  go_wp2_with fail
  refine (awake_any _ (HTT.out _ HE11.out).1 (HTT.out _ HE11.out).2).mono ?_
  rintro e w12 ⟨rfl, hev⟩
  have HE12 := Lib.hid (HE11.out.step hev)
  clear hev
  go_wp2_with fail
  go_ret
  exact ⟨rfl, HE12.out⟩
set_option maxRecDepth 100000 in
theorem lists_big (B : Option Addr) (n d : Nat) (w : World) (hn : 60 < n) (hm : (n : Int) ≤ 9223372036854775807) (hT : Tab w) (h2 : 2 ≤ w.heap.size) :
    Calls Tryd.prog 6 #[.slice B n d] w fun e w' => e = .returned (.bool true) ∧ Ev w w' := by
  have HA := Lib.hid (awake_any w hT h2)
  have d1 : decide ((60 : Int) < (n : Int)) = true := decide_eq_true (by omega)
  have d2 : decide (60 < n) = true := decide_eq_true hn
  clear hT h2
  go_enter Tryd.func6, Tryd.ntmps6
  go_wp2_with fail
  refine HA.out.mono ?_
  rintro e w12 ⟨rfl, hev⟩
  have HE12 := Lib.hid hev
  clear hev
  go_wp2_with fail
  go_ret
  exact ⟨rfl, HE12.out⟩
theorem lists_all (A : Option Addr) (n d : Nat) (w : World) (hnil : A = none → n = 0 ∧ d = 0) (hes : n ≤ 4000000000 → ∃ es : List (Int × Int), es.length = n ∧ RdP w A es) (hmax : (n : Int) ≤ 9223372036854775807) (hT : Tab w) (h2 : 2 ≤ w.heap.size) :
    Calls Tryd.prog 6 #[.slice A n d] w fun e w' => e = .returned (.bool true) ∧ Ev w w' := by
  by_cases h : 60 < n
  · exact lists_big A n d w h hmax hT h2
  · obtain ⟨es, rfl, hr⟩ := hes (by omega)
    exact lists_law A d es w hr hnil (by omega) hT h2
end Go.Proofs.YtkneonfhikcdkaaDoor
