import Derived.Test.YtdkfedbjbcaajaaDoorRP
import Derived.Test.YtdkfedbjbcaajaaDoorRE
namespace Go.Proofs.YtdkfedbjbcaajaaDoor
open Go.RowKit
theorem rd_new1 (W : World) (x : Int) : RdI (W.alloc (.cells #[.int .i64 x] 3)) (some ⟨W.heap.size, 0, none⟩) [x] := by
  refine ⟨by simp, fun j hj => ⟨_, _, rfl, by simp, ?_⟩⟩
  obtain rfl : j = 0 := by simp at hj; omega
  simp
theorem good_one {a : Int} (h : isR a = true) : goodL [a] [a].length := fun j hj => by
  obtain rfl : j = 0 := by simp at hj; omega
  simpa using h
theorem isR_of (n : Nat) (h : n < 8) : isR (n : Int) = true := by unfold isR; exact decide_eq_true (by omega)
set_option maxRecDepth 100000 in
set_option maxHeartbeats 16000000 in
theorem ways_law (x y : Int) (w : World) (hT : Tab w) : Calls Tryd.prog 10 #[.int .i64 x, .int .i64 y] w fun e w' => e = .returned (.bool true) ∧ Ev w w' := by
  have M1 := Lib.hid fun W => mod_any x 8 W (by omega) (by omega)
  have M2 := Lib.hid fun W => mod_any y 8 W (by omega) (by omega)
  obtain ⟨f, hf, hfe⟩ : ∃ f : Nat, f < 8 ∧ x % 8 = (f : Int) := ⟨(x % 8).toNat, by omega, by omega⟩
  obtain ⟨t, ht, hte⟩ : ∃ t : Nat, t < 8 ∧ y % 8 = (t : Int) := ⟨(y % 8).toNat, by omega, by omega⟩
  rw [hfe] at M1
  rw [hte] at M2
  clear hfe hte
  have HTT := Lib.hid hT
  have CP := Path_any f t w hT
  unfold pathE paths okP okM at CP
  rw [isR_of f hf, isR_of t ht] at CP
  simp only [Int.toNat_natCast, Bool.true_and, Bool.and_self] at CP
  obtain ⟨hno, hyes⟩ := waysF ⟨f, hf⟩ ⟨t, ht⟩
  simp only [] at hno hyes
  by_cases hr : rch f t = true
  · obtain ⟨g1, g2, g3, g4, g5⟩ := hyes hr
    rw [if_pos hr, if_pos hr] at CP
    have CP2 := Lib.hid CP
    have hp := (pathF ⟨f, hf⟩ ⟨t, ht⟩ hr).1
    have hl4 : (pathL f t).length ≤ 4 := by unfold pathL; rw [List.length_reverse, acc_len]; exact hp
    have HG4 : Hid (∀ i, i < (pathL f t).length → isR (((f : Int) :: pathL f t).getD i 0) = true ∧ isR ((pathL f t).getD i 0) = true ∧ mb (((f : Int) :: pathL f t).getD i 0).toNat ((pathL f t).getD i 0).toNat = true) := Lib.hid fun i hi => g4 ⟨i, by omega⟩ hi
    have HG5 := Lib.hid g5
    have HF8 := Lib.hid hf
    have hqs : ((f = 1 ∧ t = 1) ∨ (f = 0 ∧ t = 0)) ∨ (f = 0 ∧ t ≠ 0) ∨ (f ≠ 1 ∧ f ≠ 0 ∧ t = 0) ∨ (f ≠ 1 ∧ f ≠ 0 ∧ t ≠ 0) := by omega
    have hb1 : ∃ b, ((f : Int) == 1) = b := ⟨_, rfl⟩
    clear g4 g5 hp hyes hno hr CP hT
    have CP := CP2
    clear CP2
    generalize pathL f t = l at *
    obtain ⟨b1, q1⟩ : ∃ b, ((f : Int) == 1) = b := ⟨_, rfl⟩
    obtain ⟨b2, q2⟩ : ∃ b, ((f : Int) == 0) = b := ⟨_, rfl⟩
    obtain ⟨b3, q3⟩ : ∃ b, ((t : Int) == 0) = b := ⟨_, rfl⟩
    obtain ⟨b4, q4⟩ : ∃ b, ((t : Int) != (f : Int)) = b := ⟨_, rfl⟩
    obtain ⟨b5, q5⟩ : ∃ b, ((f : Int) != (t : Int)) = b := ⟨_, rfl⟩
    obtain ⟨b6, q6⟩ : ∃ b, decide ((3 : Int) < (l.length : Int)) = b := ⟨_, rfl⟩
    obtain ⟨b7, q7⟩ : ∃ b, ((l.length : Int) != 1) = b := ⟨_, rfl⟩
    have hk1 : ¬ (b1 = true ∧ b4 = true) := by subst q1 q4; simp; omega
    have hk2 : ¬ (b2 = true ∧ b6 = true) := by subst q2 q6; simp; omega
    have hk3 : ¬ (b3 = true ∧ b5 = true ∧ b7 = true) := by subst q3 q5 q7; simp; omega
    clear hqs hb1 g1 g2 g3 hf ht
    go_enter Tryd.func10, Tryd.ntmps10
    go_wp2_with fail
    refine (M1.out _).mono ?_
    rintro e w1 ⟨rfl, rfl⟩
    go_wp2_with fail
    refine (M2.out _).mono ?_
    rintro e w1 ⟨rfl, rfl⟩
    go_wp2_with fail
    refine CP.out.mono ?_
    rintro e w1 ⟨v, rfl, hown, hev⟩
    obtain ⟨A, c, rfl, hrd⟩ := RdI.of_own hown (by omega)
    have HRD := Lib.hid hrd
    have HE1 := Lib.hid hev
    clear hown hev hrd
    go_upto_region 5 with fail
    have HB0 := Lib.hid (rd_new1 w1 (f : Int))
    have HE2 : Hid (Ev w1 (w1.alloc (.cells #[.int .i64 (f : Int)] 3))) := Lib.hid ((Ev.refl w1).alloc _)
    rcases (show (b1 = false) ∨ (b1 = true ∧ b4 = false) by cases b1 <;> simp_all) with rfl | ⟨rfl, rfl⟩ <;>
    rcases (show (b2 = false) ∨ (b2 = true ∧ b6 = false) by cases b2 <;> simp_all) with rfl | ⟨rfl, rfl⟩ <;>
    rcases (show (b3 = false) ∨ (b3 = true ∧ b5 = false) ∨ (b3 = true ∧ b5 = true ∧ b7 = false) by cases b3 <;> cases b5 <;> simp_all) with rfl | ⟨rfl, rfl⟩ | ⟨rfl, rfl, rfl⟩ <;>
    (clear hk1 hk2 hk3
     go_upto_region 9 with fail
     clear q1 q2 q3 q4 q5 q6 q7
     generalize (w1.alloc (.cells #[.int .i64 (f : Int)] 3)) = W2 at *
     go_loopg [9, 10] l.length (fun gh v iv wr => ∃ i : Nat, gh + i = l.length ∧ iv = .int .i64 i ∧ (∃ B d, v = .slice B 1 d ∧ RdI wr B [((f : Int) :: l).getD i 0]) ∧ Ev w1 wr)
     case atStart => exact ⟨0, rfl, rfl, ⟨_, _, rfl, HB0.out⟩, HE2.out⟩
     case round =>
       obtain ⟨i, hg, rfl, ⟨B, d, rfl, hrb⟩, hev⟩ := hrel
       have HG := Lib.hid hg
       have HRB := Lib.hid hrb
       have HV := Lib.hid hev
       clear hrb hev
       by_cases h1 : i < l.length
       · have h1' : (i : Int) < (l.length : Int) := by omega
         have hi0' : (0 : Int) ≤ (i : Int) := by omega
         have hi1 : (i : Int) < 4 := by omega
         have H1 := Lib.hid h1
         obtain ⟨ga, gb, gm⟩ := HG4.out i h1
         have hnx : ((f : Int) :: l).getD (i + 1) 0 = l.getD i 0 := by simp
         have HNX := Lib.hid hnx
         obtain ⟨bb, oo, rfl, hbb, cb⟩ := (HRD.out.ev HV.out).2 i h1
         obtain ⟨B1, B2, eB, -, -⟩ := HRB.out.2 0 (by simp)
         have CC := change_ok B d [((f : Int) :: l).getD i 0] 0 (l.getD i 0) wr HRB.out (by simp) (fun h => by rw [h] at eB; cases eB) (good_one ga) (HTT.out.ev (HE1.out.step HV.out))
         rw [run_one _ _ gb gm] at CC
         have CC := Lib.hid CC
         generalize l.getD i 0 = nx at *
         generalize ((f : Int) :: l).getD i 0 = cu at *
         clear hg h1 ga gb gm hnx eB
         go_wp2_with fail
         refine CC.out.mono ?_
         rintro e w5 ⟨v, rfl, hown, hev⟩
         obtain ⟨B5, d5, rfl, hr5⟩ := RdI.of_own hown (by simp)
         have HR5 := Lib.hid hr5
         have HV5 := Lib.hid (HV.out.step hev)
         clear hown hr5 hev
         go_wp2_with fail
         go_roundg (gk - 1)
         case rel => exact ⟨i + 1, by have := HG.out; have := H1.out; omega, by go_num, ⟨_, _, rfl, by rw [HNX.out]; exact HR5.out⟩, HV5.out⟩
         case measure => have := HG.out; have := H1.out; omega
       · obtain rfl : i = l.length := by omega
         obtain ⟨bb, oo, rfl, hbb, cb⟩ := HRB.out.2 0 (by simp)
         have hcb : wr.cell? ⟨bb, oo, none⟩ = some (.int .i64 (t : Int)) := by
           rw [Nat.add_zero] at cb
           rw [cb]
           show some (Value.int .i64 ((([((f : Int) :: l).getD l.length 0] : List Int)).getD 0 0)) = _
           rw [HG5.out]; rfl
         clear cb hg h1
         go_wp2_with fail
         refine (awake_any wr (HTT.out.ev (HE1.out.step HV.out))).mono ?_
         rintro e w5 ⟨rfl, hev⟩
         have HE5 := Lib.hid ((HE1.out.step HV.out).step hev)
         clear hev
         go_wp2_with fail
         go_ret
         exact ⟨rfl, HE5.out⟩)
  · have hr : rch f t = false := by simpa using hr
    obtain ⟨rfl, hne⟩ := hno hr
    rw [if_neg (by simp [hr]), if_neg (by simp [hr])] at CP
    have HCP := Lib.hid CP
    have hq : ((t : Int) != 1) = true := by simp; omega
    clear CP hyes hno hr hne hT
    go_enter Tryd.func10, Tryd.ntmps10
    go_wp2_with fail
    refine (M1.out _).mono ?_
    rintro e w1 ⟨rfl, rfl⟩
    go_wp2_with fail
    refine (M2.out _).mono ?_
    rintro e w1 ⟨rfl, rfl⟩
    go_wp2_with fail
    refine HCP.out.mono ?_
    rintro e w1 ⟨v, rfl, hown, hev⟩
    have HE1 := Lib.hid hev
    clear hown hev
    go_wp2_with fail
    refine (awake_any w1 (HTT.out.ev HE1.out)).mono ?_
    rintro e w5 ⟨rfl, hev⟩
    have HE5 := Lib.hid (HE1.out.step hev)
    clear hev
    go_wp2_with fail
    go_ret
    exact ⟨rfl, HE5.out⟩
end Go.Proofs.YtdkfedbjbcaajaaDoor
