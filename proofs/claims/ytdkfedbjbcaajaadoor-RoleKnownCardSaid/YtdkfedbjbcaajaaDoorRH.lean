import Derived.Test.YtdkfedbjbcaajaaDoorRD
namespace Go.Proofs.YtdkfedbjbcaajaaDoor
open Go.RowKit
theorem tmod_lt (n m : Int) (h : 1 ≤ m) : -m < n.tmod m ∧ n.tmod m < m := by
  have h1 := Int.emod_nonneg n (show m ≠ 0 by omega)
  have h2 := Int.emod_lt_of_pos n (show 0 < m by omega)
  rw [Int.tmod_eq_emod]
  split <;> omega
theorem tmod_neg (n m : Int) (h : 1 ≤ m) : n.tmod m < 0 → n.tmod m + m = n % m := by
  have h1 := Int.emod_nonneg n (show m ≠ 0 by omega)
  have h2 := Int.emod_lt_of_pos n (show 0 < m by omega)
  rw [Int.tmod_eq_emod]
  split <;> omega
theorem tmod_pos (n m : Int) (h : 1 ≤ m) : 0 ≤ n.tmod m → n.tmod m = n % m := by
  have h2 := Int.emod_lt_of_pos n (show 0 < m by omega)
  rw [Int.tmod_eq_emod]
  split <;> omega
theorem mod_any (n m : Int) (w : World) (h1 : 1 ≤ m) (h2 : m ≤ 1099511627776) : Calls Tryd.prog 36 #[.int .i64 n, .int .i64 m] w fun e w' => e = .returned (.int .i64 (n % m)) ∧ w = w' := by
  obtain ⟨t1, t2⟩ := tmod_lt n m h1
  have t3 := Lib.hid (tmod_neg n m h1)
  have t4 := Lib.hid (tmod_pos n m h1)
  have t5 : IntKind.i64.wrap (n.tmod m) = n.tmod m := IntWalk.i64_in _ (by omega)
  have hm : (m == 0) = false := by simp; omega
  go_enter Tryd.func36, Tryd.ntmps36
  go_wp2
  · go_ret
    exact ⟨ret_i64 (t3.out (by omega)), rfl⟩
  · go_ret
    exact ⟨ret_i64 (t4.out (by omega)), rfl⟩
def mdT (l : List Int) (n : Nat) : List Int := (List.range n).map (fun k => l.getD k 0 % 8)
def mdL (l : List Int) : List Int := mdT l (min l.length 30)
theorem mdT_len (l : List Int) (n : Nat) : (mdT l n).length = n := by unfold mdT; simp
theorem mdT_IV (l : List Int) (n : Nat) : IV (mdT l (n + 1)) = IV (mdT l n) ++ [.int .i64 (l.getD n 0 % 8)] := by unfold mdT; rw [List.range_succ, List.map_append]; unfold IV; simp
theorem mdL_len (l : List Int) : (mdL l).length ≤ 30 := by unfold mdL; rw [mdT_len]; omega
theorem mdL_ok (l : List Int) (k : Nat) (hk : k < (mdL l).length) : 0 ≤ (mdL l).getD k 0 ∧ (mdL l).getD k 0 < 8 := by
  unfold mdL at *
  rw [mdT_len] at hk
  unfold mdT
  simp [hk]
  omega
set_option maxRecDepth 100000 in
set_option maxHeartbeats 4000000 in
theorem made_any (A : Option Addr) (c : Nat) (l : List Int) (w : World) (hr : RdI w A l) :
    Calls Tryd.prog 35 #[.slice A l.length c] w fun e w' => ∃ v, e = .returned v ∧ OwnI w' w.heap.size v (mdL l) ∧ Ev w w' := by
  obtain ⟨i0, hi0, hz0, hz1, hz2⟩ := info_parts info3
  have HR := Lib.hid hr
  have hlen := hr.1
  clear hr
  go_enter Tryd.func35, Tryd.ntmps35
  go_upto_region 3 with fail
  go_loopg [3, 4] (min l.length 30) (fun gh v iv wr => ∃ i : Nat, gh + i = min l.length 30 ∧ iv = .int .i64 i ∧ OwnI wr w.heap.size v (mdT l i) ∧ Ev w wr)
  case atStart => exact ⟨0, rfl, rfl, nil_own _ _, Ev.refl _⟩
  case round =>
    obtain ⟨i, hg, rfl, hown, hev⟩ := hrel
    have HG := Lib.hid hg
    have HO := Lib.hid hown
    have HV := Lib.hid hev
    clear hown hev
    by_cases h1 : i < l.length
    · have h1' : (i : Int) < (l.length : Int) := by omega
      by_cases h2 : i < 30
      · have h2' : (i : Int) < 30 := by omega
        have hi0' : (0 : Int) ≤ (i : Int) := by omega
        have HL : Hid (0 < gk) := Lib.hid (by omega)
        obtain ⟨b, o, rfl, hb, c1⟩ := (HR.out.ev HV.out).2 i h1
        have CM := Lib.hid fun W => mod_any (l.getD i 0) 8 W (by omega) (by omega)
        have HAC := Lib.hid (mdT_IV l i)
        have HAL := Lib.hid (mdT_len l (i + 1))
        have HIV : Hid (wr.ownsRow w.heap.size 3 1 u3 i (IV (mdT l i))) := Lib.hid (by have h := HO.out; unfold OwnI at h; rwa [mdT_len] at h)
        generalize l.getD i 0 = x at *
        have H1 := Lib.hid (one_cell wr (.int .i64 (x % 8)) 3)
        have H5 : Hid (w.heap.size ≤ (wr.alloc (.cells #[.int .i64 (x % 8)] 3)).heap.size) := Lib.hid (by have := HV.out.sz; simp; omega)
        clear hg h1 h2
        go_wp2_with fail
        refine (CM.out _).mono ?_
        rintro e w5 ⟨rfl, rfl⟩
        clear CM
        generalize x % 8 = y at *
        go_wp2_with (at_builtin; go_loud (refine wpList_append_own _ rfl (.tmp 15) (.tmp 21) 25 rfl w.heap.size 3 i0 (.int .i64 0) 1 8 Tryd.underlying25 hi0 hz0 hz1 hz2 rfl (by decide) u3 i (IV (mdT l i)) rfl (HIV.out.alloc _) ⟨wr.heap.size, 0, none⟩ 1 1 [.int .i64 y] rfl rfl H1.out (by simp [Value.oneCell']) (by unfold maxLen; omega) (by omega) H5.out ?_); intro v1 w4 hown4 hg4 _)
        have HE4 : Hid (Ev w w4) := Lib.hid (Below.grown (HV.out.alloc _) hg4 H5.out (fun g hg => row_ge HIV.out g hg))
        have HO4 : Hid (OwnI w4 w.heap.size v1 (mdT l (i + 1))) := Lib.hid (by unfold OwnI; rw [HAL.out, HAC.out]; exact hown4)
        clear hown4 hg4
        go_roundg (gk - 1)
        case rel => exact ⟨i + 1, by have := HG.out; have := HL.out; omega, by go_num, HO4.out, HE4.out⟩
        case measure => have := HL.out; omega
      · have h2' : (30 : Int) ≤ (i : Int) := by omega
        have HQ : Hid (OwnI wr w.heap.size u3 (mdL l)) := Lib.hid (by unfold mdL; rw [show min l.length 30 = i by omega]; exact HO.out)
        clear hg h1 h2
        go_wp2_with fail
        go_ret
        exact ⟨_, rfl, HQ.out, HV.out⟩
    · have h1' : (l.length : Int) ≤ (i : Int) := by omega
      have HQ : Hid (OwnI wr w.heap.size u3 (mdL l)) := Lib.hid (by unfold mdL; rw [show min l.length 30 = i by omega]; exact HO.out)
      clear hg h1
      go_wp2_with fail
      go_ret
      exact ⟨_, rfl, HQ.out, HV.out⟩
end Go.Proofs.YtdkfedbjbcaajaaDoor
