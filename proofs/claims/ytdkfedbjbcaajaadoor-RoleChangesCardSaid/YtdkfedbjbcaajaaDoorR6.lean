import Derived.Test.YtdkfedbjbcaajaaDoorR4
import Derived.Sort.CutIn
namespace Go.Proofs.YtdkfedbjbcaajaaDoor
open Go.RowKit
def cur (f t : Nat) : Nat → Nat
  | 0 => t
  | n + 1 => (fin f).bf (cur f t n)
def pl (f t : Nat) : Nat := ((List.range 9).find? (fun n => cur f t n == f)).getD 9
def acc (f t n : Nat) : List Int := (List.range n).map (fun k => (cur f t k : Int))
def rch (f t : Nat) : Bool := (fin f).rc t
def pathL (f t : Nat) : List Int := (acc f t (pl f t)).reverse
theorem pathF : ∀ f t : Fin 8, rch f.1 t.1 = true → pl f.1 t.1 ≤ 4 ∧ cur f.1 t.1 (pl f.1 t.1) = f.1 ∧ ∀ n : Fin 5, n.1 < pl f.1 t.1 → cur f.1 t.1 n.1 < 8 ∧ cur f.1 t.1 n.1 ≠ f.1 := by decide +kernel
theorem acc_len (f t n : Nat) : (acc f t n).length = n := by unfold acc; simp
theorem acc_succ (f t n : Nat) : acc f t (n + 1) = acc f t n ++ [(cur f t n : Int)] := by unfold acc; rw [List.range_succ, List.map_append]; rfl
theorem acc_IV (f t n : Nat) : IV (acc f t (n + 1)) = IV (acc f t n) ++ [.int .i64 (cur f t n : Int)] := by rw [acc_succ]; unfold IV; simp
theorem nil_own (w : World) (base : Nat) : OwnI w base (.slice none 0 0) [] := ⟨rfl, .inl ⟨rfl, rfl⟩⟩
theorem box_new (w : World) (s : St) : Bx ((w.alloc (.cells #[.int .i64 (s.bf 0 : Int), .int .i64 (s.bf 1 : Int), .int .i64 (s.bf 2 : Int), .int .i64 (s.bf 3 : Int), .int .i64 (s.bf 4 : Int), .int .i64 (s.bf 5 : Int), .int .i64 (s.bf 6 : Int), .int .i64 (s.bf 7 : Int)] 57)).alloc (.cells #[.bool (s.rc 0), .bool (s.rc 1), .bool (s.rc 2), .bool (s.rc 3), .bool (s.rc 4), .bool (s.rc 5), .bool (s.rc 6), .bool (s.rc 7)] 58)) w.heap.size (w.heap.size + 1) s := by
  refine ⟨⟨_, (heap_alloc_old _ _ (by simp)).trans (heap_alloc_new w _), rfl, fun k hk => ?_⟩, ⟨_, heap_alloc2_new w _ _, rfl, fun k hk => ?_⟩⟩
  all_goals (rcases (show k = 0 ∨ k = 1 ∨ k = 2 ∨ k = 3 ∨ k = 4 ∨ k = 5 ∨ k = 6 ∨ k = 7 by omega) with rfl | rfl | rfl | rfl | rfl | rfl | rfl | rfl <;> rfl)
set_option maxRecDepth 100000 in
set_option maxHeartbeats 4000000 in
theorem path_ok (f t : Nat) (w : World) (hf : f < 8) (ht : t < 8) (hT : Tab w) (hr : rch f t = true) :
    Calls Tryd.prog 14 #[.int .i64 (f : Int), .int .i64 (t : Int)] w fun e w' => ∃ v, e = .returned (.tuple #[v, .int .i64 0]) ∧ OwnI w' w.heap.size v (pathL f t) ∧ Ev w w' := by
  obtain ⟨i0, hi0, hz0, hz1, hz2⟩ := info_parts info3
  obtain ⟨hp1, hp2, hp3⟩ := pathF ⟨f, hf⟩ ⟨t, ht⟩ hr
  simp only [] at hp1 hp2 hp3
  have HP1 := Lib.hid hp1
  have HP2 := Lib.hid hp2
  have HP3 : Hid (∀ n, n < pl f t → cur f t n < 8 ∧ cur f t n ≠ f) := Lib.hid fun n hn => hp3 ⟨n, by omega⟩ hn
  have C1 := Lib.hid (fun W => isRole_any (f : Int) W)
  have C2 := Lib.hid (fun W => isRole_any (t : Int) W)
  have e1 : isR (f : Int) = true := by unfold isR; simp; omega
  have e2 : isR (t : Int) = true := by unfold isR; simp; omega
  rw [e1] at C1
  rw [e2] at C2
  have CS := Lib.hid (search_any f w hf hT)
  have HRC : Hid ((fin f).rc t = true) := Lib.hid hr
  have ht0 : (0 : Int) ≤ (t : Int) := by omega
  have ht8 : (t : Int) < 8 := by omega
  clear e1 e2 hr hp1 hp2 hp3
  go_enter Tryd.func14, Tryd.ntmps14
  go_wp2_with fail
  refine (C1.out _).mono ?_
  rintro e w1 ⟨rfl, rfl⟩
  go_wp2_with fail
  refine (C2.out _).mono ?_
  rintro e w1 ⟨rfl, rfl⟩
  go_wp2_with fail
  refine CS.out.mono ?_
  rintro e w1 ⟨rfl, hev1⟩
  have HE1 := Lib.hid hev1
  clear hev1
  go_upto_region 4 with fail
  have HB := Lib.hid (box_new w1 (fin f))
  have HE2 : Hid (Ev w ((w1.alloc (.cells #[.int .i64 ((fin f).bf 0 : Int), .int .i64 ((fin f).bf 1 : Int), .int .i64 ((fin f).bf 2 : Int), .int .i64 ((fin f).bf 3 : Int), .int .i64 ((fin f).bf 4 : Int), .int .i64 ((fin f).bf 5 : Int), .int .i64 ((fin f).bf 6 : Int), .int .i64 ((fin f).bf 7 : Int)] 57)).alloc (.cells #[.bool ((fin f).rc 0), .bool ((fin f).rc 1), .bool ((fin f).rc 2), .bool ((fin f).rc 3), .bool ((fin f).rc 4), .bool ((fin f).rc 5), .bool ((fin f).rc 6), .bool ((fin f).rc 7)] 58))) := Lib.hid ((HE1.out.alloc _).alloc _)
  have HS2 : Hid (w1.heap.size + 2 ≤ ((w1.alloc (.cells #[.int .i64 ((fin f).bf 0 : Int), .int .i64 ((fin f).bf 1 : Int), .int .i64 ((fin f).bf 2 : Int), .int .i64 ((fin f).bf 3 : Int), .int .i64 ((fin f).bf 4 : Int), .int .i64 ((fin f).bf 5 : Int), .int .i64 ((fin f).bf 6 : Int), .int .i64 ((fin f).bf 7 : Int)] 57)).alloc (.cells #[.bool ((fin f).rc 0), .bool ((fin f).rc 1), .bool ((fin f).rc 2), .bool ((fin f).rc 3), .bool ((fin f).rc 4), .bool ((fin f).rc 5), .bool ((fin f).rc 6), .bool ((fin f).rc 7)] 58)).heap.size) := Lib.hid (by simp)
  generalize ((w1.alloc (.cells #[.int .i64 ((fin f).bf 0 : Int), .int .i64 ((fin f).bf 1 : Int), .int .i64 ((fin f).bf 2 : Int), .int .i64 ((fin f).bf 3 : Int), .int .i64 ((fin f).bf 4 : Int), .int .i64 ((fin f).bf 5 : Int), .int .i64 ((fin f).bf 6 : Int), .int .i64 ((fin f).bf 7 : Int)] 57)).alloc (.cells #[.bool ((fin f).rc 0), .bool ((fin f).rc 1), .bool ((fin f).rc 2), .bool ((fin f).rc 3), .bool ((fin f).rc 4), .bool ((fin f).rc 5), .bool ((fin f).rc 6), .bool ((fin f).rc 7)] 58)) = W2 at *
  have c1 := HB.out.2.cell ht
  rw [HRC.out] at c1
  go_wp2_with fail
  clear c1
  go_loopg [8, 9] (pl f t) (fun gh p r wr => ∃ n : Nat, gh + n = pl f t ∧ r = .int .i64 (cur f t n : Int) ∧ OwnI wr (w1.heap.size + 2) p (acc f t n) ∧ Bx wr w1.heap.size (w1.heap.size + 1) (fin f) ∧ Ev w wr ∧ w1.heap.size + 2 ≤ wr.heap.size)
  case atStart => exact ⟨0, rfl, rfl, nil_own _ _, HB.out, HE2.out, HS2.out⟩
  case round =>
    obtain ⟨n, hg, rfl, hown, hbx, hev, hsz⟩ := hrel
    have HG := Lib.hid hg
    have HO := Lib.hid hown
    have HBX := Lib.hid hbx
    have HEV := Lib.hid hev
    have HSZ := Lib.hid hsz
    clear hown hbx hev hsz
    by_cases hn : n < pl f t
    · obtain ⟨hc8, hne⟩ := HP3.out n hn
      have HC : Hid (cur f t (n + 1) = (fin f).bf (cur f t n)) := Lib.hid rfl
      have HAC : Hid (IV (acc f t (n + 1)) = IV (acc f t n) ++ [.int .i64 (cur f t n : Int)]) := Lib.hid (acc_IV f t n)
      have HIV : Hid (wr.ownsRow (w1.heap.size + 2) 3 1 u8 n (IV (acc f t n))) := Lib.hid (by have h := HO.out; unfold OwnI at h; rwa [acc_len] at h)
      have HAL : Hid ((acc f t (n + 1)).length = n + 1) := Lib.hid (acc_len _ _ _)
      have hn4 : n ≤ 4 := by have := HP1.out; omega
      have c0 := HBX.out.1.cell hc8
      generalize cur f t n = r at *
      obtain ⟨r2, hr2⟩ : ∃ r2, r2 = cur f t (n + 1) := ⟨_, rfl⟩
      have HN2 := Lib.hid hr2
      rw [← hr2] at HC
      clear hr2
      have hne' : ¬ (r : Int) = (f : Int) := by omega
      have hr0 : (0 : Int) ≤ (r : Int) := by omega
      have hr8 : (r : Int) < 8 := by omega
      have H1 := Lib.hid (one_cell wr (.int .i64 (r : Int)) 3)
      have H5 : Hid (w1.heap.size + 2 ≤ (wr.alloc (.cells #[.int .i64 (r : Int)] 3)).heap.size) := Lib.hid (by have := HSZ.out; simp; omega)
      have HNL := Lib.hid hn
      clear hn hg hc8 hne
      go_wp2_with (at_builtin; go_loud (refine wpList_append_own _ rfl (.tmp 34) (.tmp 36) 25 rfl (w1.heap.size + 2) 3 i0 (.int .i64 0) 1 8 Tryd.underlying25 hi0 hz0 hz1 hz2 rfl (by decide) u8 n (IV (acc f t n)) rfl (HIV.out.alloc _) ⟨wr.heap.size, 0, none⟩ 1 1 [.int .i64 (r : Int)] rfl rfl H1.out (by simp [Value.oneCell']) (by unfold maxLen; omega) (by omega) H5.out ?_); intro v1 w4 hown4 hg4 _; have HW4 : Hid (Below (w1.heap.size + 2) wr w4) := Lib.hid (Below.grown ((Below.refl _ _).alloc HSZ.out _) hg4 H5.out (fun g hg => row_ge HIV.out g hg)); have HB4 : Hid (Bx w4 w1.heap.size (w1.heap.size + 1) (fin f)) := Lib.hid ⟨rowIs_bl HBX.out.1 HW4.out (by omega), rowIs_bl HBX.out.2 HW4.out (by omega)⟩; have HO4 : Hid (OwnI w4 (w1.heap.size + 2) v1 (acc f t (n + 1))) := Lib.hid (by unfold OwnI; rw [HAL.out, HAC.out]; exact hown4); have HE4 : Hid (Ev w w4) := Lib.hid (Below.trans HEV.out (HW4.out.mono (by have := HE1.out.sz; omega))); clear hown4 hg4; have c4 := HB4.out.1.cell (i := r) (by omega); rw [← HC.out] at c4)
      go_roundg (gk - 1)
      case rel => exact ⟨n + 1, by have := HG.out; have := HNL.out; omega, by rw [HN2.out], HO4.out, HB4.out, HE4.out, by have := HW4.out.size; have := HSZ.out; omega⟩
      case measure => have := HG.out; have := HNL.out; omega
    · obtain rfl : n = pl f t := by have := HG.out; omega
      have HO2 : Hid (OwnI wr (w1.heap.size + 2) u8 (acc f t (pl f t))) := HO
      have CR := Lib.hid (reverse_any _ _ _ _ HO2.out (by rw [acc_len]; have := HP1.out; omega))
      rw [HP2.out]
      clear hn hg
      go_wp2_with fail
      refine CR.out.mono ?_
      rintro e w5 ⟨rfl, hown5, hbel5⟩
      go_wp2_with fail
      refine bodyPost_ret (v := .tuple #[u8, .int .i64 0]) (by simp [results, Tryd.results14, go_sem]) rfl ⟨_, rfl, own_weaken hown5 (by have := HE1.out.sz; omega), Below.trans HEV.out (hbel5.mono (by have := HE1.out.sz; omega))⟩
end Go.Proofs.YtdkfedbjbcaajaaDoor
