import Derived.Test.YtdkfedbjbcaajaaDoorR5
import Derived.Test.YtdkfedbjbcaajaaDoorR6
namespace Go.Proofs.YtdkfedbjbcaajaaDoor
open Go.RowKit
def okP (f t : Int) : Bool := okM f t && rch f.toNat t.toNat
def paths (f t : Int) : List Int := if okP f t then pathL f.toNat t.toNat else []
def pathE (f t : Int) : Int := if okP f t then 0 else 14
set_option maxRecDepth 100000 in
set_option maxHeartbeats 4000000 in
theorem path_no (f t : Nat) (w : World) (hf : f < 8) (ht : t < 8) (hT : Tab w) (hr : rch f t = false) :
    Calls Tryd.prog 14 #[.int .i64 (f : Int), .int .i64 (t : Int)] w fun e w' => e = .returned (.tuple #[.slice none 0 0, .int .i64 14]) ∧ Ev w w' := by
  have C1 := Lib.hid (fun W => isRole_any (f : Int) W)
  have C2 := Lib.hid (fun W => isRole_any (t : Int) W)
  have e1 : isR (f : Int) = true := by unfold isR; simp; omega
  have e2 : isR (t : Int) = true := by unfold isR; simp; omega
  rw [e1] at C1
  rw [e2] at C2
  have CS := Lib.hid (search_any f w hf hT)
  have HRC : Hid ((fin f).rc t = false) := Lib.hid hr
  have ht0 : (0 : Int) ≤ (t : Int) := by omega
  have ht8 : (t : Int) < 8 := by omega
  clear e1 e2 hr
  go_enter Tryd.func14, Tryd.ntmps14
  go_wp2_with fail
  refine (C1.out _).mono ?_
  rintro e w1 ⟨rfl, rfl⟩
  go_wp2_with fail
  refine (C2.out _).mono ?_
  rintro e w1 ⟨rfl, rfl⟩
  go_wp2_with fail
  refine CS.out.mono ?_
  rintro e w1 ⟨rfl, hev1⟩
  have HE1 := Lib.hid hev1
  clear hev1
  go_upto_region 4 with fail
  have HB := Lib.hid (box_new w1 (fin f))
  have HE2 : Hid (Ev w ((w1.alloc (.cells #[.int .i64 ((fin f).bf 0 : Int), .int .i64 ((fin f).bf 1 : Int), .int .i64 ((fin f).bf 2 : Int), .int .i64 ((fin f).bf 3 : Int), .int .i64 ((fin f).bf 4 : Int), .int .i64 ((fin f).bf 5 : Int), .int .i64 ((fin f).bf 6 : Int), .int .i64 ((fin f).bf 7 : Int)] 57)).alloc (.cells #[.bool ((fin f).rc 0), .bool ((fin f).rc 1), .bool ((fin f).rc 2), .bool ((fin f).rc 3), .bool ((fin f).rc 4), .bool ((fin f).rc 5), .bool ((fin f).rc 6), .bool ((fin f).rc 7)] 58))) := Lib.hid ((HE1.out.alloc _).alloc _)
  generalize ((w1.alloc (.cells #[.int .i64 ((fin f).bf 0 : Int), .int .i64 ((fin f).bf 1 : Int), .int .i64 ((fin f).bf 2 : Int), .int .i64 ((fin f).bf 3 : Int), .int .i64 ((fin f).bf 4 : Int), .int .i64 ((fin f).bf 5 : Int), .int .i64 ((fin f).bf 6 : Int), .int .i64 ((fin f).bf 7 : Int)] 57)).alloc (.cells #[.bool ((fin f).rc 0), .bool ((fin f).rc 1), .bool ((fin f).rc 2), .bool ((fin f).rc 3), .bool ((fin f).rc 4), .bool ((fin f).rc 5), .bool ((fin f).rc 6), .bool ((fin f).rc 7)] 58)) = W2 at *
  have c1 := HB.out.2.cell ht
  rw [HRC.out] at c1
  go_wp2_with fail
  exact bodyPost_ret (v := .tuple #[.slice none 0 0, .int .i64 14]) (by simp [results, Tryd.results14, go_sem]) rfl ⟨rfl, HE2.out⟩
theorem path_bad (f t : Int) (w : World) (h : okM f t = false) :
    Calls Tryd.prog 14 #[.int .i64 f, .int .i64 t] w fun e w' => e = .returned (.tuple #[.slice none 0 0, .int .i64 14]) ∧ Ev w w' := by
  have C1 := Lib.hid (fun W => isRole_any f W)
  have C2 := Lib.hid (fun W => isRole_any t W)
  unfold okM at h
  by_cases h1 : isR f = true
  · have h2 : isR t = false := by rw [h1] at h; simpa using h
    rw [h1] at C1
    rw [h2] at C2
    clear h1 h2 h
    go_enter Tryd.func14, Tryd.ntmps14
    go_wp2_with fail
    refine (C1.out _).mono ?_
    rintro e w1 ⟨rfl, rfl⟩
    go_wp2_with fail
    refine (C2.out _).mono ?_
    rintro e w1 ⟨rfl, rfl⟩
    go_wp2_with fail
    exact bodyPost_ret (v := .tuple #[.slice none 0 0, .int .i64 14]) (by simp [results, Tryd.results14, go_sem]) rfl ⟨rfl, Ev.refl _⟩
  · have h1 : isR f = false := by simpa using h1
    rw [h1] at C1
    clear h1 h
    go_enter Tryd.func14, Tryd.ntmps14
    go_wp2_with fail
    refine (C1.out _).mono ?_
    rintro e w1 ⟨rfl, rfl⟩
    go_wp2_with fail
    exact bodyPost_ret (v := .tuple #[.slice none 0 0, .int .i64 14]) (by simp [results, Tryd.results14, go_sem]) rfl ⟨rfl, Ev.refl _⟩
theorem Path_any (f t : Int) (w : World) (hT : Tab w) :
    Calls Tryd.prog 14 #[.int .i64 f, .int .i64 t] w fun e w' => ∃ v, e = .returned (.tuple #[v, .int .i64 (pathE f t)]) ∧ OwnI w' w.heap.size v (paths f t) ∧ Ev w w' := by
  unfold pathE paths okP
  by_cases h : okM f t = true
  · have h' := h
    unfold okM at h'
    have h2 := Bool.and_eq_true_iff.1 h'
    obtain ⟨n, hn, rfl⟩ := isR_nat h2.1
    obtain ⟨m, hm, rfl⟩ := isR_nat h2.2
    rw [h]
    simp only [Int.toNat_natCast, Bool.true_and]
    by_cases hr : rch n m = true
    · rw [if_pos hr, if_pos hr]; exact path_ok n m w hn hm hT hr
    · rw [if_neg hr, if_neg hr]
      exact (path_no n m w hn hm hT (by simpa using hr)).mono fun e w' hh => ⟨_, hh.1, nil_own _ _, hh.2⟩
  · have h : okM f t = false := by simpa using h
    rw [h]
    exact (path_bad f t w h).mono fun e w' hh => ⟨_, hh.1, nil_own _ _, hh.2⟩
end Go.Proofs.YtdkfedbjbcaajaaDoor
