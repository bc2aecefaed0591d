import Derived.Test.YtkifcjjnpahdmaaDoorD3
namespace Go.Proofs.YtkifcjjnpahdmaaDoor
open Go.RowKit
open Go.Deep

set_option maxHeartbeats 400000 in
theorem rrun_bad (n : Int) (A : Option Addr) (cap : Nat) (ws : List Nat) (m al : Int) (inn : Bool) (w : World) (hr : Rd w A ws) (hne : chkI n ws ≠ 0) :
    Calls Tryd.prog 28 #[.agg #[.int .i64 n, .slice A ws.length cap], .int .i64 m, .int .i64 al, .bool inn] w fun e w' => e = .returned (.tuple #[.int .i64 0, .int .i64 (chkI n ws)]) ∧ Below w.heap.size w w' := by
  have hC := rcheck_any n A cap ws _ (hr.alloc (.cells #[.int .i64 n, .slice A ws.length cap] 24))
  have hb0 : (chkI n ws != 0) = true := by simpa using hne
  have HC := Lib.hid hC
  clear hC
  generalize chkI n ws = er at *
  go_enter Tryd.func28, Tryd.ntmps28
  go_wp2_with fail
  refine HC.out.mono ?_
  rintro e w1 ⟨rfl, hb⟩
  clear HC
  go_wp2
  go_ret2
  exact ⟨rfl, ((Below.refl _ _).alloc (Nat.le_refl _) _).trans (hb.mono (by simp))⟩
set_option maxHeartbeats 400000 in
theorem rrun_out (n : Int) (A : Option Addr) (cap : Nat) (ws : List Nat) (m al : Int) (inn : Bool) (w : World) (hr : Rd w A ws) (h0 : chkI n ws = 0) (hno : ¬ runOK m al) :
    Calls Tryd.prog 28 #[.agg #[.int .i64 n, .slice A ws.length cap], .int .i64 m, .int .i64 al, .bool inn] w fun e w' => e = .returned (.tuple #[.int .i64 0, .int .i64 2]) ∧ Below w.heap.size w w' := by
  have hC := rcheck_any n A cap ws _ (hr.alloc (.cells #[.int .i64 n, .slice A ws.length cap] 24))
  rw [h0] at hC
  have HC := Lib.hid hC
  clear hC h0
  unfold runOK at hno
  rcases Int.lt_or_le m 1 with c1 | c1
  · clear hno
    go_enter Tryd.func28, Tryd.ntmps28
    go_wp2_with fail
    refine HC.out.mono ?_
    rintro e w1 ⟨rfl, hb⟩
    go_wp2
    go_ret2
    exact ⟨rfl, ((Below.refl _ _).alloc (Nat.le_refl _) _).trans (hb.mono (by simp))⟩
  rcases Int.lt_or_le 1024 m with c2 | c2
  · clear hno
    go_enter Tryd.func28, Tryd.ntmps28
    go_wp2_with fail
    refine HC.out.mono ?_
    rintro e w1 ⟨rfl, hb⟩
    go_wp2
    go_ret2
    exact ⟨rfl, ((Below.refl _ _).alloc (Nat.le_refl _) _).trans (hb.mono (by simp))⟩
  rcases Int.lt_or_le al 1 with c3 | c3
  · clear hno
    go_enter Tryd.func28, Tryd.ntmps28
    go_wp2_with fail
    refine HC.out.mono ?_
    rintro e w1 ⟨rfl, hb⟩
    go_wp2
    go_ret2
    exact ⟨rfl, ((Below.refl _ _).alloc (Nat.le_refl _) _).trans (hb.mono (by simp))⟩
  have c4 : 1024 < al := by omega
  clear hno
  go_enter Tryd.func28, Tryd.ntmps28
  go_wp2_with fail
  refine HC.out.mono ?_
  rintro e w1 ⟨rfl, hb⟩
  go_wp2
  go_ret2
  exact ⟨rfl, ((Below.refl _ _).alloc (Nat.le_refl _) _).trans (hb.mono (by simp))⟩
theorem rrun_any (n : Int) (A : Option Addr) (cap : Nat) (ws : List Nat) (m al : Int) (inn : Bool) (w : World) (hr : Rd w A ws) :
    Calls Tryd.prog 28 #[.agg #[.int .i64 n, .slice A ws.length cap], .int .i64 m, .int .i64 al, .bool inn] w fun e w' =>
      e = .returned (.tuple #[.int .i64 (runVal n ws m al inn), .int .i64 (runErr n ws m al inn)]) ∧ Below w.heap.size w w' := by
  unfold runVal runErr
  by_cases h0 : chkI n ws = 0
  · rw [if_pos h0, if_pos h0]
    by_cases h1 : runOK m al
    · rw [if_pos h1, if_pos h1]
      obtain ⟨g1, g2, g3, g4⟩ := chk_good h0
      unfold runOK at h1
      obtain ⟨m', rfl⟩ := Int.eq_ofNat_of_zero_le (a := m) (by omega)
      obtain ⟨al', rfl⟩ := Int.eq_ofNat_of_zero_le (a := al) (by omega)
      exact rrun_loop n A cap ws m' al' inn w hr h0 g1 g2 g4 (by omega) (by omega) (by omega) (by omega)
    · rw [if_neg h1, if_neg h1]
      exact rrun_out n A cap ws m al inn w hr h0 h1
  · rw [if_neg h0, if_neg h0]
    exact rrun_bad n A cap ws m al inn w hr h0
set_option maxHeartbeats 400000 in
theorem rput_bad (n : Int) (A : Option Addr) (cap : Nat) (ws : List Nat) (f t : Int) (inn : Bool) (w : World) (hr : Rd w A ws) (hne : chkI n ws ≠ 0) :
    Calls Tryd.prog 26 #[.agg #[.int .i64 n, .slice A ws.length cap], .int .i64 f, .int .i64 t, .bool inn] w (RetS w 0 [] (chkI n ws)) := by
  have hC := rcheck_any n A cap ws _ ((hr.alloc (.cells #[.int .i64 n, .slice A ws.length cap] 24)).alloc (.cells #[.int .i64 0, .slice none 0 0] 24))
  have hb0 : (chkI n ws != 0) = true := by simpa using hne
  have HC := Lib.hid hC
  clear hC
  generalize chkI n ws = er at *
  go_enter Tryd.func26, Tryd.ntmps26
  go_wp2_with fail
  refine HC.out.mono ?_
  rintro e w1 ⟨rfl, hb⟩
  clear HC
  obtain ⟨hc1, hf1'⟩ := bc hb
  have hs1 : w.heap.size + 2 ≤ w1.heap.size := by have := bsz hb; simpa using this
  have hy0 : w1.cell? ⟨w.heap.size + 1, 0, none⟩ = some (.int .i64 0) := by rw [hc1 _ _ (by simp <;> omega)]; simp
  have hy1 : w1.cell? ⟨w.heap.size + 1, 1, none⟩ = some (.slice none 0 0) := by rw [hc1 _ _ (by simp <;> omega)]; simp
  have hz0 : w1.frozen? ⟨w.heap.size + 1, 0, none⟩ = false := by rw [hf1' _ _ (by simp <;> omega)]; simp
  have hz1 : w1.frozen? ⟨w.heap.size + 1, 1, none⟩ = false := by rw [hf1' _ _ (by simp <;> omega)]; simp
  have hbW := (((Below.refl _ _).alloc (Nat.le_refl _) _).alloc (by simp) _).trans (hb.mono (B' := w.heap.size) (by simp <;> omega))
  clear hc1 hf1' hb
  go_wp2
  refine bodyPost_ret (v := .tuple #[.agg #[.int .i64 0, .slice none 0 0], .int .i64 er]) (by simp [results, Tryd.results26, go_sem, hy0, hy1]) rfl ⟨none, 0, rfl, fun _ => rfl, from_none _, Rd.zero, ?_⟩
  exact ((hbW.setCell (by simp only []; omega) _).setCell (by simp only []; omega) _)
set_option maxHeartbeats 400000 in
theorem rput_out (n : Int) (A : Option Addr) (cap : Nat) (ws : List Nat) (f t : Int) (inn : Bool) (w : World) (hr : Rd w A ws) (h0 : chkI n ws = 0) (hi : f < 0 ∨ t < f ∨ n < t) :
    Calls Tryd.prog 26 #[.agg #[.int .i64 n, .slice A ws.length cap], .int .i64 f, .int .i64 t, .bool inn] w (RetS w 0 [] 2) := by
  have hC := rcheck_any n A cap ws _ ((hr.alloc (.cells #[.int .i64 n, .slice A ws.length cap] 24)).alloc (.cells #[.int .i64 0, .slice none 0 0] 24))
  rw [h0] at hC
  have HC := Lib.hid hC
  clear hC h0
  rcases Int.lt_or_le f 0 with c1 | c1
  · clear hi
    go_enter Tryd.func26, Tryd.ntmps26
    go_wp2_with fail
    refine HC.out.mono ?_
    rintro e w1 ⟨rfl, hb⟩
    have hs1 : w.heap.size + 2 ≤ w1.heap.size := by have := bsz hb; simpa using this
    have hb2 : Below (w.heap.size + 2) ((w.alloc (.cells #[.int .i64 n, .slice A ws.length cap] 24)).alloc (.cells #[.int .i64 0, .slice none 0 0] 24)) w1 := by simpa using hb
    have hbW := (((Below.refl _ _).alloc (Nat.le_refl _) _).alloc (by simp) _).trans (hb2.mono (B' := w.heap.size) (by omega))
    clear hb HC
    obtain ⟨hx0, hx1, hy0, hy1, hz0, hz1⟩ := box22 hb2
    go_wp2
    refine bodyPost_ret (v := .tuple #[.agg #[.int .i64 0, .slice none 0 0], .int .i64 2]) (by simp [results, Tryd.results26, go_sem, hy0, hy1]) rfl ⟨none, 0, rfl, fun _ => rfl, from_none _, Rd.zero, ?_⟩
    exact ((hbW.setCell (by simp only []; omega) _).setCell (by simp only []; omega) _)
  rcases Int.lt_or_le t f with c2 | c2
  · clear hi
    go_enter Tryd.func26, Tryd.ntmps26
    go_wp2_with fail
    refine HC.out.mono ?_
    rintro e w1 ⟨rfl, hb⟩
    have hs1 : w.heap.size + 2 ≤ w1.heap.size := by have := bsz hb; simpa using this
    have hb2 : Below (w.heap.size + 2) ((w.alloc (.cells #[.int .i64 n, .slice A ws.length cap] 24)).alloc (.cells #[.int .i64 0, .slice none 0 0] 24)) w1 := by simpa using hb
    have hbW := (((Below.refl _ _).alloc (Nat.le_refl _) _).alloc (by simp) _).trans (hb2.mono (B' := w.heap.size) (by omega))
    clear hb HC
    obtain ⟨hx0, hx1, hy0, hy1, hz0, hz1⟩ := box22 hb2
    go_wp2
    refine bodyPost_ret (v := .tuple #[.agg #[.int .i64 0, .slice none 0 0], .int .i64 2]) (by simp [results, Tryd.results26, go_sem, hy0, hy1]) rfl ⟨none, 0, rfl, fun _ => rfl, from_none _, Rd.zero, ?_⟩
    exact ((hbW.setCell (by simp only []; omega) _).setCell (by simp only []; omega) _)
  · have c3 : n < t := by omega
    clear hi
    go_enter Tryd.func26, Tryd.ntmps26
    go_wp2_with fail
    refine HC.out.mono ?_
    rintro e w1 ⟨rfl, hb⟩
    have hs1 : w.heap.size + 2 ≤ w1.heap.size := by have := bsz hb; simpa using this
    have hb2 : Below (w.heap.size + 2) ((w.alloc (.cells #[.int .i64 n, .slice A ws.length cap] 24)).alloc (.cells #[.int .i64 0, .slice none 0 0] 24)) w1 := by simpa using hb
    have hbW := (((Below.refl _ _).alloc (Nat.le_refl _) _).alloc (by simp) _).trans (hb2.mono (B' := w.heap.size) (by omega))
    clear hb HC
    obtain ⟨hx0, hx1, hy0, hy1, hz0, hz1⟩ := box22 hb2
    go_wp2
    refine bodyPost_ret (v := .tuple #[.agg #[.int .i64 0, .slice none 0 0], .int .i64 2]) (by simp [results, Tryd.results26, go_sem, hy0, hy1]) rfl ⟨none, 0, rfl, fun _ => rfl, from_none _, Rd.zero, ?_⟩
    exact ((hbW.setCell (by simp only []; omega) _).setCell (by simp only []; omega) _)
theorem rput_any (n : Int) (A : Option Addr) (cap : Nat) (ws : List Nat) (f t : Int) (inn : Bool) (w : World) (hr : Rd w A ws) :
    Calls Tryd.prog 26 #[.agg #[.int .i64 n, .slice A ws.length cap], .int .i64 f, .int .i64 t, .bool inn] w (RetS w (putN n ws f t) (putWs n ws f t inn) (chpI n ws f t)) := by
  unfold putN putWs
  by_cases h0 : chkI n ws = 0
  · by_cases h1 : f < 0 ∨ t < f ∨ n < t
    · have e : chpI n ws f t = 2 := by unfold chpI; rw [if_neg (by simp [h0]), if_pos h1]
      rw [e, if_neg (by omega), if_neg (by omega)]
      exact rput_out n A cap ws f t inn w hr h0 h1
    · have e : chpI n ws f t = 0 := by unfold chpI; rw [if_neg (by simp [h0]), if_neg h1]
      obtain ⟨f', rfl⟩ := Int.eq_ofNat_of_zero_le (a := f) (by omega)
      obtain ⟨t', rfl⟩ := Int.eq_ofNat_of_zero_le (a := t) (by omega)
      obtain ⟨n', rfl⟩ := Int.eq_ofNat_of_zero_le (a := n) (by omega)
      rw [e, if_pos rfl, if_pos rfl, putW_pack n' ws f' t' inn hr.lt h0 (by omega)]
      exact rput_ok n' A cap ws f' t' inn w hr h0 (by omega) (by omega)
  · have e : chpI n ws f t = chkI n ws := by unfold chpI; rw [if_pos h0]
    rw [e, if_neg h0, if_neg h0]
    exact rput_bad n A cap ws f t inn w hr h0
end Go.Proofs.YtkifcjjnpahdmaaDoor
