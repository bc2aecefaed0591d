import Derived.Test.YtfclbnaabdlmhaaPB
namespace Go.Proofs.Ytfclbnaabdlmhaa
open Go.RowKit
set_option maxRecDepth 100000 in
set_option maxHeartbeats 2000000 in
theorem rfill_any (v : Nat) (w : World) (hv : v < 18446744073709551616) : Calls Try.prog 23 #[.int .u64 (v : Int)] w fun e w' => e = .returned (pg fun k => rot (k * 8) v) ∧ Ev w w' := by
  go_enter Try.func23, Try.ntmps23
  go_wp2_with fail
  go_loopw [4] (fun i wr => ∃ k : Nat, k ≤ 8 ∧ i = .int .i64 k ∧ BP wr (w.heap.size + 1) (fun j => if j < k then rot (j * 8) v else 0) ∧ wr.heap[w.heap.size]? = some zO ∧ Ev w wr) (fun i _ => 8 - (intOf i).toNat)
  case atStart => exact ⟨0, by omega, rfl, (by
    have h := BP.new1 w (fun _ => 0) zO
    exact h), (heap_alloc_old _ _ (by simp)).trans (heap_alloc_new w _), ((Ev.refl _).alloc _).alloc _⟩
  case round =>
    obtain ⟨k, hk, rfl, hb, hz, hev⟩ := hrel
    by_cases hlt : k < 8
    · have hlt' : (k : Int) < 8 := by omega
      have HB := Lib.hid hb
      have HZ := Lib.hid hz
      have HEV := Lib.hid hev
      have c1 := hb.2.1 k hlt
      have f1 := hb.2.2 k
      have HT := Lib.hid fun z W h => turned_at v (k * 8) z W hv (by omega) h
      clear hb hz hev
      go_wp2_with fail
      refine (HT.out _ _ (by omega)).mono ?_
      rintro e w2 ⟨rfl, rfl⟩
      go_wp2_with fail
      go_roundw
      case rel => exact ⟨k + 1, by omega, by go_num, by
        have h := HB.out.set k (rot (k * 8) v) hlt
        have e : (upd (fun j => if j < k then rot (j * 8) v else 0) k (rot (k * 8) v)) = fun j => if j < k + 1 then rot (j * 8) v else 0 := by
          funext j
          unfold upd
          by_cases e : j = k
          · subst e; simp
          · rw [if_neg e]
            show (if j < k then rot (j * 8) v else 0) = _
            by_cases e2 : j < k
            · rw [if_pos e2, if_pos (by omega)]
            · rw [if_neg e2, if_neg (by omega)]
        rw [e] at h
        exact h, (heap_setCell_other _ _ _ _ (by simp)).trans HZ.out, HEV.out.setC (by simp) _⟩
      case measure => simp [intOf]; omega
    · obtain rfl : k = 8 := by omega
      have HB := Lib.hid hb
      have HZ := Lib.hid hz
      have HEV := Lib.hid hev
      have hc := hb.2.1
      have c0 := hc 0 (by omega)
      have c1 := hc 1 (by omega)
      have c2 := hc 2 (by omega)
      have c3 := hc 3 (by omega)
      have c4 := hc 4 (by omega)
      have c5 := hc 5 (by omega)
      have c6 := hc 6 (by omega)
      have c7 := hc 7 (by omega)
      simp only [Nat.reduceLT, if_true] at c0 c1 c2 c3 c4 c5 c6 c7
      clear hb hz hev hc
      go_wp2_with (refine wpList_store_row rfl 24 (.tmp 2) (.tmp 15) (by rfl) w.heap.size (pgA fun k => rot (k * 8) v) (by rfl) (by rfl) 24 _ HZ.out info24 rfl (pgA_one _) ?_)
      refine bodyPost_ret (v := pg fun k => rot (k * 8) v) (results_cell_row Try.results23 _ _ w.heap.size 24 (pgA fun k => rot (k * 8) v) (0, 0) _ (by rfl) (setRow_heap _ _ _ _ 24 (0, 0) HZ.out) Try.underlying24 rfl info24) rfl ⟨rfl, HEV.out.setRow (by omega) _⟩
/-- the sum of a page -/
def smK (c : Nat → Nat) : Nat → Nat
  | 0 => 0
  | k + 1 => (rot 7 (smK c k) + c k) % 18446744073709551616
theorem smK_lt (c : Nat → Nat) (k : Nat) : smK c k < 18446744073709551616 := by
  cases k with
  | zero => simp [smK]
  | succ k => exact Nat.mod_lt _ (by omega)
theorem ixM (c : Nat → Nat) (w : World) (k : Nat) (hk : k < 8) : (Instr.index 24 (pg c) (.int .i64 (k : Int))).run Try.prog w = .ok (.int .u64 (c k : Int)) w := by
  rcases (show k = 0 ∨ k = 1 ∨ k = 2 ∨ k = 3 ∨ k = 4 ∨ k = 5 ∨ k = 6 ∨ k = 7 by omega) with rfl | rfl | rfl | rfl | rfl | rfl | rfl | rfl <;> kernel_rfl
theorem sm_wrap (y z : Nat) : IntKind.u64.wrap ((y : Int) + (z : Int)) = (((y + z) % 18446744073709551616 : Nat) : Int) := by rw [IntKind.wrap_u64]; omega
set_option maxHeartbeats 2000000 in
theorem sum_any (c : Nat → Nat) (w : World) : Calls Try.prog 27 #[pg c] w fun e w' => e = .returned (.int .u64 (smK c 8 : Int)) ∧ Ev w w' := by
  go_enter Try.func27, Try.ntmps27
  go_wp2_with fail
  go_loopw [3, 7] (fun s i wr => ∃ k : Nat, k ≤ 8 ∧ i = .int .i64 k ∧ s = .int .u64 (smK c k : Int) ∧ Ev w wr) (fun _ i _ => 8 - (intOf i).toNat)
  case atStart => exact ⟨0, by omega, rfl, rfl, (Ev.refl _).alloc _⟩
  case round =>
    obtain ⟨k, hk, rfl, rfl, hev⟩ := hrel
    by_cases hlt : k < 8
    · have hlt' : (k : Int) < 8 := by omega
      have HX := fun W => ixM c W k hlt
      have HR := Lib.hid fun W => rotl_any (smK c k) 7 W (smK_lt c k) (by omega)
      have HW := Lib.hid (sm_wrap (rot 7 (smK c k)) (c k))
      have HS : Hid (smK c (k + 1) = (rot 7 (smK c k) + c k) % 18446744073709551616) := Lib.hid rfl
      have HEV := Lib.hid hev
      clear hev
      generalize smK c k = s at *
      go_wp2_with fail
      refine (HR.out _).mono ?_
      rintro e w2 ⟨rfl, rfl⟩
      go_wp2_with fail
      go_roundw
      case rel => exact ⟨k + 1, by omega, by go_num, by rw [HS.out, ← HW.out], HEV.out⟩
      case measure => simp [intOf]; omega
    · obtain rfl : k = 8 := by omega
      have HEV := Lib.hid hev
      clear hev
      go_wp2_with fail
      go_ret
      exact ⟨rfl, HEV.out⟩
set_option maxHeartbeats 2000000 in
theorem rsum_any (c : Nat → Nat) (w : World) : Calls Try.prog 28 #[pg c] w fun e w' => e = .returned (.int .u64 (smK c 8 : Int)) ∧ Ev w w' := by
  have HB := Lib.hid (BP.new w c)
  go_enter Try.func28, Try.ntmps28
  go_wp2_with fail
  go_loopw [3, 4] (fun s i wr => ∃ k m : Nat, k ≤ 8 ∧ i = .int .i64 k ∧ s = .int .u64 (smK c k : Int) ∧ wr = (w.alloc (pgO c)).drewN m) (fun _ i _ => 8 - (intOf i).toNat)
  case atStart => exact ⟨0, 0, by omega, rfl, rfl, rfl⟩
  case round =>
    obtain ⟨k, m, hk, rfl, rfl, rfl⟩ := hrel
    by_cases hlt : k < 8
    · have hlt' : (k : Int) < 8 := by omega
      have hk0 : (0 : Int) ≤ (k : Int) := by omega
      have ck := HB.out.2.1 k hlt
      have HR := Lib.hid fun W => turned_at (smK c k) 7 7 W (smK_lt c k) (by omega) rfl
      have HW := Lib.hid (sm_wrap (rot 7 (smK c k)) (c k))
      have HS : Hid (smK c (k + 1) = (rot 7 (smK c k) + c k) % 18446744073709551616) := Lib.hid rfl
      generalize smK c k = s at *
      go_wp2_with fail
      go_quiet ((go_at_call 44; first | exact q1 HR.out | exact q2 HR.out))
      go_wp2_with fail
      go_roundw
      case rel => exact ⟨k + 1, m + nq, by omega, by go_num, by rw [HS.out, ← HW.out], rfl⟩
      case measure => simp [intOf]; omega
    · obtain rfl : k = 8 := by omega
      go_wp2_with fail
      go_ret
      exact ⟨rfl, ((Ev.refl _).alloc _ : Ev w _).drewN _⟩
end Go.Proofs.Ytfclbnaabdlmhaa
