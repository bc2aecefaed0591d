import Derived.Test.YtnlbkaabhnkkfaaPE
import Derived.RegionTactic
import Derived.ChangeAlike
import Derived.Deep.RegionWith
namespace Go.Proofs.Ytnlbkaabhnkkfaa
open Go.RowKit
set_option maxHeartbeats 2000000 in
theorem made_any (n : Int) (w : World) (hn : -9223372036854775808 ≤ n) (hn2 : n ≤ 9223372036854775807) : Calls Try.prog 32 #[.int .i64 n] w fun e w' => ∃ a b c, e = .returned (mk a b c) ∧ (0 ≤ a ∧ a < b ∧ b < c ∧ c ≤ 20) ∧ Ev w w' := by
  have h1 : 0 ≤ n % 6 ∧ n % 6 < 6 := ⟨Int.emod_nonneg _ (by omega), Int.emod_lt_of_pos _ (by omega)⟩
  have h2 : 0 ≤ (n.tdiv 6) % 5 ∧ (n.tdiv 6) % 5 < 5 := ⟨Int.emod_nonneg _ (by omega), Int.emod_lt_of_pos _ (by omega)⟩
  have h3 : 0 ≤ (n.tdiv 30) % 6 ∧ (n.tdiv 30) % 6 < 6 := ⟨Int.emod_nonneg _ (by omega), Int.emod_lt_of_pos _ (by omega)⟩
  have M1 := Lib.hid fun W => mod_any n 6 W (by omega) (by omega)
  have M2 := Lib.hid fun W => mod_any (n.tdiv 6) 5 W (by omega) (by omega)
  have M3 := Lib.hid fun W => mod_any (n.tdiv 30) 6 W (by omega) (by omega)
  have s6 : Int.sign 6 = 1 := rfl
  have s30 : Int.sign 30 = 1 := rfl
  have q2 : IntKind.i64.wrap (n.tdiv 6) = n.tdiv 6 := IntWalk.i64_in _ (by have := Int.tdiv_eq_ediv (a := n) (b := 6); split at this <;> omega)
  have q3 : IntKind.i64.wrap (n.tdiv 30) = n.tdiv 30 := IntWalk.i64_in _ (by have := Int.tdiv_eq_ediv (a := n) (b := 30); split at this <;> omega)
  generalize n % 6 = x1 at *
  generalize (n.tdiv 6) % 5 = x2 at *
  generalize (n.tdiv 30) % 6 = x3 at *
  have p1 : IntKind.i64.wrap (x1 + 1) = x1 + 1 := IntWalk.i64_in _ (by omega)
  have p2 : IntKind.i64.wrap (x1 + 1 + x2) = x1 + 1 + x2 := IntWalk.i64_in _ (by omega)
  have p3 : IntKind.i64.wrap (x1 + 1 + x2 + 1) = x1 + 1 + x2 + 1 := IntWalk.i64_in _ (by omega)
  have p4 : IntKind.i64.wrap (x1 + 1 + x2 + 1 + x3) = x1 + 1 + x2 + 1 + x3 := IntWalk.i64_in _ (by omega)
  clear s6 s30
  go_enter Try.func32, Try.ntmps32
  go_wp2_with fail
  refine (M1.out _).mono ?_
  rintro e w' ⟨rfl, rfl⟩
  go_wp2_with fail
  go_region_held3 (fun w' => w'.cell? ⟨w.heap.size + 1, 0, none⟩ = some (.int .i64 x1)) (simp) (first | (go_at_call 34; refine (M2.out _).mono ?_; rintro e w' ⟨rfl, rfl⟩))
  go_wp2_with fail
  go_region_held3 (fun w' => w'.cell? ⟨w.heap.size + 1, 1, none⟩ = some (.int .i64 (x1 + 1 + x2))) (simp) (first | (go_at_call 34; refine (M3.out _).mono ?_; rintro e w' ⟨rfl, rfl⟩))
  go_wp2_with fail
  refine bodyPost_ret (v := mk x1 (x1 + 1 + x2) (x1 + 1 + x2 + 1 + x3)) (by simp [results, Try.results32, go_sem]) rfl ⟨_, _, _, rfl, by omega, ?_⟩
  repeat (first | (with_reducible exact Ev.refl _) | (with_reducible apply Ev.drew) | (with_reducible apply Ev.alloc))
end Go.Proofs.Ytnlbkaabhnkkfaa
