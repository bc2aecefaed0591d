import Derived.Test.YteilclbpehmbpaaB5
namespace Go.Proofs.Yteilclbpehmbpaa
open Go.RowKit Go.Maps
theorem cell_new (X : World) (c : Array Value) (T : TypeId) (j : Nat) : (X.alloc (.cells c T)).cell? ⟨X.heap.size, j, none⟩ = c[j]? := by
  have h := heap_alloc_new X (.cells c T)
  unfold World.cell?
  simp only []
  rw [h]
  rfl
abbrev oB8 : Obj := .cells #[.bool false, .bool false, .bool false, .bool false, .bool false, .bool false, .bool false, .bool false] 4
theorem mk8 (w : World) : (Instr.makeSlice 30 (.int .i64 8) (.int .i64 8)).run Try.prog w = .ok (.slice (some ⟨w.heap.size, 0, none⟩) 8 8) (w.alloc oB8) := by kernel_rfl
theorem rd8 (w : World) : RdB (w.alloc oB8) (some ⟨w.heap.size, 0, none⟩) (List.replicate 8 false) :=
  ⟨by simp, fun j hj => ⟨_, 0, rfl, by simp, by
    have hj8 : j < 8 := by simpa using hj
    rw [Nat.zero_add, cell_new]
    rcases (show j = 0 ∨ j = 1 ∨ j = 2 ∨ j = 3 ∨ j = 4 ∨ j = 5 ∨ j = 6 ∨ j = 7 by omega) with rfl | rfl | rfl | rfl | rfl | rfl | rfl | rfl <;> rfl⟩⟩
set_option maxHeartbeats 1000000 in
theorem lists_nil (A B : Option Addr) (n c m d : Nat) (w : World) :
    Calls Try.prog 14 #[.slice A n c, .slice B m d, .slice none 0 0] w fun x w' => ∃ r, x = .returned (ls A n c B m d (some ⟨r, 0, none⟩) 8 8) ∧ RdB w' (some ⟨r, 0, none⟩) (List.replicate 8 false) ∧ Ev w w' := by
  have hmk := mk8
  go_enter Try.func14, Try.ntmps14
  go_wp2_with fail
  refine wp_loop_rounds 1 ?_
  rw [rounds_succ]
  go_wp2_with fail
  refine bodyPost_ret (v := ls A n c B m d (some ⟨w.heap.size + 1, 0, none⟩) 8 8) (by simp [results, Try.results14, go_sem]) rfl ⟨_, rfl, ?_, (((Ev.refl w).alloc _).alloc _).alloc _⟩
  have h := (rd8 (w.alloc (lsO A n c B m d (some ⟨w.heap.size + 1, 0, none⟩) 8 8))).ev ((Ev.refl _).alloc (lsO A n c B m d (some ⟨w.heap.size + 1, 0, none⟩) 8 8))
  rwa [show (w.alloc (lsO A n c B m d (some ⟨w.heap.size + 1, 0, none⟩) 8 8)).heap.size = w.heap.size + 1 from by simp] at h
theorem RdI.lit (X : World) (c : Array Value) (T : TypeId) (l : List Int) (h : c = (l.map (Value.int .i64)).toArray) (hl : l.length ≤ 9223372036854775807) : RdI (X.alloc (.cells c T)) (some ⟨X.heap.size, 0, none⟩) l :=
  ⟨hl, fun j hj => ⟨_, 0, rfl, by simp, by rw [Nat.zero_add, cell_new, h]; simp [hj]⟩⟩
theorem vl_of {w : World} {A B : Option Addr} {r : Nat} {La Li : List Int} (hA : RdI w A La) (hB : RdI w B Li) (hC : RdB w (some ⟨r, 0, none⟩) (List.replicate 8 false)) (hnd : (La ++ Li).Nodup) (hin : ∀ y ∈ La ++ Li, 0 ≤ y ∧ y < 8) (hlen : La.length + Li.length ≤ 60) :
    VL w A B (some ⟨r, 0, none⟩) La.length Li.length La Li (List.replicate 8 false) :=
  ⟨rfl, rfl, hA, hB, hC, by simp, by simp, hnd, by simpa using hin, fun j hj h => by
    have hj8 : j < 8 := by simpa using hj
    exfalso
    revert h
    rcases (show j = 0 ∨ j = 1 ∨ j = 2 ∨ j = 3 ∨ j = 4 ∨ j = 5 ∨ j = 6 ∨ j = 7 by omega) with rfl | rfl | rfl | rfl | rfl | rfl | rfl | rfl <;> decide, hlen⟩
theorem caseA (X : World) : Calls Try.prog 14 #[.slice (some ⟨X.heap.size, 0, none⟩) 1 1, .slice (some ⟨X.heap.size + 1, 0, none⟩) 2 2, .slice none 0 0] ((X.alloc (.cells #[.int .i64 3] 3)).alloc (.cells #[.int .i64 2, .int .i64 1] 3)) fun x w' => ∃ r, x = .returned (ls (some ⟨X.heap.size, 0, none⟩) 1 1 (some ⟨X.heap.size + 1, 0, none⟩) 2 2 (some ⟨r, 0, none⟩) 8 8) ∧ Calls Try.prog 13 #[ls (some ⟨X.heap.size, 0, none⟩) 1 1 (some ⟨X.heap.size + 1, 0, none⟩) 2 2 (some ⟨r, 0, none⟩) 8 8, .int .i64 3] w' (fun x w'' => x = .returned (.bool true) ∧ Ev w' w'') ∧ Ev X w' := by
  refine (lists_nil _ _ 1 1 2 2 _).mono ?_
  rintro x w' ⟨r, rfl, hr, hev⟩
  have h1 := RdI.lit X #[.int .i64 3] 3 [3] rfl (by simp)
  have h2 := RdI.lit (X.alloc (.cells #[.int .i64 3] 3)) #[.int .i64 2, .int .i64 1] 3 [2, 1] rfl (by simp)
  rw [show (X.alloc (.cells #[.int .i64 3] 3)).heap.size = X.heap.size + 1 from by simp] at h2
  have v := vl_of ((h1.ev ((Ev.refl _).alloc _)).ev hev) (h2.ev hev) hr (by decide) (by decide) (by decide)
  exact ⟨r, rfl, which_ok _ _ _ 1 1 2 2 8 [3] [2, 1] _ w' v 3 (by decide +kernel), (((Ev.refl X).alloc _).alloc _).step hev⟩
theorem caseB (X : World) : Calls Try.prog 14 #[.slice (some ⟨X.heap.size, 0, none⟩) 2 2, .slice (some ⟨X.heap.size + 1, 0, none⟩) 1 1, .slice none 0 0] ((X.alloc (.cells #[.int .i64 3, .int .i64 2] 3)).alloc (.cells #[.int .i64 1] 3)) fun x w' => ∃ r, x = .returned (ls (some ⟨X.heap.size, 0, none⟩) 2 2 (some ⟨X.heap.size + 1, 0, none⟩) 1 1 (some ⟨r, 0, none⟩) 8 8) ∧ Calls Try.prog 13 #[ls (some ⟨X.heap.size, 0, none⟩) 2 2 (some ⟨X.heap.size + 1, 0, none⟩) 1 1 (some ⟨r, 0, none⟩) 8 8, .int .i64 1] w' (fun x w'' => x = .returned (.bool true) ∧ Ev w' w'') ∧ Ev X w' := by
  refine (lists_nil _ _ 2 2 1 1 _).mono ?_
  rintro x w' ⟨r, rfl, hr, hev⟩
  have h1 := RdI.lit X #[.int .i64 3, .int .i64 2] 3 [3, 2] rfl (by simp)
  have h2 := RdI.lit (X.alloc (.cells #[.int .i64 3, .int .i64 2] 3)) #[.int .i64 1] 3 [1] rfl (by simp)
  rw [show (X.alloc (.cells #[.int .i64 3, .int .i64 2] 3)).heap.size = X.heap.size + 1 from by simp] at h2
  have v := vl_of ((h1.ev ((Ev.refl _).alloc _)).ev hev) (h2.ev hev) hr (by decide) (by decide) (by decide)
  exact ⟨r, rfl, which_ok _ _ _ 2 2 1 1 8 [3, 2] [1] _ w' v 1 (by decide +kernel), (((Ev.refl X).alloc _).alloc _).step hev⟩
set_option maxRecDepth 100000 in
set_option maxHeartbeats 2000000 in
theorem awake_any (w : World) : Calls Try.prog 17 #[] w fun x w' => x = .returned (.bool true) ∧ Ev w w' := by
  have HT : Hid (∀ W, Calls Try.prog 19 #[.int .i64 48] W fun e w' => e = .returned (.tuple #[.int .i64 12, .int .i64 0]) ∧ W = w') := Lib.hid fun W => by have h := target_ok 48 W (by omega) (by omega); exact h
  have HA := Lib.hid caseA
  have HB := Lib.hid caseB
  go_enter Try.func17, Try.ntmps17
  go_wp2_with fail
  refine (HT.out _).mono ?_
  rintro x w1 ⟨rfl, rfl⟩
  go_wp2_with fail
  refine (HA.out _).mono ?_
  rintro x w2 ⟨r, rfl, hc, hev⟩
  have HC := Lib.hid hc
  have HE := Lib.hid hev
  clear hc hev
  go_wp2_with fail
  refine HC.out.mono ?_
  rintro x w3 ⟨rfl, hev⟩
  have HE := Lib.hid (HE.out.step hev)
  clear hev
  go_wp2_with fail
  refine (HB.out _).mono ?_
  rintro x w4 ⟨r2, rfl, hc, hev⟩
  have HC2 := Lib.hid hc
  have HE := Lib.hid (HE.out.step hev)
  clear hc hev
  go_wp2_with fail
  refine HC2.out.mono ?_
  rintro x w5 ⟨rfl, hev⟩
  have hE := HE.out.step hev
  clear hev
  go_wp2_with fail
  go_ret
  exact ⟨rfl, hE⟩
end Go.Proofs.Yteilclbpehmbpaa
