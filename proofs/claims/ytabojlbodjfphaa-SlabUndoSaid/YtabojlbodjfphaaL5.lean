import Derived.Test.YtabojlbodjfphaaL4
namespace Go.Proofs.Ytabojlbodjfphaa
open Go.RowKit Go.Shelf
theorem cell_new (X : World) (c : Array Value) (T : TypeId) (j : Nat) : (X.alloc (.cells c T)).cell? ⟨X.heap.size, j, none⟩ = c[j]? := by
  have h := heap_alloc_new X (.cells c T)
  unfold World.cell?
  simp only []
  rw [h]
  rfl
theorem RdS.lit (X : World) (c : Array Value) (T : TypeId) (L : List Sl) (h : c = (flatL L).toArray) (hl : L.length ≤ 9223372036854775807) (hu : ∀ j, j < L.length → us L j < 256) : RdS (X.alloc (.cells c T)) (some ⟨X.heap.size, 0, none⟩) L :=
  ⟨hl, fun j hj => ⟨hu j hj, _, 0, rfl, by simp, by rw [Nat.zero_add, cell_new, h]; simpa using (flatL_get L j hj).1, by rw [Nat.zero_add, cell_new, h]; simpa using (flatL_get L j hj).2⟩⟩
theorem RdI.lit (X : World) (c : Array Value) (T : TypeId) (l : List Int) (h : c = (IV l).toArray) (hl : l.length ≤ 9223372036854775807) : RdI (X.alloc (.cells c T)) (some ⟨X.heap.size, 0, none⟩) l :=
  ⟨hl, fun j hj => ⟨_, 0, rfl, by simp, by rw [Nat.zero_add, cell_new, h]; simp [IV, hj]⟩⟩
theorem ok3 : ∀ j : Fin 3, erK [(3, 255), (4, 1), (9, 1)] j.1 = 0 := by decide +kernel
theorem us3 : ∀ j : Fin 3, us [(3, 255), (4, 1), (9, 1)] j.1 < 256 := by decide +kernel
theorem first3 (X : World) : Calls Try.prog 28 #[.slice (some ⟨X.heap.size, 0, none⟩) 3 3] (X.alloc (.cells #[.int .i64 3, .int .u8 255, .int .i64 4, .int .u8 1, .int .i64 9, .int .u8 1] 23)) fun e w' => e = .returned (.tuple #[.int .i64 1, .int .i64 0]) ∧ Ev X w' := by
  have hr := RdS.lit X #[.int .i64 3, .int .u8 255, .int .i64 4, .int .u8 1, .int .i64 9, .int .u8 1] 23 [(3, 255), (4, 1), (9, 1)] rfl (by simp) (fun j hj => us3 ⟨j, hj⟩)
  have h := First_ok _ 3 _ _ hr (by simp) (fun j hj => ok3 ⟨j, hj⟩) 1 (.inr ⟨1, by simp, rfl, by decide, fun j hj => by (obtain rfl : j = 0 := (by omega)); rfl⟩)
  exact h.mono fun e w' ⟨a, b⟩ => ⟨a, ((Ev.refl X).alloc _).step b⟩
theorem ok1 : ∀ j : Fin 1, erK [(3, 255)] j.1 = 0 := by decide +kernel
theorem us1 : ∀ j : Fin 1, us [(3, 255)] j.1 < 256 := by decide +kernel
theorem first1 (X : World) : Calls Try.prog 28 #[.slice (some ⟨X.heap.size, 0, none⟩) 1 1] (X.alloc (.cells #[.int .i64 3, .int .u8 255] 23)) fun e w' => e = .returned (.tuple #[.int .i64 (-1), .int .i64 0]) ∧ Ev X w' := by
  have hr := RdS.lit X #[.int .i64 3, .int .u8 255] 23 [(3, 255)] rfl (by simp) (fun j hj => us1 ⟨j, hj⟩)
  have h := First_ok _ 1 _ _ hr (by simp) (fun j hj => ok1 ⟨j, hj⟩) (-1) (.inl ⟨rfl, fun j hj => by (obtain rfl : j = 0 := (by simpa using hj)); rfl⟩)
  exact h.mono fun e w' ⟨a, b⟩ => ⟨a, ((Ev.refl X).alloc _).step b⟩
theorem first0 (X : World) : Calls Try.prog 28 #[.slice none 0 0] X fun e w' => e = .returned (.tuple #[.int .i64 (-1), .int .i64 0]) ∧ Ev X w' :=
  First_ok none 0 [] X ⟨by simp, fun j hj => by simp at hj⟩ (by simp) (fun j hj => by simp at hj) (-1) (.inl ⟨rfl, fun j hj => by simp at hj⟩)
theorem us2 : ∀ j : Fin 2, us [(3, 255), (3, 255)] j.1 < 256 := by decide +kernel
theorem check2 (X : World) : Calls Try.prog 26 #[.slice (some ⟨X.heap.size, 0, none⟩) 2 2] (X.alloc (.cells #[.int .i64 3, .int .u8 255, .int .i64 3, .int .u8 255] 23)) fun e w' => e = .returned (.tuple #[.int .i64 8, .int .i64 1]) ∧ Ev X w' := by
  have hr := RdS.lit X #[.int .i64 3, .int .u8 255, .int .i64 3, .int .u8 255] 23 [(3, 255), (3, 255)] rfl (by simp) (fun j hj => us2 ⟨j, hj⟩)
  have h := clist_any _ 2 1 _ _ hr (by simp) (fun j hj => by (obtain rfl : j = 0 := (by omega)); decide +kernel) 8 (.inr ⟨by simp, by decide +kernel, by decide⟩)
  exact h.mono fun e w' ⟨a, b⟩ => ⟨a, ((Ev.refl X).alloc _).step b⟩
theorem us4 : ∀ j : Fin 2, us [(4, 0), (256, 255)] j.1 < 256 := by decide +kernel
theorem check4 (X : World) : Calls Try.prog 26 #[.slice (some ⟨X.heap.size, 0, none⟩) 2 2] (X.alloc (.cells #[.int .i64 4, .int .u8 0, .int .i64 256, .int .u8 255] 23)) fun e w' => e = .returned (.tuple #[.int .i64 9, .int .i64 0]) ∧ Ev X w' := by
  have hr := RdS.lit X #[.int .i64 4, .int .u8 0, .int .i64 256, .int .u8 255] 23 [(4, 0), (256, 255)] rfl (by simp) (fun j hj => us4 ⟨j, hj⟩)
  have h := clist_any _ 2 0 _ _ hr (by simp) (fun j hj => by omega) 9 (.inr ⟨by simp, by decide +kernel, by decide⟩)
  exact h.mono fun e w' ⟨a, b⟩ => ⟨a, ((Ev.refl X).alloc _).step b⟩
theorem obs129 : obs 5 129 = [40, 47] := by decide +kernel
theorem same2 (w4 X : World) (A : Option Addr) (c : Nat) (hr : RdI w4 A [40, 47]) (e : Ev w4 X) :
    Calls Try.prog 22 #[.slice A 2 c, .slice (some ⟨X.heap.size, 0, none⟩) 2 2] (X.alloc (.cells #[.int .i64 40, .int .i64 47] 3)) fun e w' => e = .returned (.bool true) ∧ Ev X w' := by
  have h := sameI A (some ⟨X.heap.size, 0, none⟩) c 2 [40, 47] _ (hr.ev (e.alloc _)) (RdI.lit X #[.int .i64 40, .int .i64 47] 3 _ rfl (by simp))
  exact h.mono fun _ _ hh => ⟨hh.1, ((Ev.refl X).alloc _).step hh.2⟩
set_option maxRecDepth 100000 in
set_option maxHeartbeats 4000000 in
theorem known_law (w : World) : Calls Try.prog 6 #[] w fun e w' => e = .returned (.bool true) ∧ Ev w w' := by
  have S0 : Hid (∀ W, Calls Try.prog 33 #[.int .u8 0] W fun e w' => e = .returned (sl 5 0) ∧ Ev W w') := Lib.hid fun W => sl_any 0 W
  have S1 : Hid (∀ W, Calls Try.prog 33 #[.int .u8 1] W fun e w' => e = .returned (sl 5 1) ∧ Ev W w') := Lib.hid fun W => sl_any 1 W
  have S255 : Hid (∀ W, Calls Try.prog 33 #[.int .u8 255] W fun e w' => e = .returned (sl 5 255) ∧ Ev W w') := Lib.hid fun W => sl_any 255 W
  have S5 : Hid (∀ W, Calls Try.prog 33 #[.int .u8 5] W fun e w' => e = .returned (sl 5 5) ∧ Ev W w') := Lib.hid fun W => sl_any 5 W
  have S129 : Hid (∀ W, Calls Try.prog 33 #[.int .u8 129] W fun e w' => e = .returned (sl 5 129) ∧ Ev W w') := Lib.hid fun W => sl_any 129 W
  have T0 : Hid (∀ W, Calls Try.prog 32 #[sl 5 0, .int .i64 1] W fun e w' => e = .returned (.bool true) ∧ Ev W w') := Lib.hid fun W => by have h := state_any 5 1 0 W; exact h
  have T1 : Hid (∀ W, Calls Try.prog 32 #[sl 5 1, .int .i64 2] W fun e w' => e = .returned (.bool true) ∧ Ev W w') := Lib.hid fun W => by have h := state_any 5 2 1 W; exact h
  have AL : Hid (∀ W, Calls Try.prog 16 #[sl 5 255] W fun e w' => e = .returned (.tuple #[sl 0 0, .int .i64 0, .int .i64 5]) ∧ Ev W w') := Lib.hid fun W => by have h := alloc_any 5 255 W (by omega); exact h
  have F41 : Hid (∀ W, Calls Try.prog 18 #[sl 5 5, .int .i64 41] W fun e w' => e = .returned (.tuple #[sl 0 0, .int .i64 6]) ∧ Ev W w') := Lib.hid fun W => by have h := free_any 5 5 41 W (by omega); rwa [show frV 5 5 41 = .tuple #[sl 0 0, .int .i64 6] from by kernel_rfl] at h
  have F34 : Hid (∀ W, Calls Try.prog 18 #[sl 5 5, .int .i64 34] W fun e w' => e = .returned (.tuple #[sl 0 0, .int .i64 6]) ∧ Ev W w') := Lib.hid fun W => by have h := free_any 5 5 34 W (by omega); rwa [show frV 5 5 34 = .tuple #[sl 0 0, .int .i64 6] from by kernel_rfl] at h
  have F2048 : Hid (∀ W, Calls Try.prog 18 #[sl 5 5, .int .i64 2048] W fun e w' => e = .returned (.tuple #[sl 0 0, .int .i64 2]) ∧ Ev W w') := Lib.hid fun W => by have h := free_any 5 5 2048 W (by omega); rwa [show frV 5 5 2048 = .tuple #[sl 0 0, .int .i64 2] from by kernel_rfl] at h
  have OB : Hid (∀ W, Calls Try.prog 20 #[sl 5 129] W fun e w' => ∃ A cap, e = .returned (.tuple #[.slice A 2 cap, .int .i64 0]) ∧ RdI w' A [40, 47] ∧ Ev W w') := Lib.hid fun W => by have h := objectsR 5 129 W (by omega); rw [obs129] at h; exact h
  have SP : Hid (∀ W, Calls Try.prog 24 #[.int .i64 47] W fun e w' => e = .returned (.tuple #[.int .i64 5, .int .i64 7, .int .i64 0]) ∧ W = w') := Lib.hid fun W => by have h := split_any 47 W; exact h
  have C3 := Lib.hid first3
  have C1 := Lib.hid first1
  have C0 := Lib.hid first0
  have K2 := Lib.hid check2
  have K4 := Lib.hid check4
  have AW := Lib.hid awake_any
  go_enter Try.func6, Try.ntmps6
  go_wp2_with fail
  refine (S0.out _).mono ?_
  rintro e w1 ⟨rfl, hev⟩
  have HE := Lib.hid (hev)
  clear hev
  go_wp2_with fail
  refine (T0.out _).mono ?_
  rintro e w2 ⟨rfl, hev⟩
  have HE := Lib.hid ((HE.out.step hev))
  clear hev
  go_wp2_with fail
  refine (S1.out _).mono ?_
  rintro e w3 ⟨rfl, hev⟩
  have HE := Lib.hid ((HE.out.step hev))
  clear hev
  go_wp2_with fail
  refine (T1.out _).mono ?_
  rintro e w4 ⟨rfl, hev⟩
  have HE := Lib.hid ((HE.out.step hev))
  clear hev
  go_wp2_with fail
  refine (S255.out _).mono ?_
  rintro e w5 ⟨rfl, hev⟩
  have HE := Lib.hid ((HE.out.step hev))
  clear hev
  go_wp2_with fail
  refine (AL.out _).mono ?_
  rintro e w6 ⟨rfl, hev⟩
  have HE := Lib.hid ((HE.out.step hev).alloc (slO 0 0))
  clear hev
  go_wp2_with fail
  refine (S5.out _).mono ?_
  rintro e w7 ⟨rfl, hev⟩
  have HE := Lib.hid ((HE.out.step hev))
  clear hev
  go_wp2_with fail
  refine (F41.out _).mono ?_
  rintro e w8 ⟨rfl, hev⟩
  have HE := Lib.hid ((HE.out.step hev).alloc (slO 0 0))
  clear hev
  go_wp2_with fail
  refine (S5.out _).mono ?_
  rintro e w9 ⟨rfl, hev⟩
  have HE := Lib.hid ((HE.out.step hev))
  clear hev
  go_wp2_with fail
  refine (F34.out _).mono ?_
  rintro e w10 ⟨rfl, hev⟩
  have HE := Lib.hid ((HE.out.step hev).alloc (slO 0 0))
  clear hev
  go_wp2_with fail
  refine (S5.out _).mono ?_
  rintro e w11 ⟨rfl, hev⟩
  have HE := Lib.hid ((HE.out.step hev))
  clear hev
  go_wp2_with fail
  refine (F2048.out _).mono ?_
  rintro e w12 ⟨rfl, hev⟩
  have HE := Lib.hid ((HE.out.step hev).alloc (slO 0 0))
  clear hev
  go_wp2_with fail
  refine (S129.out _).mono ?_
  rintro e w13 ⟨rfl, hev⟩
  have HE := Lib.hid ((HE.out.step hev))
  clear hev
  go_wp2_with fail
  refine (OB.out _).mono ?_
  rintro e w14 ⟨A, cap, rfl, hr, hev⟩
  have HE := Lib.hid (HE.out.step hev)
  have SM := Lib.hid fun X h => same2 w14 X A cap hr h
  clear hev hr
  go_wp2_with fail
  refine (SP.out _).mono ?_
  rintro e wx ⟨rfl, rfl⟩
  go_wp2_with fail
  refine (SM.out _ (Ev.refl _)).mono ?_
  rintro e wy ⟨rfl, hev⟩
  have HE := Lib.hid ((HE.out.step hev).alloc (slO 3 255))
  have HB := Lib.hid (BS.new wy 3 255)
  have hlt : wy.heap.size < (wy.alloc (slO 3 255)).heap.size := by simp
  clear hev
  go_wp2_with fail
  obtain ⟨W, hW⟩ : ∃ W, W = wy.alloc (slO 3 255) := ⟨_, rfl⟩
  rw [← hW] at HE HB
  have e : wy.heap.size + 1 = W.heap.size := by rw [hW]; simp
  have hW' : W = wy.alloc (.cells #[.int .i64 3, .int .u8 255] 23) := hW
  rw [← hW', e]
  clear hW hW' e hlt
  refine (C3.out W).mono ?_
  rintro e v1 ⟨rfl, hev⟩
  have HE := Lib.hid (HE.out.step hev)
  have HB := Lib.hid (HB.out.ev hev)
  clear hev
  obtain ⟨l1, c1, c2, -, -⟩ := HB.out
  go_wp2_with fail
  refine (C1.out v1).mono ?_
  rintro e v2 ⟨rfl, hev⟩
  have HE := Lib.hid (HE.out.step hev)
  have HB := Lib.hid (HB.out.ev hev)
  clear hev l1 c1 c2
  go_wp2_with fail
  refine (C0.out v2).mono ?_
  rintro e v3 ⟨rfl, hev⟩
  have HE := Lib.hid (HE.out.step hev)
  have HB := Lib.hid (HB.out.ev hev)
  clear hev
  obtain ⟨l1, c1, c2, -, -⟩ := HB.out
  go_wp2_with fail
  refine (K2.out v3).mono ?_
  rintro e v4 ⟨rfl, hev⟩
  have HE := Lib.hid (HE.out.step hev)
  clear hev l1 c1 c2
  go_wp2_with fail
  refine (K4.out v4).mono ?_
  rintro e v5 ⟨rfl, hev⟩
  have HE := Lib.hid (HE.out.step hev)
  clear hev
  go_wp2_with fail
  refine (AW.out v5).mono ?_
  rintro e v6 ⟨rfl, hev⟩
  have hE := HE.out.step hev
  clear hev
  go_wp2_with fail
  go_ret
  exact ⟨rfl, hE⟩
end Go.Proofs.Ytabojlbodjfphaa
