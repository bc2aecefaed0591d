import Derived.Test.YtnlbkaabhnkkfaaPF
namespace Go.Proofs.Ytnlbkaabhnkkfaa
open Go.RowKit
theorem cell_new (X : World) (c : Array Value) (T : TypeId) (j : Nat) : (X.alloc (.cells c T)).cell? ⟨X.heap.size, j, none⟩ = c[j]? := by
  have h := heap_alloc_new X (.cells c T)
  unfold World.cell?
  simp only []
  rw [h]
  rfl
theorem RdI.lit (X : World) (c : Array Value) (T : TypeId) (l : List Int) (h : c = (IV l).toArray) (hl : l.length ≤ 9223372036854775807) : RdI (X.alloc (.cells c T)) (some ⟨X.heap.size, 0, none⟩) l :=
  ⟨hl, fun j hj => ⟨_, 0, rfl, by simp, by rw [Nat.zero_add, cell_new, h]; unfold IV; simp [hj]⟩⟩
theorem RdB.lit (X : World) (c : Array Value) (T : TypeId) (l : List Bool) (h : c = (l.map Value.bool).toArray) (hl : l.length ≤ 9223372036854775807) : RdB (X.alloc (.cells c T)) (some ⟨X.heap.size, 0, none⟩) l :=
  ⟨hl, fun j hj => ⟨_, 0, rfl, by simp, by rw [Nat.zero_add, cell_new, h]; simp [hj]⟩⟩
theorem flatS_get (L : List (Int × Int)) : ∀ j, j < L.length → (flatS L)[j * 2]? = some (.int .i64 (L.getD j (0, 0)).1) ∧ (flatS L)[j * 2 + 1]? = some (.int .i64 (L.getD j (0, 0)).2) := by
  induction L with
  | nil => intro j hj; simp at hj
  | cons x L ih =>
    obtain ⟨f, t⟩ := x
    intro j hj
    rcases j with _ | j
    · simp [flatS]
    · have := ih j (by simpa using hj)
      rw [show (j + 1) * 2 = j * 2 + 2 from by omega]
      simpa [flatS] using this
theorem RdP.lit (X : World) (c : Array Value) (T : TypeId) (l : List (Int × Int)) (h : c = (flatS l).toArray) (hl : l.length ≤ 9223372036854775807) : RdP (X.alloc (.cells c T)) (some ⟨X.heap.size, 0, none⟩) l :=
  ⟨hl, fun j hj => ⟨_, 0, rfl, by simp, by rw [Nat.zero_add, cell_new, h]; simpa using (flatS_get l j hj).1, by rw [Nat.zero_add, cell_new, h]; simpa using (flatS_get l j hj).2⟩⟩
theorem runs7 (w0 X W : World) (e : Ev w0 X) (hW : W = X.alloc (.cells #[.int .i64 9, .int .i64 4, .int .i64 6, .int .i64 8, .int .i64 9, .int .i64 8, .int .i64 4] 3)) :
    Calls Try.prog 19 #[mk 2 5 9, .slice (some ⟨X.heap.size, 0, none⟩) 7 7] W fun e w' => ∃ A c, e = .returned (.tuple #[.slice A 7 c, .int .i64 0]) ∧ RdB w' A [false, true, true, true, false, false, true] ∧ Ev w0 w' := by
  subst hW
  have h := Run_any 2 5 9 (some ⟨X.heap.size, 0, none⟩) 7 [9, 4, 6, 8, 9, 8, 4] _ (RdI.lit X #[.int .i64 9, .int .i64 4, .int .i64 6, .int .i64 8, .int .i64 9, .int .i64 8, .int .i64 4] 3 [9, 4, 6, 8, 9, 8, 4] rfl (by simp))
  refine h.mono ?_
  rintro e' w' ⟨v, rfl, ho, hev⟩
  have e1 : asE 2 5 9 [9, 4, 6, 8, 9, 8, 4] = 0 := by decide
  have e2 : rnV 2 5 9 [9, 4, 6, 8, 9, 8, 4] = [false, true, true, true, false, false, true] := by decide
  rw [e2] at ho
  obtain ⟨A, c, rfl, hr⟩ := RdB.of_own ho (by simp)
  exact ⟨A, c, by rw [e1]; rfl, hr, (e.alloc _).step hev⟩
theorem same7 (w0 w4 X W : World) (A : Option Addr) (c : Nat) (hr : RdB w4 A [false, true, true, true, false, false, true]) (e0 : Ev w0 w4) (e : Ev w4 X) (hW : W = X.alloc (.cells #[.bool false, .bool true, .bool true, .bool true, .bool false, .bool false, .bool true] 4)) :
    Calls Try.prog 23 #[.slice A 7 c, .slice (some ⟨X.heap.size, 0, none⟩) 7 7] W fun e w' => e = .returned (.bool true) ∧ Ev w0 w' := by
  subst hW
  have h := sameB A (some ⟨X.heap.size, 0, none⟩) c 7 [false, true, true, true, false, false, true] _ (hr.ev (e.alloc _)) (RdB.lit X #[.bool false, .bool true, .bool true, .bool true, .bool false, .bool false, .bool true] 4 _ rfl (by simp))
  exact h.mono fun _ _ hh => ⟨hh.1, (e0.step (e.alloc _)).step hh.2⟩
set_option maxHeartbeats 2000000 in
theorem awake_any (w : World) : Calls Try.prog 17 #[] w fun e w' => e = .returned (.bool true) ∧ Ev w w' := by
  have HM := Lib.hid marks_any
  have HR := Lib.hid (runs7 w)
  have HL1 := Lib.hid fun W => lv_any 9 0 W (by decide) (by decide)
  have HL2 := Lib.hid fun W => lv_any 3 2 W (by decide) (by decide)
  have HN := Lib.hid fun W => nx_any true 8 true W (by decide) (by decide)
  go_enter Try.func17, Try.ntmps17
  go_wp2_with fail
  refine (HM.out _).mono ?_
  rintro e w1 ⟨rfl, hev⟩
  go_wp2_with fail
  refine (HR.out _ _ hev rfl).mono ?_
  clear hev
  rintro e w2 ⟨A, c, rfl, hr, hev⟩
  have HS := Lib.hid fun X W e => same7 w w2 X W A c hr hev e
  clear hr hev
  go_wp2_with fail
  refine (HL1.out _).mono ?_
  rintro e w3 ⟨rfl, hev⟩
  go_wp2_with fail
  refine (HL2.out _).mono ?_
  rintro e w4 ⟨rfl, hev2⟩
  have h4 := hev.step hev2
  clear hev hev2
  go_wp2_with fail
  refine (HN.out _).mono ?_
  rintro e w5 ⟨rfl, hev⟩
  have h5 := h4.step hev
  clear hev h4
  go_wp2_with fail
  refine (HS.out _ _ h5 rfl).mono ?_
  rintro e w6 ⟨rfl, hev⟩
  go_wp2_with fail
  go_ret
  exact ⟨rfl, hev⟩
end Go.Proofs.Ytnlbkaabhnkkfaa
