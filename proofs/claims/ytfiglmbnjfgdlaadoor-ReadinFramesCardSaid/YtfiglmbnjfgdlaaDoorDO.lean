import Derived.Test.YtfiglmbnjfgdlaaDoorDN
namespace Go.Proofs.YtfiglmbnjfgdlaaDoor
open Go.RowKit
theorem refused_any (s f w e n : Int) (W : World) (hT : Tab W) : Calls Tryd.prog 30 #[rd s f w, .int .i64 e, .int .i64 n] W fun x W' => x = .returned (.int .i64 (stE s f w e n)) ∧ Ev W W' := by
  have HE0 : Hid (Ev W (W.alloc (rdO s f w))) := Lib.hid (al1 _ _)
  have CS := Lib.hid (step_any s f w e n (W.alloc (rdO s f w)) (hT.ev HE0.out))
  unfold StepQ at CS
  generalize stE s f w e n = er at *
  generalize stR s f w e n = R at *
  obtain ⟨s1, f1, w1', L1, m1⟩ := R
  simp only [] at CS
  clear hT
  go_enter Tryd.func30, Tryd.ntmps30
  go_wp2_with fail
  refine CS.out.mono ?_
  rintro e w5 ⟨A5, c5, rfl, hr5, hev⟩
  have HE5 : Hid (Ev W (w5.alloc (rdO s1 f1 w1'))) := Lib.hid ((HE0.out.step hev).alloc _)
  clear hr5 hev
  go_wp2_with fail
  go_ret
  exact ⟨rfl, HE5.out⟩
theorem rd1 (x : Int) (X : World) : RdI (X.alloc (.cells #[.int .i64 x] 3)) (some ⟨X.heap.size, 0, none⟩) [x] := RdI.lit X #[.int .i64 x] 3 [x] rfl (by simp)
theorem rdA (x : Int) {X W1 : World} (h : Ev (X.alloc (.cells #[.int .i64 x] 3)) W1) : RdI W1 (some ⟨X.heap.size, 0, none⟩) [x] := (rd1 x X).ev h
theorem rdB (x : Int) {X W1 : World} (h : Ev ((X.alloc (.cells #[.int .i64 x] 3)).drew) W1) : RdI W1 (some ⟨X.heap.size, 0, none⟩) [x] := (rd1 x X).ev (Ev.step (Ev.drew (Ev.refl _)) h)
theorem rdC (x : Int) {X W1 W2 : World} (h : Ev (X.alloc (.cells #[.int .i64 x] 3)) W1) (h2 : Ev W1 W2) : RdI W2 (some ⟨X.heap.size, 0, none⟩) [x] := (rd1 x X).ev (h.step h2)
theorem rdD (x : Int) {X W1 W2 : World} (h : Ev ((X.alloc (.cells #[.int .i64 x] 3)).drew) W1) (h2 : Ev W1 W2) : RdI W2 (some ⟨X.heap.size, 0, none⟩) [x] := (rd1 x X).ev (Ev.step (Ev.step (Ev.drew (Ev.refl _)) h) h2)
theorem res_eq {R : Res} {a b c : Int} {l : List Int} {m : Int} (h : R.s = a ∧ R.f = b ∧ R.w = c ∧ R.l = l ∧ R.m = m) : R = ⟨a, b, c, l, m⟩ := by
  obtain ⟨rfl, rfl, rfl, rfl, rfl⟩ := h
  rfl
theorem ndK (s f w : Int) (n er : Int) (h1 : ndV s f w = n) (h2 : ck s f w = er) (W : World) : Calls Tryd.prog 17 #[rd s f w] W fun x w' => x = .returned (.tuple #[.int .i64 n, .int .i64 er]) ∧ Ev W w' := by
  have h := needs_any s f w W
  rwa [h1, h2] at h
theorem seK (s f w : Int) (L : List Int) (er : Int) (h1 : seL s f w = L) (h2 : seE s f w = er) (W : World) : Calls Tryd.prog 26 #[rd s f w] W fun x w' => ListQ W L er x w' := by
  have h := shortest_any s f w W
  rwa [h1, h2] at h
theorem rfK (s f w e n er : Int) (h : stE s f w e n = er) (W : World) (hT : Tab W) : Calls Tryd.prog 30 #[rd s f w, .int .i64 e, .int .i64 n] W fun x W' => x = .returned (.int .i64 er) ∧ Ev W W' := by
  have h2 := refused_any s f w e n W hT
  rwa [h] at h2
end Go.Proofs.YtfiglmbnjfgdlaaDoor
