import Derived.Test.YtabojlbodjfphaaM3
namespace Go.Proofs.Ytabojlbodjfphaa
open Go.RowKit Go.Shelf
set_option maxRecDepth 100000 in
set_option maxHeartbeats 1000000 in
theorem lists_walk (A : Option Addr) (c len : Nat) (e n r g t h : Int) (w : World) (hl : len ≤ 60)
    (H26 : ∀ W, Ev w W → Calls Try.prog 26 #[.slice A len c] W fun x w' => x = .returned (.tuple #[.int .i64 e, .int .i64 n]) ∧ Ev W w')
    (H27 : ∀ W, Ev w W → Calls Try.prog 27 #[.slice A len c] W fun x w' => x = .returned (.tuple #[.int .i64 e, .int .i64 n]) ∧ Ev W w')
    (H28 : ∀ W, Ev w W → Calls Try.prog 28 #[.slice A len c] W fun x w' => x = .returned (.tuple #[.int .i64 r, .int .i64 g]) ∧ Ev W w')
    (H29 : ∀ W, Ev w W → Calls Try.prog 29 #[.slice A len c] W fun x w' => x = .returned (.tuple #[.int .i64 r, .int .i64 g]) ∧ Ev W w')
    (H30 : ∀ W, Ev w W → Calls Try.prog 30 #[.slice A len c] W fun x w' => x = .returned (.tuple #[.int .i64 t, .int .i64 h]) ∧ Ev W w')
    (H31 : ∀ W, Ev w W → Calls Try.prog 31 #[.slice A len c] W fun x w' => x = .returned (.tuple #[.int .i64 t, .int .i64 h]) ∧ Ev W w') :
    Calls Try.prog 5 #[.slice A len c] w fun x w' => x = .returned (.bool true) ∧ Ev w w' := by
  have K26 := Lib.hid H26
  have K27 := Lib.hid H27
  have K28 := Lib.hid H28
  have K29 := Lib.hid H29
  have K30 := Lib.hid H30
  have K31 := Lib.hid H31
  have AW := Lib.hid awake_any
  have hl' : (len : Int) ≤ 60 := by omega
  have e1 : (e != e) = false := by simp
  have e2 : (n != n) = false := by simp
  have e3 : (r != r) = false := by simp
  have e4 : (g != g) = false := by simp
  have e5 : (t == t) = true := by simp
  have e6 : (h == h) = true := by simp
  clear H26 H27 H28 H29 H30 H31
  go_enter Try.func5, Try.ntmps5
  go_wp2_with fail
  refine (K26.out _ (Ev.refl w)).mono ?_
  rintro e w1 ⟨rfl, hev⟩
  have HE := Lib.hid hev
  clear hev
  go_wp2_with fail
  refine (K27.out _ HE.out).mono ?_
  rintro e w2 ⟨rfl, hev⟩
  have HE := Lib.hid (HE.out.step hev)
  clear hev
  go_wp2_with fail
  refine (K28.out _ HE.out).mono ?_
  rintro e w3 ⟨rfl, hev⟩
  have HE := Lib.hid (HE.out.step hev)
  clear hev
  go_wp2_with fail
  refine (K29.out _ HE.out).mono ?_
  rintro e w4 ⟨rfl, hev⟩
  have HE := Lib.hid (HE.out.step hev)
  clear hev
  go_wp2_with fail
  refine (K30.out _ HE.out).mono ?_
  rintro e w5 ⟨rfl, hev⟩
  have HE := Lib.hid (HE.out.step hev)
  clear hev
  go_wp2_with fail
  refine (K31.out _ HE.out).mono ?_
  rintro e w6 ⟨rfl, hev⟩
  have HE := Lib.hid (HE.out.step hev)
  clear hev
  go_wp2_with fail
  refine (AW.out _).mono ?_
  rintro e w7 ⟨rfl, hev⟩
  have hE := HE.out.step hev
  go_wp2_with fail
  go_ret
  exact ⟨rfl, hE⟩
theorem lists_long (A : Option Addr) (c len : Nat) (w : World) (hl : 60 < len) : Calls Try.prog 5 #[.slice A len c] w fun x w' => x = .returned (.bool true) ∧ Ev w w' := by
  have AW := Lib.hid awake_any
  have hl' : 60 < (len : Int) := by omega
  go_enter Try.func5, Try.ntmps5
  go_wp2_with fail
  refine (AW.out _).mono ?_
  rintro e w7 ⟨rfl, hev⟩
  go_wp2_with fail
  go_ret
  exact ⟨rfl, hev⟩
theorem first_free (L : List Sl) : ∃ R : Int, (R = -1 ∧ ∀ j, j < L.length → us L j = 255) ∨ ∃ m, m < L.length ∧ R = (m : Int) ∧ us L m ≠ 255 ∧ ∀ j, j < m → us L j = 255 := by
  rcases first_bad (fun j => if us L j = 255 then 0 else 1) L.length with h | ⟨k, h1, h2, h3⟩
  · refine ⟨-1, .inl ⟨rfl, fun j hj => ?_⟩⟩
    have := h j hj
    split at this <;> first | assumption | omega
  · refine ⟨(k : Int), .inr ⟨k, h1, rfl, fun e => h2 (by simp [e]), fun j hj => ?_⟩⟩
    have := h3 j hj
    split at this <;> first | assumption | omega
theorem lists_law (A : Option Addr) (c len : Nat) (w : World) (hr : len ≤ 4000000000 → ∃ L : List Sl, L.length = len ∧ RdS w A L) : Calls Try.prog 5 #[.slice A len c] w fun x w' => x = .returned (.bool true) ∧ Ev w w' := by
  rcases Nat.lt_or_ge 60 len with hl | hl
  · exact lists_long A c len w hl
  · obtain ⟨L, rfl, hR⟩ := hr (by omega)
    rcases first_bad (erK L) L.length with hz | ⟨m, h1, h2, h3⟩
    · obtain ⟨R, hRR⟩ := first_free L
      exact lists_walk A c L.length 0 0 R 0 _ 0 w hl
        (fun W e => by have h := clist_any A c L.length L W (hR.ev e) (Nat.le_refl _) hz 0 (.inl ⟨rfl, rfl⟩); exact h)
        (fun W e => by have h := rclist_any A c L.length L W (hR.ev e) (Nat.le_refl _) hz 0 (.inl ⟨rfl, rfl⟩); exact h)
        (fun W e => First_ok A c L W (hR.ev e) hl hz R hRR)
        (fun W e => rFirst_ok A c L W (hR.ev e) hl hz R hRR)
        (fun W e => Total_ok A c L W (hR.ev e) hl hz)
        (fun W e => rTotal_ok A c L W (hR.ev e) hl hz)
    · exact lists_walk A c L.length (erK L m) _ 0 (erK L m) 0 (erK L m) w hl
        (fun W e => clist_any A c m L W (hR.ev e) (by omega) h3 _ (.inr ⟨h1, rfl, h2⟩))
        (fun W e => rclist_any A c m L W (hR.ev e) (by omega) h3 _ (.inr ⟨h1, rfl, h2⟩))
        (fun W e => First_err A c m L W (hR.ev e) h1 h3 _ ⟨rfl, h2⟩)
        (fun W e => rFirst_err A c m L W (hR.ev e) h1 h3 _ ⟨rfl, h2⟩)
        (fun W e => Total_err A c m L W (hR.ev e) h1 h3 _ ⟨rfl, h2⟩)
        (fun W e => rTotal_err A c m L W (hR.ev e) h1 h3 _ ⟨rfl, h2⟩)
end Go.Proofs.Ytabojlbodjfphaa
