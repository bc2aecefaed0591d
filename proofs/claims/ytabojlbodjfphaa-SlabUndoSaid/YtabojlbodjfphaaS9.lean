import Derived.Test.YtabojlbodjfphaaS7
import Derived.Test.YtabojlbodjfphaaS8
import Derived.Deep.RegionHeld3
namespace Go.Proofs.Ytabojlbodjfphaa
open Go.RowKit Go.Shelf
theorem evS {P : Program} {f : FuncId} {args : Array Value} {w0 W : World} {v : Value} (h : Ev w0 W) (c : Calls P f args W fun e w' => e = .returned v ∧ Ev W w') :
    Calls P f args W fun e w' => e = .returned v ∧ Ev w0 w' := c.mono fun _ _ hh => ⟨hh.1, h.step hh.2⟩
theorem al5 : alV 5 5 = .tuple #[sl 5 7, .int .i64 41, .int .i64 0] := by kernel_rfl
theorem fr5 : frV 5 5 42 = .tuple #[sl 5 1, .int .i64 0] := by kernel_rfl
set_option maxRecDepth 100000 in
set_option maxHeartbeats 2000000 in
theorem awake_any (w : World) : Calls Try.prog 23 #[] w fun e w' => e = .returned (.bool true) ∧ Ev w w' := by
  have HS0 : Hid (∀ (u : Nat) W, Calls Try.prog 33 #[.int .u8 (u : Int)] W fun e w' => e = .returned (sl 5 u) ∧ Ev W w') := Lib.hid fun u W => sl_any u W
  have HS5 : Hid (∀ W, Calls Try.prog 33 #[.int .u8 5] W fun e w' => e = .returned (sl 5 5) ∧ Ev W w') := Lib.hid fun W => sl_any 5 W
  have HA : Hid (∀ W, Calls Try.prog 16 #[sl 5 5] W fun e w' => e = .returned (.tuple #[sl 5 7, .int .i64 41, .int .i64 0]) ∧ Ev W w') := Lib.hid fun W => by have := alloc_any 5 5 W (by omega); rwa [al5] at this
  have HF : Hid (∀ W, Calls Try.prog 18 #[sl 5 5, .int .i64 42] W fun e w' => e = .returned (.tuple #[sl 5 1, .int .i64 0]) ∧ Ev W w') := Lib.hid fun W => by have := free_any 5 5 42 W (by omega); rwa [fr5] at this
  go_enter Try.func23, Try.ntmps23
  go_wp2_with fail
  refine (HS5.out _).mono ?_
  rintro e w1 ⟨rfl, hev1⟩
  go_wp2_with fail
  refine (HA.out _).mono ?_
  rintro e w2 ⟨rfl, hev2⟩
  have HE2 := Lib.hid ((hev1.step hev2).alloc (slO 5 7))
  have HB2 := Lib.hid (BS.new w2 5 7)
  clear hev1 hev2
  go_wp2_with fail
  refine (HS5.out _).mono ?_
  rintro e w3 ⟨rfl, hev3⟩
  have HE3 := Lib.hid (HE2.out.step hev3)
  have HB3 := Lib.hid (HB2.out.ev hev3)
  clear hev3
  go_wp2_with fail
  refine (HF.out _).mono ?_
  rintro e w4 ⟨rfl, hev4⟩
  have HE4 := Lib.hid ((HE3.out.step hev4).alloc (slO 5 1))
  have HB4 := Lib.hid ((HB3.out.ev hev4).ev ((Ev.refl _).alloc (slO 5 1)))
  have HB5 := Lib.hid (BS.new w4 5 1)
  clear hev4
  go_wp2_with fail
  obtain ⟨W, hW⟩ : ∃ W, W = w4.alloc (.cells #[.int .i64 5, .int .u8 1] 23) := ⟨_, rfl⟩
  have HBa : BS W w2.heap.size 5 7 := by rw [hW]; exact HB4.out
  have HBb : BS W w4.heap.size 5 1 := by rw [hW]; exact HB5.out
  have HEW : Ev w W := by rw [hW]; exact HE4.out
  rw [← hW]
  have HS : Hid (∀ W', Ev W W' → (((W'.cell? ⟨w2.heap.size, 0, none⟩ = some (.int .i64 5) ∧ W'.cell? ⟨w2.heap.size, 1, none⟩ = some (.int .u8 7)) ∧ (W'.cell? ⟨w4.heap.size, 0, none⟩ = some (.int .i64 5) ∧ W'.cell? ⟨w4.heap.size, 1, none⟩ = some (.int .u8 1))) ∧ Ev W W')) := Lib.hid fun W' e =>
    ⟨⟨⟨(HBa.ev e).2.1, (HBa.ev e).2.2.1⟩, ⟨(HBb.ev e).2.1, (HBb.ev e).2.2.1⟩⟩, e⟩
  have K7 : Hid (∀ W', Ev W W' → Calls Try.prog 33 #[.int .u8 7] W' fun e w' => e = .returned (sl 5 7) ∧ Ev W w') := Lib.hid fun W' e => evS e (sl_any 7 W')
  have K1 : Hid (∀ W', Ev W W' → Calls Try.prog 33 #[.int .u8 1] W' fun e w' => e = .returned (sl 5 1) ∧ Ev W w') := Lib.hid fun W' e => evS e (sl_any 1 W')
  have K255 : Hid (∀ W', Ev W W' → Calls Try.prog 33 #[.int .u8 255] W' fun e w' => e = .returned (sl 5 255) ∧ Ev W w') := Lib.hid fun W' e => evS e (sl_any 255 W')
  have KS : Hid (∀ W', Ev W W' → Calls Try.prog 32 #[sl 5 255, .int .i64 3] W' fun e w' => e = .returned (.bool true) ∧ Ev W w') := Lib.hid fun W' e => evS e (by have h := state_any 5 3 255 W'; exact h)
  have hev := Ev.refl W
  obtain ⟨⟨⟨x0, x1⟩, ⟨x2, x3⟩⟩, -⟩ := HS.out W hev
  have HEW := Lib.hid HEW
  clear HBa HBb hW HB2 HB3 HB4 HB5 HE2 HE3 HE4 HS0 HS5 HA HF
  have HEW2 := HEW
  clear HEW
  go_region_held3 (fun w' => ((w'.cell? ⟨w2.heap.size, 0, none⟩ = some (.int .i64 5) ∧ w'.cell? ⟨w2.heap.size, 1, none⟩ = some (.int .u8 7)) ∧ (w'.cell? ⟨w4.heap.size, 0, none⟩ = some (.int .i64 5) ∧ w'.cell? ⟨w4.heap.size, 1, none⟩ = some (.int .u8 1))) ∧ Ev W w')
    (first | with_reducible exact HS.out _ (by with_reducible assumption) | with_reducible exact HS.out _ (Ev.drew (by with_reducible assumption)))
    (first | (go_at_call 33; ((with_reducible refine (K7.out _ (by first | assumption | exact Ev.drew (by with_reducible assumption))).mono ?_); clear hev; rintro e w' ⟨rfl, hev⟩)) | (go_at_call 33; ((with_reducible refine (K1.out _ (by first | assumption | exact Ev.drew (by with_reducible assumption))).mono ?_); clear hev; rintro e w' ⟨rfl, hev⟩)) | (go_at_call 33; ((with_reducible refine (K255.out _ (by first | assumption | exact Ev.drew (by with_reducible assumption))).mono ?_); clear hev; rintro e w' ⟨rfl, hev⟩)) | (go_at_call 32; ((with_reducible refine (KS.out _ (by first | assumption | exact Ev.drew (by with_reducible assumption))).mono ?_); clear hev; rintro e w' ⟨rfl, hev⟩)))
  all_goals
    go_wp2_with fail
    go_ret
    exact ⟨rfl, HEW2.out.step (by assumption)⟩
end Go.Proofs.Ytabojlbodjfphaa
