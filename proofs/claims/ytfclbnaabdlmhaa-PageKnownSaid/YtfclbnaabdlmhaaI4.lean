import Derived.Test.YtfclbnaabdlmhaaI3
import Derived.Test.YtfclbnaabdlmhaaPF
namespace Go.Proofs.Ytfclbnaabdlmhaa
open Go.RowKit
theorem rdiff_rd (c d : Nat → Nat) (W0 W : World) (h : Ev W0 W) : Calls Try.prog 26 #[pg c, pg d] W fun e w' => ∃ A cap, e = .returned (.slice A (dfL c d 8).length cap) ∧ RdI w' A (dfL c d 8) ∧ Ev W0 w' ∧ Ev W w' :=
  (rdiff_any c d W).mono fun e w' ⟨v, he, ho, hev⟩ => by
    obtain ⟨A, cap, rfl, hr⟩ := RdI.of_own ho (by have := dfL_len c d 8; omega)
    exact ⟨A, cap, he, hr, h.step hev, hev⟩
set_option maxRecDepth 100000 in
set_option maxHeartbeats 8000000 in
theorem looks_law (c d : Nat → Nat) (v : Nat) (w : World) (hv : v < 18446744073709551616) : Calls Try.prog 5 #[pg c, pg d, .int .u64 (v : Int)] w fun e w' => e = .returned (.bool true) ∧ Ev w w' := by
  have HE0 : Hid (Ev w ((w.alloc (pgO c)).alloc (pgO d))) := Lib.hid (((Ev.refl w).alloc _).alloc _)
  have HC0 := Lib.hid ((BP.new w c).ev ((Ev.refl _).alloc (pgO d)))
  have HD0 := Lib.hid (BP.new1 w d (pgO c))
  go_enter Try.func5, Try.ntmps5
  go_wp2_with fail
  obtain ⟨W, hW⟩ : ∃ W, W = (w.alloc (pgO c)).alloc (pgO d) := ⟨_, rfl⟩
  have HCW : Hid (BP W w.heap.size c) := Lib.hid (by rw [hW]; exact HC0.out)
  have HDW : Hid (BP W (w.heap.size + 1) d) := Lib.hid (by rw [hW]; exact HD0.out)
  have HEW : Hid (Ev w W) := Lib.hid (by rw [hW]; exact HE0.out)
  rw [← hW]
  clear hW HC0 HD0 HE0
  have HSW : Hid (∀ w', Ev W w' → (w'.cell? ⟨w.heap.size, 0, none⟩ = some (.int .u64 (c 0 : Int)) ∧ w'.cell? ⟨w.heap.size, 1, none⟩ = some (.int .u64 (c 1 : Int)) ∧ w'.cell? ⟨w.heap.size, 2, none⟩ = some (.int .u64 (c 2 : Int)) ∧ w'.cell? ⟨w.heap.size, 3, none⟩ = some (.int .u64 (c 3 : Int)) ∧ w'.cell? ⟨w.heap.size, 4, none⟩ = some (.int .u64 (c 4 : Int)) ∧ w'.cell? ⟨w.heap.size, 5, none⟩ = some (.int .u64 (c 5 : Int)) ∧ w'.cell? ⟨w.heap.size, 6, none⟩ = some (.int .u64 (c 6 : Int)) ∧ w'.cell? ⟨w.heap.size, 7, none⟩ = some (.int .u64 (c 7 : Int)) ∧ w'.cell? ⟨w.heap.size + 1, 0, none⟩ = some (.int .u64 (d 0 : Int)) ∧ w'.cell? ⟨w.heap.size + 1, 1, none⟩ = some (.int .u64 (d 1 : Int)) ∧ w'.cell? ⟨w.heap.size + 1, 2, none⟩ = some (.int .u64 (d 2 : Int)) ∧ w'.cell? ⟨w.heap.size + 1, 3, none⟩ = some (.int .u64 (d 3 : Int)) ∧ w'.cell? ⟨w.heap.size + 1, 4, none⟩ = some (.int .u64 (d 4 : Int)) ∧ w'.cell? ⟨w.heap.size + 1, 5, none⟩ = some (.int .u64 (d 5 : Int)) ∧ w'.cell? ⟨w.heap.size + 1, 6, none⟩ = some (.int .u64 (d 6 : Int)) ∧ w'.cell? ⟨w.heap.size + 1, 7, none⟩ = some (.int .u64 (d 7 : Int))) ∧ Ev W w') := Lib.hid fun w' e => by
    have h1 := (HCW.out.ev e).2.1
    have h2 := (HDW.out.ev e).2.1
    exact ⟨⟨h1 0 (by omega), h1 1 (by omega), h1 2 (by omega), h1 3 (by omega), h1 4 (by omega), h1 5 (by omega), h1 6 (by omega), h1 7 (by omega), h2 0 (by omega), h2 1 (by omega), h2 2 (by omega), h2 3 (by omega), h2 4 (by omega), h2 5 (by omega), h2 6 (by omega), h2 7 (by omega)⟩, e⟩
  have H22 : Hid (∀ W', Ev W W' → Calls Try.prog 22 #[.int .u64 (v : Int)] W' fun e w' => e = .returned (pg fun k => rot (k * 8) v) ∧ Ev W w') := Lib.hid fun W' e => evS e (fill_any v W' hv)
  have H23 : Hid (∀ W', Ev W W' → Calls Try.prog 23 #[.int .u64 (v : Int)] W' fun e w' => e = .returned (pg fun k => rot (k * 8) v) ∧ Ev W w') := Lib.hid fun W' e => evS e (rfill_any v W' hv)
  have hq : ∀ W', Sem.run Try.prog (Op.equalIn 10000 24 (pg fun k => rot (k * 8) v) (pg fun k => rot (k * 8) v)) W' = .ok true W' := fun W' => by rw [eq24, eqB_self]
  obtain ⟨L, hL⟩ : ∃ L, L = dfL c d 8 := ⟨_, rfl⟩
  have H25 : Hid (∀ W', Ev W W' → Calls Try.prog 25 #[pg c, pg d] W' fun e w' => ∃ A cap, e = .returned (.slice A L.length cap) ∧ RdI w' A L ∧ Ev W w' ∧ Ev W' w') := Lib.hid fun W' e => by rw [hL]; exact diff_rd c d W W' e
  have H26 : Hid (∀ W', Ev W W' → Calls Try.prog 26 #[pg c, pg d] W' fun e w' => ∃ A cap, e = .returned (.slice A L.length cap) ∧ RdI w' A L ∧ Ev W w' ∧ Ev W' w') := Lib.hid fun W' e => by rw [hL]; exact rdiff_rd c d W W' e
  have H24 : Hid (∀ A B ca cb W', RdI W' A L → RdI W' B L → Ev W W' → Calls Try.prog 24 #[.slice A L.length ca, .slice B L.length cb] W' fun e w' => e = .returned (.bool true) ∧ Ev W w') := Lib.hid fun A B ca cb W' h1 h2 e => evS e (sameI A B ca cb L W' h1 h2)
  have H27 : Hid (∀ W', Ev W W' → Calls Try.prog 27 #[pg c] W' fun e w' => e = .returned (.int .u64 (smK c 8 : Int)) ∧ Ev W w') := Lib.hid fun W' e => evS e (sum_any c W')
  have H28 : Hid (∀ W', Ev W W' → Calls Try.prog 28 #[pg c] W' fun e w' => e = .returned (.int .u64 (smK c 8 : Int)) ∧ Ev W w') := Lib.hid fun W' e => evS e (rsum_any c W')
  have H29 : Hid (∀ W', Ev W W' → Calls Try.prog 29 #[pg c] W' fun e w' => e = .returned (.string ⟨(txP c 8).toArray⟩) ∧ Ev W w') := Lib.hid fun W' e => evS e (text_any c W')
  have H30 : Hid (∀ W', Ev W W' → Calls Try.prog 30 #[pg c] W' fun e w' => e = .returned (.string ⟨(txP c 8).toArray⟩) ∧ Ev W w') := Lib.hid fun W' e => evS e (rtext_any c W')
  have H15 : Hid (∀ W', Ev W W' → Calls Try.prog 15 #[] W' fun e w' => e = .returned (.bool true) ∧ Ev W w') := Lib.hid fun W' e => evS e (awake_any W')
  generalize smK c 8 = s at *
  generalize (⟨(txP c 8).toArray⟩ : ByteArray) = t at *
  have q1 : ((s : Int) == (s : Int)) = true := by simp
  have q2 : (t == t) = true := by first | exact beq_self_eq_true t | (cases t; simp [BEq.beq]; done) | (show (t.data == t.data) = true; simp) | (unfold BEq.beq; simp)
  clear hL hv HCW HDW
  have hev := Ev.refl W
  go_region_held3 (fun w' => (w'.cell? ⟨w.heap.size, 0, none⟩ = some (.int .u64 (c 0 : Int)) ∧ w'.cell? ⟨w.heap.size, 1, none⟩ = some (.int .u64 (c 1 : Int)) ∧ w'.cell? ⟨w.heap.size, 2, none⟩ = some (.int .u64 (c 2 : Int)) ∧ w'.cell? ⟨w.heap.size, 3, none⟩ = some (.int .u64 (c 3 : Int)) ∧ w'.cell? ⟨w.heap.size, 4, none⟩ = some (.int .u64 (c 4 : Int)) ∧ w'.cell? ⟨w.heap.size, 5, none⟩ = some (.int .u64 (c 5 : Int)) ∧ w'.cell? ⟨w.heap.size, 6, none⟩ = some (.int .u64 (c 6 : Int)) ∧ w'.cell? ⟨w.heap.size, 7, none⟩ = some (.int .u64 (c 7 : Int)) ∧ w'.cell? ⟨w.heap.size + 1, 0, none⟩ = some (.int .u64 (d 0 : Int)) ∧ w'.cell? ⟨w.heap.size + 1, 1, none⟩ = some (.int .u64 (d 1 : Int)) ∧ w'.cell? ⟨w.heap.size + 1, 2, none⟩ = some (.int .u64 (d 2 : Int)) ∧ w'.cell? ⟨w.heap.size + 1, 3, none⟩ = some (.int .u64 (d 3 : Int)) ∧ w'.cell? ⟨w.heap.size + 1, 4, none⟩ = some (.int .u64 (d 4 : Int)) ∧ w'.cell? ⟨w.heap.size + 1, 5, none⟩ = some (.int .u64 (d 5 : Int)) ∧ w'.cell? ⟨w.heap.size + 1, 6, none⟩ = some (.int .u64 (d 6 : Int)) ∧ w'.cell? ⟨w.heap.size + 1, 7, none⟩ = some (.int .u64 (d 7 : Int))) ∧ Ev W w')
    (first | with_reducible exact HSW.out _ (by with_reducible assumption) | with_reducible exact HSW.out _ (Ev.drew (by with_reducible assumption)))
    (first | (go_at_call 22; ((with_reducible refine (H22.out _ (by first | assumption | exact Ev.drew (by with_reducible assumption))).mono ?_); clear hev; rintro e w' ⟨rfl, hev⟩)) | (go_at_call 23; ((with_reducible refine (H23.out _ (by first | assumption | exact Ev.drew (by with_reducible assumption))).mono ?_); clear hev; rintro e w' ⟨rfl, hev⟩)) | (go_at_call 25; ((with_reducible refine (H25.out _ (by first | assumption | exact Ev.drew (by with_reducible assumption))).mono ?_); clear hev; rintro e w' ⟨A1, cap1, rfl, r1, hev, hs⟩; have R1 := Lib.hid r1; clear r1 hs)) | (go_at_call 26; ((with_reducible refine (H26.out _ (by first | assumption | exact Ev.drew (by with_reducible assumption))).mono ?_); clear hev; rintro e w' ⟨A2, cap2, rfl, r2, hev, hs⟩; have R2 := Lib.hid r2; clear r2; first | (have R1b := Lib.hid (R1.out.ev hs); clear hs) | (have R1b := Lib.hid (R1.out.ev (drewEv hs)); clear hs))) | (go_at_call 24; ((with_reducible refine (H24.out _ _ _ _ _ (by first | exact R1b.out | exact R1b.out.ev (Ev.refl _).drew) (by first | exact R2.out | exact R2.out.ev (Ev.refl _).drew) (by first | assumption | exact Ev.drew (by with_reducible assumption))).mono ?_); clear hev; rintro e w' ⟨rfl, hev⟩)) | (go_at_call 27; ((with_reducible refine (H27.out _ (by first | assumption | exact Ev.drew (by with_reducible assumption))).mono ?_); clear hev; rintro e w' ⟨rfl, hev⟩)) | (go_at_call 28; ((with_reducible refine (H28.out _ (by first | assumption | exact Ev.drew (by with_reducible assumption))).mono ?_); clear hev; rintro e w' ⟨rfl, hev⟩)) | (go_at_call 29; ((with_reducible refine (H29.out _ (by first | assumption | exact Ev.drew (by with_reducible assumption))).mono ?_); clear hev; rintro e w' ⟨rfl, hev⟩)) | (go_at_call 30; ((with_reducible refine (H30.out _ (by first | assumption | exact Ev.drew (by with_reducible assumption))).mono ?_); clear hev; rintro e w' ⟨rfl, hev⟩)) | (go_at_call 15; ((with_reducible refine (H15.out _ (by first | assumption | exact Ev.drew (by with_reducible assumption))).mono ?_); clear hev; rintro e w' ⟨rfl, hev⟩)))
  all_goals
    go_wp2_with fail
    go_ret
    exact ⟨rfl, HEW.out.step (by assumption)⟩
end Go.Proofs.Ytfclbnaabdlmhaa
