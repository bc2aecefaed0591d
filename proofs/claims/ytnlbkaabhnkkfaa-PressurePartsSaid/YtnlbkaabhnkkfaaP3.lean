import Derived.Test.YtnlbkaabhnkkfaaP2
import Derived.LoopTactic
namespace Go.Proofs.Ytnlbkaabhnkkfaa
open Go.RowKit
/-- The slice at A reads as the numbers l. -/
def RdI (w : World) (A : Option Addr) (l : List Int) : Prop :=
  l.length ≤ 9223372036854775807 ∧ ∀ j, j < l.length → ∃ b o, A = some ⟨b, o, none⟩ ∧ b < w.heap.size ∧ w.cell? ⟨b, o + j, none⟩ = some (.int .i64 (l.getD j 0))
theorem Ev.cell {w W : World} (e : Ev w W) {p : Addr} (h : p.block < w.heap.size) : W.cell? p = w.cell? p := Below.cell e h
theorem RdI.ev {w w' : World} {A : Option Addr} {l : List Int} (h : RdI w A l) (e : Ev w w') : RdI w' A l := ⟨h.1, fun j hj => by
  obtain ⟨b, o, h1, h2, h3⟩ := h.2 j hj
  have := e.sz
  exact ⟨b, o, h1, by omega, by rw [e.cell (p := ⟨b, o + j, none⟩) h2]; exact h3⟩⟩
theorem RdI.one (X : World) (x : Int) (T : TypeId) : RdI (X.alloc (.cells #[.int .i64 x] T)) (some ⟨X.heap.size, 0, none⟩) [x] :=
  ⟨by simp, fun j hj => by
    obtain rfl : j = 0 := by simpa using hj
    exact ⟨_, 0, rfl, by simp, by simp⟩⟩
theorem drop_any {l : List Int} {j : Nat} (h : j < l.length) : (l.drop j).any badB = (badB (l.getD j 0) || (l.drop (j + 1)).any badB) := by
  rw [List.drop_eq_getElem_cons h, List.any_cons]
  simp [List.getD, h]
set_option maxHeartbeats 1000000 in
theorem chk_any (a b c : Int) (A : Option Addr) (cap : Nat) (l : List Int) (w : World) (hr : RdI w A l) :
    Calls Try.prog 35 #[mk a b c, .slice A l.length cap] w fun e w' => e = .returned (.int .i64 (asE a b c l)) ∧ Ev w w' := by
  have H : Hid (∀ W, Calls Try.prog 11 #[mk a b c] W fun e w' => e = .returned (.int .i64 (mkE a b c)) ∧ Ev W w') := Lib.hid fun W => check_any a b c W
  have hlen := hr.1
  by_cases h1 : mkE a b c = 0
  · have e : asE a b c l = hsE l := by unfold asE; rw [if_neg (by simp [h1])]
    rw [e]
    rw [h1] at H
    clear e h1
    by_cases h2 : 400 < l.length
    · have e : hsE l = 4 := by unfold hsE; rw [if_pos h2]
      rw [e]
      have h2' : 400 < (l.length : Int) := by omega
      clear e h2
      go_enter Try.func35, Try.ntmps35
      go_wp2_with fail
      refine (H.out _).mono ?_
      rintro e w1 ⟨rfl, hev⟩
      have he := ((Ev.refl w).alloc (mb a b c)).step hev
      clear hev
      go_wp2_with fail
      go_ret
      exact ⟨rfl, he⟩
    · have HE : Hid (hsE l = if l.any badB then 2 else 0) := Lib.hid (by unfold hsE; rw [if_neg h2])
      have h2' : ¬ 400 < (l.length : Int) := by omega
      have HRD := Lib.hid hr
      clear hr h2
      go_enter Try.func35, Try.ntmps35
      go_wp2_with fail
      refine (H.out _).mono ?_
      rintro e w1 ⟨rfl, hev⟩
      have he := ((Ev.refl w).alloc (mb a b c)).step hev
      clear hev
      go_wp2_with fail
      go_loop [18] (fun i => ∃ j : Nat, j ≤ l.length ∧ i = .int .i64 j ∧ (l.drop j).any badB = l.any badB) (fun i => l.length - (intOf i).toNat)
      case atStart => exact ⟨0, by omega, rfl, rfl⟩
      case round =>
        obtain ⟨j, hj, rfl, hd⟩ := hrel
        by_cases hlt : j < l.length
        · rw [drop_any hlt] at hd
          obtain ⟨b', o, rfl, hb, c1⟩ := (HRD.out.ev he).2 j hlt
          generalize l.getD j 0 = x at *
          have HD := Lib.hid hd
          have hlt' : (j : Int) < (l.length : Int) := by omega
          have hj0 : 0 ≤ (j : Int) := by omega
          clear hd
          rcases (show x < 0 ∨ (0 ≤ x ∧ 256 < x) ∨ (0 ≤ x ∧ x ≤ 256) by omega) with hx | ⟨hx, hx2⟩ | ⟨hx, hx2⟩
          · go_wp2_with fail
            go_ret
            refine ⟨?_, he⟩
            have hb : badB x = true := by unfold badB; exact decide_eq_true (by omega)
            rw [HE.out, ← HD.out, hb]
            rfl
          · go_wp2_with fail
            go_ret
            refine ⟨?_, he⟩
            have hb : badB x = true := by unfold badB; exact decide_eq_true (by omega)
            rw [HE.out, ← HD.out, hb]
            rfl
          · go_wp2_with fail
            go_round
            case rel =>
              have hb : badB x = false := by unfold badB; exact decide_eq_false (by omega)
              refine ⟨j + 1, by omega, by go_num, ?_⟩
              rw [← HD.out, hb]
              rfl
            case measure => simp [intOf]; omega
        · obtain rfl : j = l.length := by omega
          have HD : Hid (l.any badB = false) := Lib.hid (by rw [← hd]; simp)
          clear hd
          go_wp2_with fail
          go_ret
          refine ⟨?_, he⟩
          rw [HE.out, HD.out]
          rfl
  · have e : asE a b c l = mkE a b c := by unfold asE; rw [if_pos h1]
    rw [e]
    have h1' : (mkE a b c != 0) = true := by simpa using h1
    clear e h1
    generalize mkE a b c = er at *
    go_enter Try.func35, Try.ntmps35
    go_wp2_with fail
    refine (H.out _).mono ?_
    rintro e w1 ⟨rfl, hev⟩
    have he := ((Ev.refl w).alloc (mb a b c)).step hev
    clear hev
    go_wp2_with fail
    go_ret
    exact ⟨rfl, he⟩
end Go.Proofs.Ytnlbkaabhnkkfaa
