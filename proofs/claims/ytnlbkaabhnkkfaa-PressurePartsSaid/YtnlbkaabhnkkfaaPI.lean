import Derived.Test.YtnlbkaabhnkkfaaPH
import Derived.Test.YtnlbkaabhnkkfaaP8
namespace Go.Proofs.Ytnlbkaabhnkkfaa
open Go.RowKit
theorem spV_len (a b c : Int) (l : List Int) : (spV a b c l).length ≤ l.length := by
  unfold spV
  split
  · have := spF_len (upto (fun j => (j, gS b c l (j + 1))) l.length)
    rw [upto_length] at this
    exact this
  · simp
set_option maxHeartbeats 4000000 in
theorem runsl_any (a b c : Int) (A : Option Addr) (cap : Nat) (l : List Int) (w : World) (hr : RdI w A l) (hn : A = none → l = [] ∧ cap = 0) : Calls Try.prog 4 #[mk a b c, .slice A l.length cap] w fun e w' => e = .returned (.bool true) ∧ Ev w w' := by
  have hlen := hr.1
  have HB : Hid (∀ W, Ev (w.alloc (mb a b c)) W → (W.cell? ⟨w.heap.size, 0, none⟩ = some (.int .i64 a) ∧ W.cell? ⟨w.heap.size, 1, none⟩ = some (.int .i64 b) ∧ W.cell? ⟨w.heap.size, 2, none⟩ = some (.int .i64 c)) ∧ Ev w W) := Lib.hid fun W e => ⟨by refine ⟨?_, ?_, ?_⟩ <;> (rw [e.cell (by simp)]; simp), ((Ev.refl w).alloc _).step e⟩
  have HR := Lib.hid (hr.ev ((Ev.refl w).alloc (mb a b c)))
  have HN := Lib.hid hn
  clear hr hn
  rcases (show (60 < l.length ∧ l.length ≤ 390) ∨ 410 < l.length ∨ l.length ≤ 60 ∨ (390 < l.length ∧ l.length ≤ 410) by omega) with ⟨h1, h2⟩ | h1 | h1 | ⟨h1, h2⟩
  · have g1 : 60 < (l.length : Int) := by omega
    have g2 : (l.length : Int) ≤ 390 := by omega
    have H := Lib.hid awake_any
    go_enter Try.func4, Try.ntmps4
    go_wp2_with fail
    refine (H.out _).mono ?_
    rintro e w1 ⟨rfl, hev⟩
    have hf := (HB.out _ hev).2
    clear hev
    go_wp2_with fail
    go_ret
    exact ⟨rfl, hf⟩
  · have g1 : 60 < (l.length : Int) := by omega
    have g2 : 390 < (l.length : Int) := by omega
    have g3 : 410 < (l.length : Int) := by omega
    have H := Lib.hid awake_any
    go_enter Try.func4, Try.ntmps4
    go_wp2_with fail
    refine (H.out _).mono ?_
    rintro e w1 ⟨rfl, hev⟩
    have hf := (HB.out _ hev).2
    clear hev
    go_wp2_with fail
    go_ret
    exact ⟨rfl, hf⟩
  · have g1 : (l.length : Int) ≤ 60 := by omega
    have g3 : (l.length : Int) ≤ 410 := by omega
    go_enter Try.func4, Try.ntmps4
    go_wp2_with fail
    refine (OwnInts_any A cap l _ HR.out HN.out (by omega)).mono ?_
    rintro e w1 ⟨A', c', rfl, ho, hev⟩
    have HR := Lib.hid (HR.out.ev hev)
    have HO := Lib.hid ho
    have HE := Lib.hid hev
    clear ho hev
    obtain ⟨⟨x0, x1, x2⟩, -⟩ := HB.out _ HE.out
    go_wp2_with fail
    refine (Run_any a b c A' c' l _ HO.out).mono ?_
    clear x0 x1 x2
    rintro e w2 ⟨v1, rfl, hv, hev⟩
    obtain ⟨B1, d1, rfl, hb⟩ := RdB.of_own hv (by have := rnV_len a b c l; omega)
    clear hv
    have HR := Lib.hid (HR.out.ev hev)
    have HO := Lib.hid (HO.out.ev hev)
    have HE := Lib.hid (HE.out.step hev)
    have HB1 := Lib.hid hb
    clear hev hb
    obtain ⟨⟨x0, x1, x2⟩, -⟩ := HB.out _ HE.out
    go_wp2_with fail
    refine (rRun_any a b c A cap l _ HR.out).mono ?_
    clear x0 x1 x2
    rintro e w2 ⟨v2, rfl, hv, hev⟩
    obtain ⟨B2, d2, rfl, hb⟩ := RdB.of_own hv (by have := rnV_len a b c l; omega)
    clear hv
    have HR := Lib.hid (HR.out.ev hev)
    have HO := Lib.hid (HO.out.ev hev)
    have HB1 := Lib.hid (HB1.out.ev hev)
    have HE := Lib.hid (HE.out.step hev)
    have HB2 := Lib.hid hb
    clear hev hb
    obtain ⟨⟨x0, x1, x2⟩, -⟩ := HB.out _ HE.out
    go_wp2_with fail
    refine (Spans_any a b c A' c' l _ HO.out).mono ?_
    clear x0 x1 x2
    rintro e w2 ⟨v3, rfl, hv, hev⟩
    obtain ⟨B3, d3, rfl, hb⟩ := RdP.of_own hv (by have := spV_len a b c l; omega)
    clear hv
    have HR := Lib.hid (HR.out.ev hev)
    have HO := Lib.hid (HO.out.ev hev)
    have HB1 := Lib.hid (HB1.out.ev hev)
    have HB2 := Lib.hid (HB2.out.ev hev)
    have HE := Lib.hid (HE.out.step hev)
    have HB3 := Lib.hid hb
    clear hev hb
    obtain ⟨⟨x0, x1, x2⟩, -⟩ := HB.out _ HE.out
    go_wp2_with fail
    refine (rSpans_any a b c A cap l _ HR.out).mono ?_
    clear x0 x1 x2
    rintro e w2 ⟨v4, rfl, hv, hev⟩
    obtain ⟨B4, d4, rfl, hb⟩ := RdP.of_own hv (by have := spV_len a b c l; omega)
    clear hv
    have HR := Lib.hid (HR.out.ev hev)
    have HO := Lib.hid (HO.out.ev hev)
    have HB1 := Lib.hid (HB1.out.ev hev)
    have HB2 := Lib.hid (HB2.out.ev hev)
    have HB3 := Lib.hid (HB3.out.ev hev)
    have HE := Lib.hid (HE.out.step hev)
    have HB4 := Lib.hid hb
    clear hev hb
    obtain ⟨⟨x0, x1, x2⟩, -⟩ := HB.out _ HE.out
    go_wp2_with fail
    refine (sameB B1 B2 d1 d2 _ _ HB1.out HB2.out).mono ?_
    clear x0 x1 x2
    rintro e w2 ⟨rfl, hev⟩
    have HR := Lib.hid (HR.out.ev hev)
    have HO := Lib.hid (HO.out.ev hev)
    have HB1 := Lib.hid (HB1.out.ev hev)
    have HB2 := Lib.hid (HB2.out.ev hev)
    have HB3 := Lib.hid (HB3.out.ev hev)
    have HB4 := Lib.hid (HB4.out.ev hev)
    have HE := Lib.hid (HE.out.step hev)
    clear hev
    obtain ⟨⟨x0, x1, x2⟩, -⟩ := HB.out _ HE.out
    go_wp2_with fail
    refine (sameP B3 B4 d3 d4 _ _ HB3.out HB4.out).mono ?_
    clear x0 x1 x2
    rintro e w2 ⟨rfl, hev⟩
    have HR := Lib.hid (HR.out.ev hev)
    have HO := Lib.hid (HO.out.ev hev)
    have HB1 := Lib.hid (HB1.out.ev hev)
    have HB2 := Lib.hid (HB2.out.ev hev)
    have HB3 := Lib.hid (HB3.out.ev hev)
    have HB4 := Lib.hid (HB4.out.ev hev)
    have HE := Lib.hid (HE.out.step hev)
    clear hev
    obtain ⟨⟨x0, x1, x2⟩, -⟩ := HB.out _ HE.out
    go_wp2_with fail
    refine (Worst_any a b c A' c' l _ HO.out).mono ?_
    clear x0 x1 x2
    rintro e w2 ⟨rfl, hev⟩
    have HR := Lib.hid (HR.out.ev hev)
    have HO := Lib.hid (HO.out.ev hev)
    have HB1 := Lib.hid (HB1.out.ev hev)
    have HB2 := Lib.hid (HB2.out.ev hev)
    have HB3 := Lib.hid (HB3.out.ev hev)
    have HB4 := Lib.hid (HB4.out.ev hev)
    have HE := Lib.hid (HE.out.step hev)
    clear hev
    obtain ⟨⟨x0, x1, x2⟩, -⟩ := HB.out _ HE.out
    go_wp2_with fail
    refine (rWorst_any a b c A cap l _ HR.out).mono ?_
    clear x0 x1 x2
    rintro e w2 ⟨rfl, hev⟩
    have HR := Lib.hid (HR.out.ev hev)
    have HO := Lib.hid (HO.out.ev hev)
    have HB1 := Lib.hid (HB1.out.ev hev)
    have HB2 := Lib.hid (HB2.out.ev hev)
    have HB3 := Lib.hid (HB3.out.ev hev)
    have HB4 := Lib.hid (HB4.out.ev hev)
    have HE := Lib.hid (HE.out.step hev)
    clear hev
    obtain ⟨⟨x0, x1, x2⟩, -⟩ := HB.out _ HE.out
    go_wp2_with fail
    refine (sameI A' A c' cap l _ HO.out HR.out).mono ?_
    clear x0 x1 x2
    rintro e w2 ⟨rfl, hev⟩
    have HR := Lib.hid (HR.out.ev hev)
    have HO := Lib.hid (HO.out.ev hev)
    have HB1 := Lib.hid (HB1.out.ev hev)
    have HB2 := Lib.hid (HB2.out.ev hev)
    have HB3 := Lib.hid (HB3.out.ev hev)
    have HB4 := Lib.hid (HB4.out.ev hev)
    have HE := Lib.hid (HE.out.step hev)
    clear hev
    obtain ⟨⟨x0, x1, x2⟩, -⟩ := HB.out _ HE.out
    go_wp2_with fail
    refine (awake_any _).mono ?_
    clear x0 x1 x2
    rintro e w2 ⟨rfl, hev⟩
    have HR := Lib.hid (HR.out.ev hev)
    have HO := Lib.hid (HO.out.ev hev)
    have HB1 := Lib.hid (HB1.out.ev hev)
    have HB2 := Lib.hid (HB2.out.ev hev)
    have HB3 := Lib.hid (HB3.out.ev hev)
    have HB4 := Lib.hid (HB4.out.ev hev)
    have HE := Lib.hid (HE.out.step hev)
    clear hev
    obtain ⟨⟨x0, x1, x2⟩, -⟩ := HB.out _ HE.out
    go_wp2_with fail
    go_ret
    exact ⟨ret_b (by simp), (HB.out _ HE.out).2⟩
  · have g0 : 60 < (l.length : Int) := by omega
    have g1 : 390 < (l.length : Int) := by omega
    have g3 : (l.length : Int) ≤ 410 := by omega
    go_enter Try.func4, Try.ntmps4
    go_wp2_with fail
    refine (OwnInts_any A cap l _ HR.out HN.out (by omega)).mono ?_
    rintro e w1 ⟨A', c', rfl, ho, hev⟩
    have HR := Lib.hid (HR.out.ev hev)
    have HO := Lib.hid ho
    have HE := Lib.hid hev
    clear ho hev
    obtain ⟨⟨x0, x1, x2⟩, -⟩ := HB.out _ HE.out
    go_wp2_with fail
    refine (Run_any a b c A' c' l _ HO.out).mono ?_
    clear x0 x1 x2
    rintro e w2 ⟨v1, rfl, hv, hev⟩
    obtain ⟨B1, d1, rfl, hb⟩ := RdB.of_own hv (by have := rnV_len a b c l; omega)
    clear hv
    have HR := Lib.hid (HR.out.ev hev)
    have HO := Lib.hid (HO.out.ev hev)
    have HE := Lib.hid (HE.out.step hev)
    have HB1 := Lib.hid hb
    clear hev hb
    obtain ⟨⟨x0, x1, x2⟩, -⟩ := HB.out _ HE.out
    go_wp2_with fail
    refine (rRun_any a b c A cap l _ HR.out).mono ?_
    clear x0 x1 x2
    rintro e w2 ⟨v2, rfl, hv, hev⟩
    obtain ⟨B2, d2, rfl, hb⟩ := RdB.of_own hv (by have := rnV_len a b c l; omega)
    clear hv
    have HR := Lib.hid (HR.out.ev hev)
    have HO := Lib.hid (HO.out.ev hev)
    have HB1 := Lib.hid (HB1.out.ev hev)
    have HE := Lib.hid (HE.out.step hev)
    have HB2 := Lib.hid hb
    clear hev hb
    obtain ⟨⟨x0, x1, x2⟩, -⟩ := HB.out _ HE.out
    go_wp2_with fail
    refine (Spans_any a b c A' c' l _ HO.out).mono ?_
    clear x0 x1 x2
    rintro e w2 ⟨v3, rfl, hv, hev⟩
    obtain ⟨B3, d3, rfl, hb⟩ := RdP.of_own hv (by have := spV_len a b c l; omega)
    clear hv
    have HR := Lib.hid (HR.out.ev hev)
    have HO := Lib.hid (HO.out.ev hev)
    have HB1 := Lib.hid (HB1.out.ev hev)
    have HB2 := Lib.hid (HB2.out.ev hev)
    have HE := Lib.hid (HE.out.step hev)
    have HB3 := Lib.hid hb
    clear hev hb
    obtain ⟨⟨x0, x1, x2⟩, -⟩ := HB.out _ HE.out
    go_wp2_with fail
    refine (rSpans_any a b c A cap l _ HR.out).mono ?_
    clear x0 x1 x2
    rintro e w2 ⟨v4, rfl, hv, hev⟩
    obtain ⟨B4, d4, rfl, hb⟩ := RdP.of_own hv (by have := spV_len a b c l; omega)
    clear hv
    have HR := Lib.hid (HR.out.ev hev)
    have HO := Lib.hid (HO.out.ev hev)
    have HB1 := Lib.hid (HB1.out.ev hev)
    have HB2 := Lib.hid (HB2.out.ev hev)
    have HB3 := Lib.hid (HB3.out.ev hev)
    have HE := Lib.hid (HE.out.step hev)
    have HB4 := Lib.hid hb
    clear hev hb
    obtain ⟨⟨x0, x1, x2⟩, -⟩ := HB.out _ HE.out
    go_wp2_with fail
    refine (sameB B1 B2 d1 d2 _ _ HB1.out HB2.out).mono ?_
    clear x0 x1 x2
    rintro e w2 ⟨rfl, hev⟩
    have HR := Lib.hid (HR.out.ev hev)
    have HO := Lib.hid (HO.out.ev hev)
    have HB1 := Lib.hid (HB1.out.ev hev)
    have HB2 := Lib.hid (HB2.out.ev hev)
    have HB3 := Lib.hid (HB3.out.ev hev)
    have HB4 := Lib.hid (HB4.out.ev hev)
    have HE := Lib.hid (HE.out.step hev)
    clear hev
    obtain ⟨⟨x0, x1, x2⟩, -⟩ := HB.out _ HE.out
    go_wp2_with fail
    refine (sameP B3 B4 d3 d4 _ _ HB3.out HB4.out).mono ?_
    clear x0 x1 x2
    rintro e w2 ⟨rfl, hev⟩
    have HR := Lib.hid (HR.out.ev hev)
    have HO := Lib.hid (HO.out.ev hev)
    have HB1 := Lib.hid (HB1.out.ev hev)
    have HB2 := Lib.hid (HB2.out.ev hev)
    have HB3 := Lib.hid (HB3.out.ev hev)
    have HB4 := Lib.hid (HB4.out.ev hev)
    have HE := Lib.hid (HE.out.step hev)
    clear hev
    obtain ⟨⟨x0, x1, x2⟩, -⟩ := HB.out _ HE.out
    go_wp2_with fail
    refine (Worst_any a b c A' c' l _ HO.out).mono ?_
    clear x0 x1 x2
    rintro e w2 ⟨rfl, hev⟩
    have HR := Lib.hid (HR.out.ev hev)
    have HO := Lib.hid (HO.out.ev hev)
    have HB1 := Lib.hid (HB1.out.ev hev)
    have HB2 := Lib.hid (HB2.out.ev hev)
    have HB3 := Lib.hid (HB3.out.ev hev)
    have HB4 := Lib.hid (HB4.out.ev hev)
    have HE := Lib.hid (HE.out.step hev)
    clear hev
    obtain ⟨⟨x0, x1, x2⟩, -⟩ := HB.out _ HE.out
    go_wp2_with fail
    refine (rWorst_any a b c A cap l _ HR.out).mono ?_
    clear x0 x1 x2
    rintro e w2 ⟨rfl, hev⟩
    have HR := Lib.hid (HR.out.ev hev)
    have HO := Lib.hid (HO.out.ev hev)
    have HB1 := Lib.hid (HB1.out.ev hev)
    have HB2 := Lib.hid (HB2.out.ev hev)
    have HB3 := Lib.hid (HB3.out.ev hev)
    have HB4 := Lib.hid (HB4.out.ev hev)
    have HE := Lib.hid (HE.out.step hev)
    clear hev
    obtain ⟨⟨x0, x1, x2⟩, -⟩ := HB.out _ HE.out
    go_wp2_with fail
    refine (sameI A' A c' cap l _ HO.out HR.out).mono ?_
    clear x0 x1 x2
    rintro e w2 ⟨rfl, hev⟩
    have HR := Lib.hid (HR.out.ev hev)
    have HO := Lib.hid (HO.out.ev hev)
    have HB1 := Lib.hid (HB1.out.ev hev)
    have HB2 := Lib.hid (HB2.out.ev hev)
    have HB3 := Lib.hid (HB3.out.ev hev)
    have HB4 := Lib.hid (HB4.out.ev hev)
    have HE := Lib.hid (HE.out.step hev)
    clear hev
    obtain ⟨⟨x0, x1, x2⟩, -⟩ := HB.out _ HE.out
    go_wp2_with fail
    refine (awake_any _).mono ?_
    clear x0 x1 x2
    rintro e w2 ⟨rfl, hev⟩
    have HR := Lib.hid (HR.out.ev hev)
    have HO := Lib.hid (HO.out.ev hev)
    have HB1 := Lib.hid (HB1.out.ev hev)
    have HB2 := Lib.hid (HB2.out.ev hev)
    have HB3 := Lib.hid (HB3.out.ev hev)
    have HB4 := Lib.hid (HB4.out.ev hev)
    have HE := Lib.hid (HE.out.step hev)
    clear hev
    obtain ⟨⟨x0, x1, x2⟩, -⟩ := HB.out _ HE.out
    go_wp2_with fail
    go_ret
    exact ⟨ret_b (by simp), (HB.out _ HE.out).2⟩
end Go.Proofs.Ytnlbkaabhnkkfaa
