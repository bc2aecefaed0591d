import Derived.Test.YtpgghbabhgfchaaC2
namespace Go.Proofs.Ytpgghbabhgfchaa
open Go.RowKit
set_option maxRecDepth 100000 in
set_option maxHeartbeats 8000000 in
theorem rPieces_ok (f t : Nat) (hft : f ≤ t) (ht : t < 64) (w : World) :
    Calls Try.prog 18 #[rg f t] w fun e w' => ∃ v, e = .returned (.tuple #[v, .int .i64 0]) ∧ OwnP w' w.heap.size v (pcF (pgs f t)) ∧ Ev w w' := by
  have H : Hid (∀ W, Calls Try.prog 20 #[rg f t] W fun e w' => e = .returned (.int .i64 0) ∧ Ev W w') := Lib.hid fun W => rck_of (show ckE f t = 0 from if_neg (by omega)) W
  have HB0 := Lib.hid (B2.new w f t)
  have HE0 : Hid (Ev w (w.alloc (oR f t))) := Lib.hid ((Ev.refl w).alloc _)
  obtain ⟨i0, hi0, hz0, hz1, hz2⟩ := info_parts info30
  have HFT : Hid (f ≤ t ∧ t < 64) := Lib.hid ⟨hft, ht⟩
  go_enter Try.func18, Try.ntmps18
  go_wp2_with fail
  refine (H.out _).mono ?_
  rintro e w1 ⟨rfl, hev⟩
  have HE1 := Lib.hid (HE0.out.step hev)
  have HB1 := Lib.hid (HB0.out.ev hev)
  have HLT : Hid (w.heap.size < w1.heap.size) := Lib.hid (by have := hev.sz; simp at this; omega)
  clear hev hft ht
  obtain ⟨l0, b0, b1, -, -⟩ := HB1.out
  go_wp2_with fail
  clear l0 b0 b1
  go_loopg [5, 6] (t + 1 - f) (fun gh v iv wr => ∃ j p : Nat, f + j = p ∧ gh + p = t + 1 ∧ iv = .int .i64 (p : Nat) ∧ OwnP wr w1.heap.size v (pcF (upto (pgN f) j)) ∧ Ev w1 wr)
  case atStart => exact ⟨0, f, rfl, by have := HFT.out; omega, rfl, World.ownsRow_nil _ _ _ _, Ev.refl _⟩
  case round =>
    obtain ⟨j, p, hp, hg, rfl, hown, hev⟩ := hrel
    have HP := Lib.hid hp
    have HG := Lib.hid hg
    have HOWN := Lib.hid hown
    have HEV := Lib.hid hev
    obtain ⟨l0, b0, b1, -, -⟩ := HB1.out.ev hev
    clear hp hg hev
    by_cases hlt : p ≤ t
    · have hp64 : p < 64 := by have := HFT.out; omega
      have hp0 : (0 : Int) ≤ (p : Int) := by omega
      have hp1 : (p : Int) < 64 := by omega
      have hle : (p : Int) ≤ (t : Int) := by omega
      have HREF := Lib.hid (pcF_ref f j (by have := HP.out; omega))
      rw [HP.out] at HREF
      have hlen : (pcF (upto (pgN f) j)).length ≤ 64 := by have h := (pcF_bd (upto (pgN f) j)).2; rw [upto_length] at h; have := HP.out; omega
      have HLN := Lib.hid hlen
      have HOWN0 := HOWN
      by_cases hc : j = 0 ∨ p % 8 = 0
      · have HREF' : Hid (pcF (upto (pgN f) (j + 1)) = pcF (upto (pgN f) j) ++ [(((p : Nat) : Int), ((p : Nat) : Int))]) := Lib.hid (by rw [HREF.out, if_pos hc])
        clear HREF HOWN0
        generalize pcF (upto (pgN f) j) = r at *
        have HL1' := hlen
        have H3 : Hid (r.length + 1 ≤ maxLen) := Lib.hid (by unfold maxLen; omega)
        have H4 : Hid ((r.length + 1) * 16 ≤ 140737488355328) := Lib.hid (by omega)
        have H5 : Hid (∀ o, w1.heap.size ≤ (wr.alloc o).heap.size) := Lib.hid (by intro o; have := HEV.out.sz; simp; omega)
        have HAPP : Hid (∀ (g cap : Nat) (w4 : World), w4.ownsRow w1.heap.size 30 2 (.slice (some ⟨g, 0, none⟩) (r.length + 1) cap) (r.length + 1) (flatS r ++ [.int .i64 (p : Int), .int .i64 (p : Int)]) → Ev w1 w4 → (w4.frozen? ⟨g, r.length * 2 + 1, none⟩ = false ∧ w4.cell? ⟨g, r.length * 2 + 1, none⟩ = some (.int .i64 (p : Int))) ∧ ((w4.setCell ⟨g, r.length * 2 + 1, none⟩ (.int .i64 (p : Int))).ownsRow w1.heap.size 30 2 (.slice (some ⟨g, 0, none⟩) (r.length + 1) cap) (r.length + 1) (flatS (r ++ [((p : Int), (p : Int))])) ∧ Ev w1 (w4.setCell ⟨g, r.length * 2 + 1, none⟩ (.int .i64 (p : Int))))) := Lib.hid fun g cap w4 h4 hE => by
          have hown : w4.ownsRow w1.heap.size 30 2 (.slice (some ⟨g, 0, none⟩) (r.length + 1) cap) (r.length + 1) (flatS (r ++ [((p : Int), (p : Int))])) := by rw [flatS_app]; exact h4
          have c2 := hown.cellAt (r.length * 2 + 1) (by omega)
          rw [flatS_last] at c2
          obtain ⟨s1, s2⟩ := hown.stored (r.length * 2 + 1) (.int .i64 (p : Int))
          rw [flatS_set] at s1
          exact ⟨⟨hown.frozenAt (r.length * 2 + 1), c2⟩, s1, Below.setCell hE (p := ⟨g, r.length * 2 + 1, none⟩) (hown.lt g rfl).1 _⟩
        have hcc : ((p : Int) == (f : Int)) = true ∨ (((p : Int) == (f : Int)) = false ∧ ((p : Int) % 8 == 0) = true) := by
          have := HP.out
          rcases hc with hc | hc
          · left; simp; omega
          · by_cases h1 : p = f
            · left; simp; omega
            · right; refine ⟨?_, ?_⟩
              · simp; omega
              · simp; omega
        have l1 : 0 ≤ (r.length : Int) := by omega
        have l2 : (r.length : Int) ≤ 400 := by omega
        clear hc hown hlen
        rcases hcc with hcc | ⟨hcc, hcd⟩
        all_goals
          go_wp2_with (at_builtin; go_loud (refine wpList_append_own _ rfl _ _ 31 rfl w1.heap.size 30 i0 (.agg #[.int .i64 0, .int .i64 0]) 2 16 Try.underlying31 hi0 hz0 hz1 hz2 rfl (by decide) _ r.length (flatS r) rfl (HOWN.out.alloc _) ⟨wr.heap.size, 0, none⟩ 1 1 [.int .i64 (p : Int), .int .i64 (p : Int)] rfl rfl (cell_two_new _ _ _ _) (by simp [Value.oneCell']) H3.out H4.out (H5.out _) ?_); intro v1 w4 hown4 hg4 _; obtain ⟨g, cap, rfl⟩ := ownsRow_succ hown4; have hrow := HOWN.out.alloc (.cells #[.int .i64 (p : Int), .int .i64 (p : Int)] 30); have hW4 := Ev.grown (HEV.out.alloc (.cells #[.int .i64 (p : Int), .int .i64 (p : Int)] 30)) hg4 (fun g hg => (hrow.lt g hg).1); obtain ⟨⟨f2, c2⟩, hfin⟩ := HAPP.out g cap w4 hown4 hW4; have HFIN := Lib.hid hfin; clear hrow hg4 hown4 hW4 hfin)
          go_roundg (gk - 1)
          case rel => exact ⟨j + 1, p + 1, by have := HP.out; omega, by have := HG.out; omega, by go_num, by rw [HREF'.out]; unfold OwnP; simpa using HFIN.out.1, HFIN.out.2⟩
          case measure => have := HG.out; omega
      · have hj : j ≠ 0 := fun h => hc (.inl h)
        obtain ⟨j', hj'⟩ : ∃ j', j = j' + 1 := ⟨j - 1, by omega⟩
        obtain ⟨r, a, hra0⟩ := pcF_last f j' (by have := HP.out; omega)
        have hra : pcF (upto (pgN f) j) = r ++ [(a, ((f + j' : Nat) : Int))] := by rw [hj']; exact hra0
        have HREF' : Hid (pcF (upto (pgN f) (j + 1)) = r ++ [(a, ((p : Nat) : Int))]) := Lib.hid (by rw [HREF.out, if_neg hc, hra, setL_snoc])
        obtain ⟨b, hb⟩ : ∃ b : Int, b = ((f + j' : Nat) : Int) := ⟨_, rfl⟩
        rw [hra, ← hb] at hown hlen
        unfold OwnP at hown
        simp only [List.length_append, List.length_singleton] at hown hlen
        obtain ⟨g, cap, rfl⟩ := ownsRow_succ hown
        have hcc : ((p : Int) == (f : Int)) = false := by have := HP.out; simp; omega
        have hcd : ((p : Int) % 8 == 0) = false := by simp; omega
        have hg := hown.lt g rfl
        have f2 : wr.frozen? ⟨g, r.length * 2 + 1, none⟩ = false := hown.frozenAt (r.length * 2 + 1)
        have c2 : wr.cell? ⟨g, r.length * 2 + 1, none⟩ = some (.int .i64 b) := by
          have c2 := hown.cellAt (r.length * 2 + 1) (by omega)
          rw [flatS_last] at c2
          exact c2
        obtain ⟨s1, s2⟩ := hown.stored (r.length * 2 + 1) (.int .i64 (p : Int))
        rw [flatS_set] at s1
        have HS1 := Lib.hid s1
        have HEN : Hid (Ev w1 (wr.setCell ⟨g, r.length * 2 + 1, none⟩ (.int .i64 (p : Int)))) := Lib.hid (Below.setCell HEV.out (p := ⟨g, r.length * 2 + 1, none⟩) hg.1 _)
        have l1 : 0 ≤ (r.length : Int) := by omega
        have l2 : (r.length : Int) ≤ 400 := by omega
        clear hown s1 s2 hg
        clear hc hj hj' hra hra0 hlen hb HOWN HOWN0 HREF HLN
        go_wp2_with fail
        go_roundg (gk - 1)
        case rel => exact ⟨j + 1, p + 1, by have := HP.out; omega, by have := HG.out; omega, by go_num, by rw [HREF'.out]; unfold OwnP; simpa using HS1.out, HEN.out⟩
        case measure => have := HG.out; omega
    · have hle : ¬ (p : Int) ≤ (t : Int) := by omega
      have hq : pcF (upto (pgN f) j) = pcF (pgs f t) := by
        unfold pgs
        rw [show j = t - f + 1 from by have h1 := HP.out; have h2 := HG.out; have h3 := HFT.out; omega]
      have HQ := Lib.hid hq
      have HLT' := Lib.hid (HLT.out)
      clear hown hq hlt
      go_wp2_with fail
      go_ret2
      exact ⟨_, rfl, own_weaken (by rw [← HQ.out]; exact HOWN.out) (Nat.le_of_lt HLT.out), HE1.out.step HEV.out⟩
end Go.Proofs.Ytpgghbabhgfchaa
