import Derived.Test.YtfiglmbnjfgdlaaDoorDQ
namespace Go.Proofs.YtfiglmbnjfgdlaaDoor
open Go.RowKit
/-- how many events may still come, without kills -/
def muB (s : Int) (b : Bool) : Nat := if s = 1 then (if b then 4 else 3) else if s = 2 then (if b then 3 else 2) else if s = 3 ∨ s = 4 then 1 else 0
def muA (s w : Int) : Nat := muB s (w != -1)
theorem sh_b (s w : Int) (b : Bool) (hb : (w != -1) = b) : shL s w = if s = 3 then [5] else if s = 4 then [4] else if s ≠ 1 ∧ s ≠ 2 then [] else if b = true then [2, 4] else if s = 2 then [3, 5] else [1, 3, 5] := shL_v s w b hb
theorem b_of {w : Int} {b : Bool} (hb : (w != -1) = b) : (b = true → w ≠ -1) ∧ (b = false → w = -1) := ⟨fun h => by subst h; simpa using hb, fun h => by subst h; simpa using hb⟩
theorem stE_of (s f w e n : Int) (h0 : ck s f w = 0) (he : 1 ≤ e ∧ e ≤ 6) (hn : (e = 1 ∧ inF n = true ∧ n ≠ w) ∨ (e ≠ 1 ∧ n = -1)) (hm : mayV s w e = true) : stE s f w e n = 0 := by
  unfold stE cev
  rw [if_pos h0, if_neg (by omega)]
  rcases hn with ⟨rfl, h1, h2⟩ | ⟨h1, rfl⟩
  · rw [if_neg (by simp [h1]), if_neg (by simp [hm]), if_neg (by simp [h2])]
  · rw [if_neg (by simp [h1]), if_neg (by simp [hm]), if_neg (by simp)]
theorem stR_of (s f w e n : Int) (h : stE s f w e n = 0) : stR s f w e n = stp s f w e n := by unfold stR; rw [if_pos h]
/-- one step along the shortest way -/
theorem sh_step (s f w e : Int) (t : List Int) (h0 : ck s f w = 0) (hs : s ≤ 5) (hl : shL s w = e :: t) : ∀ n, n = (if e = 1 then 7 else -1) → stE s f w e n = 0 ∧ ∃ s' f' w' l' m', stR s f w e n = ⟨s', f', w', l', m'⟩ ∧ ck s' f' w' = 0 ∧ s' ≤ 5 ∧ shL s' w' = t := by
  intro n hn
  obtain ⟨f0, f1, w0, w1, hcl⟩ := ck_cases s f w h0
  rcases ck_sw s f w h0 with ⟨rfl, hb⟩ | ⟨rfl, hb⟩ | ⟨rfl, hb⟩ | ⟨rfl, hb⟩ | ⟨rfl, hb⟩ | ⟨rfl, hb⟩ | ⟨rfl, hb⟩ | ⟨rfl, hb⟩ | ⟨rfl, hb⟩ | ⟨rfl, hb⟩ | ⟨rfl, hb⟩
  · rw [sh_b _ _ _ hb] at hl
    have hw := (b_of hb).2 rfl
    simp at hl
    obtain ⟨rfl, rfl⟩ := hl
    have hn' : n = 7 := by rw [hn]; rfl
    subst hn'
    have hE : stE 1 f w 1 (7) = 0 := stE_of _ _ _ _ _ h0 (by decide) (.inl ⟨rfl, by decide, by omega⟩) (by unfold mayV; rw [hb]; rfl)
    refine ⟨hE, 2, 7, w, [], (-1), by rw [stR_of _ _ _ _ _ hE]; rfl, ck_of _ _ _ (by omega), by decide, ?_⟩
    rw [shL]
    simp [hw]
  · rw [sh_b _ _ _ hb] at hl
    have hw := (b_of hb).1 rfl
    simp at hl
    obtain ⟨rfl, rfl⟩ := hl
    have hn' : n = -1 := by rw [hn]; rfl
    subst hn'
    have hE : stE 1 f w 2 (-1) = 0 := stE_of _ _ _ _ _ h0 (by decide) (.inr ⟨by decide, rfl⟩) (by unfold mayV; rw [hb]; rfl)
    refine ⟨hE, 4, f, w, [], (-1), by rw [stR_of _ _ _ _ _ hE]; rfl, ck_of _ _ _ (by omega), by decide, ?_⟩
    rw [shL]
    simp
  · rw [sh_b _ _ _ hb] at hl
    have hw := (b_of hb).2 rfl
    simp at hl
    obtain ⟨rfl, rfl⟩ := hl
    have hn' : n = -1 := by rw [hn]; rfl
    subst hn'
    have hE : stE 2 f w 3 (-1) = 0 := stE_of _ _ _ _ _ h0 (by decide) (.inr ⟨by decide, rfl⟩) (by unfold mayV; rw [hb]; rfl)
    refine ⟨hE, 3, f, w, [], (-1), by rw [stR_of _ _ _ _ _ hE]; rfl, ck_of _ _ _ (by omega), by decide, ?_⟩
    rw [shL]
    simp
  · rw [sh_b _ _ _ hb] at hl
    have hw := (b_of hb).1 rfl
    simp at hl
    obtain ⟨rfl, rfl⟩ := hl
    have hn' : n = -1 := by rw [hn]; rfl
    subst hn'
    have hE : stE 2 f w 2 (-1) = 0 := stE_of _ _ _ _ _ h0 (by decide) (.inr ⟨by decide, rfl⟩) (by unfold mayV; rw [hb]; rfl)
    refine ⟨hE, 4, f, w, [], (-1), by rw [stR_of _ _ _ _ _ hE]; rfl, ck_of _ _ _ (by omega), by decide, ?_⟩
    rw [shL]
    simp
  · rw [sh_b _ _ _ hb] at hl
    have hw := (b_of hb).2 rfl
    simp at hl
    obtain ⟨rfl, rfl⟩ := hl
    have hn' : n = -1 := by rw [hn]; rfl
    subst hn'
    have hE : stE 3 f w 5 (-1) = 0 := stE_of _ _ _ _ _ h0 (by decide) (.inr ⟨by decide, rfl⟩) (by unfold mayV; rw [hb]; rfl)
    refine ⟨hE, 5, f, w, [], f, by rw [stR_of _ _ _ _ _ hE]; rfl, ck_of _ _ _ (by omega), by decide, ?_⟩
    rw [shL]
    simp
  · rw [sh_b _ _ _ hb] at hl
    have hw := (b_of hb).1 rfl
    simp at hl
    obtain ⟨rfl, rfl⟩ := hl
    have hn' : n = -1 := by rw [hn]; rfl
    subst hn'
    have hE : stE 4 f w 4 (-1) = 0 := stE_of _ _ _ _ _ h0 (by decide) (.inr ⟨by decide, rfl⟩) (by unfold mayV; rw [hb]; rfl)
    refine ⟨hE, 5, w, (-1), (one f), w, by rw [stR_of _ _ _ _ _ hE]; rfl, ck_of _ _ _ (by omega), by decide, ?_⟩
    rw [shL]
    simp
  · rw [sh_b _ _ _ hb] at hl; simp at hl
  all_goals omega
theorem sh_end (s f w : Int) (h0 : ck s f w = 0) (hs : s ≤ 5) (hl : shL s w = []) : s = 5 := by
  rcases ck_sw s f w h0 with ⟨rfl, hb⟩ | ⟨rfl, hb⟩ | ⟨rfl, hb⟩ | ⟨rfl, hb⟩ | ⟨rfl, hb⟩ | ⟨rfl, hb⟩ | ⟨rfl, hb⟩ | ⟨rfl, hb⟩ | ⟨rfl, hb⟩ | ⟨rfl, hb⟩ | ⟨rfl, hb⟩
  all_goals first | rfl | omega | (rw [sh_b _ _ _ hb] at hl; simp at hl)
/-- one event that was picked, without kills -/
theorem pk_step (s f w e fr : Int) (h0 : ck s f w = 0) (hs : s ≤ 4) (he : e ∈ evN s w 5) (hfr : e = 1 ∧ 0 ≤ fr ∧ fr < 256 ∨ e ≠ 1 ∧ fr = -1) :
    stE s f w e fr = 0 ∧ ∃ s' f' w' l' m', stR s f w e fr = ⟨s', f', w', l', m'⟩ ∧ ck s' f' w' = 0 ∧ s' ≤ 5 ∧ muA s' w' < muA s w ∧ ((shL s' w').length ≤ (shL s w).length ∨ e = 4) := by
  obtain ⟨f0, f1, w0, w1, hcl⟩ := ck_cases s f w h0
  rcases ck_sw s f w h0 with ⟨rfl, hb⟩ | ⟨rfl, hb⟩ | ⟨rfl, hb⟩ | ⟨rfl, hb⟩ | ⟨rfl, hb⟩ | ⟨rfl, hb⟩ | ⟨rfl, hb⟩ | ⟨rfl, hb⟩ | ⟨rfl, hb⟩ | ⟨rfl, hb⟩ | ⟨rfl, hb⟩
  · have hw := (b_of hb).2 rfl
    rw [evN_v _ _ _ hb, show (((List.range 5).filter (fun k : Nat => mayB 1 false ((k : Int) + 1))).map (fun k : Nat => (k : Int) + 1)) = [1] from rfl] at he
    simp at he
    subst he
    have hfr' : 0 ≤ fr ∧ fr < 256 := by omega
    have hE : stE 1 f w 1 fr = 0 := stE_of _ _ _ _ _ h0 (by decide) (.inl ⟨rfl, by unfold inF; exact decide_eq_true hfr', by omega⟩) (by unfold mayV; rw [hb]; rfl)
    refine ⟨hE, 2, fr, w, [], (-1), by rw [stR_of _ _ _ _ _ hE]; rfl, ck_of _ _ _ (by omega), by decide, ?_, .inl ?_⟩
    · unfold muA
      rw [hb]
      decide
    · rw [sh_b _ _ _ hb, shL_v _ _ false hb]
      decide
  · have hw := (b_of hb).1 rfl
    rw [evN_v _ _ _ hb, show (((List.range 5).filter (fun k : Nat => mayB 1 true ((k : Int) + 1))).map (fun k : Nat => (k : Int) + 1)) = [2, 4] from rfl] at he
    simp at he
    rcases he with rfl | rfl
    · have hfr' : fr = -1 := by omega
      subst hfr'
      have hE : stE 1 f w 2 (-1) = 0 := stE_of _ _ _ _ _ h0 (by decide) (.inr ⟨by decide, rfl⟩) (by unfold mayV; rw [hb]; rfl)
      refine ⟨hE, 4, f, w, [], (-1), by rw [stR_of _ _ _ _ _ hE]; rfl, ck_of _ _ _ (by omega), by decide, ?_, .inl ?_⟩
      · unfold muA
        rw [hb]
        decide
      · rw [sh_b _ _ _ hb, shL_v _ _ true hb]
        decide
    · have hfr' : fr = -1 := by omega
      subst hfr'
      have hE : stE 1 f w 4 (-1) = 0 := stE_of _ _ _ _ _ h0 (by decide) (.inr ⟨by decide, rfl⟩) (by unfold mayV; rw [hb]; rfl)
      refine ⟨hE, 1, f, (-1), (one w), (-1), by rw [stR_of _ _ _ _ _ hE]; rfl, ck_of _ _ _ (by omega), by decide, ?_, .inr rfl⟩
      · unfold muA
        rw [hb, show (((-1) : Int) != -1) = false from rfl]
        decide
  · have hw := (b_of hb).2 rfl
    rw [evN_v _ _ _ hb, show (((List.range 5).filter (fun k : Nat => mayB 2 false ((k : Int) + 1))).map (fun k : Nat => (k : Int) + 1)) = [3] from rfl] at he
    simp at he
    subst he
    have hfr' : fr = -1 := by omega
    subst hfr'
    have hE : stE 2 f w 3 (-1) = 0 := stE_of _ _ _ _ _ h0 (by decide) (.inr ⟨by decide, rfl⟩) (by unfold mayV; rw [hb]; rfl)
    refine ⟨hE, 3, f, w, [], (-1), by rw [stR_of _ _ _ _ _ hE]; rfl, ck_of _ _ _ (by omega), by decide, ?_, .inl ?_⟩
    · unfold muA
      rw [hb]
      decide
    · rw [sh_b _ _ _ hb, shL_v _ _ false hb]
      decide
  · have hw := (b_of hb).1 rfl
    rw [evN_v _ _ _ hb, show (((List.range 5).filter (fun k : Nat => mayB 2 true ((k : Int) + 1))).map (fun k : Nat => (k : Int) + 1)) = [2, 4] from rfl] at he
    simp at he
    rcases he with rfl | rfl
    · have hfr' : fr = -1 := by omega
      subst hfr'
      have hE : stE 2 f w 2 (-1) = 0 := stE_of _ _ _ _ _ h0 (by decide) (.inr ⟨by decide, rfl⟩) (by unfold mayV; rw [hb]; rfl)
      refine ⟨hE, 4, f, w, [], (-1), by rw [stR_of _ _ _ _ _ hE]; rfl, ck_of _ _ _ (by omega), by decide, ?_, .inl ?_⟩
      · unfold muA
        rw [hb]
        decide
      · rw [sh_b _ _ _ hb, shL_v _ _ true hb]
        decide
    · have hfr' : fr = -1 := by omega
      subst hfr'
      have hE : stE 2 f w 4 (-1) = 0 := stE_of _ _ _ _ _ h0 (by decide) (.inr ⟨by decide, rfl⟩) (by unfold mayV; rw [hb]; rfl)
      refine ⟨hE, 2, f, (-1), (one w), (-1), by rw [stR_of _ _ _ _ _ hE]; rfl, ck_of _ _ _ (by omega), by decide, ?_, .inr rfl⟩
      · unfold muA
        rw [hb, show (((-1) : Int) != -1) = false from rfl]
        decide
  · have hw := (b_of hb).2 rfl
    rw [evN_v _ _ _ hb, show (((List.range 5).filter (fun k : Nat => mayB 3 false ((k : Int) + 1))).map (fun k : Nat => (k : Int) + 1)) = [5] from rfl] at he
    simp at he
    subst he
    have hfr' : fr = -1 := by omega
    subst hfr'
    have hE : stE 3 f w 5 (-1) = 0 := stE_of _ _ _ _ _ h0 (by decide) (.inr ⟨by decide, rfl⟩) (by unfold mayV; rw [hb]; rfl)
    refine ⟨hE, 5, f, w, [], f, by rw [stR_of _ _ _ _ _ hE]; rfl, ck_of _ _ _ (by omega), by decide, ?_, .inl ?_⟩
    · unfold muA
      rw [hb]
      decide
    · rw [sh_b _ _ _ hb, shL_v _ _ false hb]
      decide
  · have hw := (b_of hb).1 rfl
    rw [evN_v _ _ _ hb, show (((List.range 5).filter (fun k : Nat => mayB 4 true ((k : Int) + 1))).map (fun k : Nat => (k : Int) + 1)) = [4] from rfl] at he
    simp at he
    subst he
    have hfr' : fr = -1 := by omega
    subst hfr'
    have hE : stE 4 f w 4 (-1) = 0 := stE_of _ _ _ _ _ h0 (by decide) (.inr ⟨by decide, rfl⟩) (by unfold mayV; rw [hb]; rfl)
    refine ⟨hE, 5, w, (-1), (one f), w, by rw [stR_of _ _ _ _ _ hE]; rfl, ck_of _ _ _ (by omega), by decide, ?_, .inr rfl⟩
    · unfold muA
      rw [hb, show (((-1) : Int) != -1) = false from rfl]
      decide
  all_goals omega
theorem pick_any0 (s f w n : Int) (W : World) (hT : Tab W) (hc : ck s f w = 0) (hs : s ≤ 4) : Calls Tryd.prog 32 #[rd s f w, .int .i64 n, .bool false] W fun x w' => PickQ W (evN s w 5) x w' := by
  rcases ck_sw s f w hc with ⟨rfl, hb⟩ | ⟨rfl, hb⟩ | ⟨rfl, hb⟩ | ⟨rfl, hb⟩ | ⟨rfl, hb⟩ | ⟨rfl, hb⟩ | ⟨rfl, hb⟩ | ⟨rfl, hb⟩ | ⟨rfl, hb⟩ | ⟨rfl, hb⟩ | ⟨rfl, hb⟩
  · rw [evN_v _ _ _ hb]; exact pick_0_10 f w n W hT hc hb
  · rw [evN_v _ _ _ hb]; exact pick_0_11 f w n W hT hc hb
  · rw [evN_v _ _ _ hb]; exact pick_0_20 f w n W hT hc hb
  · rw [evN_v _ _ _ hb]; exact pick_0_21 f w n W hT hc hb
  · rw [evN_v _ _ _ hb]; exact pick_0_30 f w n W hT hc hb
  · rw [evN_v _ _ _ hb]; exact pick_0_41 f w n W hT hc hb
  all_goals omega
theorem pick_any5 (f w n : Int) (W : World) (hT : Tab W) (hc : ck 5 f w = 0) : Calls Tryd.prog 32 #[rd 5 f w, .int .i64 n, .bool false] W fun x w' => x = .returned (.tuple #[.int .i64 0, .int .i64 0, .bool false]) ∧ Ev W w' := by
  have hb : (w != -1) = false := by
    obtain ⟨_, _, _, _, h⟩ := ck_cases 5 f w hc
    have : w = -1 := by omega
    simp [this]
  exact pick_0_50 f w n W hT hc hb
end Go.Proofs.YtfiglmbnjfgdlaaDoor
