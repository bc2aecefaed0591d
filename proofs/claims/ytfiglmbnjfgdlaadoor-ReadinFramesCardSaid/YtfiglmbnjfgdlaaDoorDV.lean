import Derived.Test.YtfiglmbnjfgdlaaDoorDT
import Derived.Test.YtfiglmbnjfgdlaaDoorDR
namespace Go.Proofs.YtfiglmbnjfgdlaaDoor
open Go.RowKit
def muD (s : Int) (b : Bool) : Nat := if s = 1 then (if b then 5 else 4) else if s = 2 then (if b then 4 else 3) else if s = 3 ∨ s = 4 then 2 else if s = 6 then 1 else if s = 7 then (if b then 1 else 0) else 0
def muC (s w : Int) : Nat := muD s (w != -1)
def hv (k x : Int) : Int := if k = x then 1 else 0
/-- how many of the two frames are k -/
def cn (f w k : Int) : Int := hv k f + hv k w
def cl : List Int → Int → Int
  | [], _ => 0
  | a :: t, k => hv k a + cl t k
theorem cl_snoc (l : List Int) (a k : Int) : cl (l ++ [a]) k = cl l k + hv k a := by
  induction l with
  | nil => simp [cl]
  | cons b t ih => simp only [List.cons_append, cl, ih]; omega
theorem cl_take (l : List Int) (j : Nat) (h : j < l.length) (k : Int) : cl (l.take (j + 1)) k = cl (l.take j) k + hv k (l.getD j 0) := by
  rw [List.take_succ_eq_append_getElem h, cl_snoc, List.getD_eq_getElem?_getD, List.getElem?_eq_getElem h]
  rfl
theorem one_neg : one (-1) = [] := rfl
theorem cl_one (x k : Int) (h : -1 ≤ x) (hk : 0 ≤ k) : cl (one x) k = hv k x := by
  unfold one
  split
  · rename_i h1
    subst h1
    unfold cl hv
    rw [if_neg (by omega)]
  · simp [cl]
theorem one_in (x : Int) (h : -1 ≤ x) (h2 : x < 256) : ∀ y ∈ one x, 0 ≤ y ∧ y < 256 := by
  unfold one
  split
  · intro y hy; cases hy
  · intro y hy
    have : y = x := by simpa using hy
    omega
theorem hv_neg (k : Int) (hk : 0 ≤ k) : hv k (-1) = 0 := by unfold hv; rw [if_neg (by omega)]
theorem fr2_mem (f w k : Int) : k ∈ fr2 f w ↔ (f ≠ -1 ∧ k = f) ∨ (w ≠ -1 ∧ k = w) := by
  unfold fr2
  have h1 : ∀ x, k ∈ one x ↔ (x ≠ -1 ∧ k = x) := by
    intro x
    unfold one
    split
    · rename_i h; simp [h]
    · rename_i h; simp [h]
  split <;> rw [flt2, List.mem_append, h1, h1]
  exact Or.comm
theorem cn_frL (s f w k : Int) (h : ck s f w = 0) (hk : 0 ≤ k) : cn f w k = if k ∈ frL s f w then 1 else 0 := by
  obtain ⟨f0, f1, w0, w1, hcl⟩ := ck_cases s f w h
  unfold frL
  rw [if_pos h]
  simp only [fr2_mem]
  unfold cn hv
  by_cases h1 : k = f <;> by_cases h2 : k = w
  · rw [if_pos h1, if_pos h2, if_pos (by omega)]; omega
  · rw [if_pos h1, if_neg h2, if_pos (by omega)]; rfl
  · rw [if_neg h1, if_pos h2, if_pos (by omega)]; rfl
  · rw [if_neg h1, if_neg h2, if_neg (by omega)]; rfl
theorem pkk_step (s f w e fr : Int) (h0 : ck s f w = 0) (he : e ∈ evN s w 6) (hfr : e = 1 ∧ 0 ≤ fr ∧ fr < 256 ∨ e ≠ 1 ∧ fr = -1) :
    stE s f w e fr = 0 ∧ ∃ s' f' w' l' m', stR s f w e fr = ⟨s', f', w', l', m'⟩ ∧ ck s' f' w' = 0 ∧ muC s' w' < muC s w ∧ (m' = -1 ∨ m' = f') ∧ l'.length ≤ 1 ∧ (∀ x ∈ l', 0 ≤ x ∧ x < 256) ∧ (∀ k, 0 ≤ k → cn f' w' k = cn f w k + (if e = 1 then hv k fr else 0) - cl l' k) := by
  obtain ⟨f0, f1, w0, w1, hcl⟩ := ck_cases s f w h0
  have hs := ck_sw s f w h0
  have key : ∀ b, (w != -1) = b → ∀ s', mayB s' b e = true → s' = s → 1 ≤ e ∧ e ≤ 6 → (e = 1 → fr ≠ w) → stE s f w e fr = 0 := by
    intro b hb s' hm hs' he2 hfw
    subst hs'
    refine stE_of _ _ _ _ _ h0 he2 ?_ (by unfold mayV; rw [hb]; exact hm)
    rcases hfr with ⟨h1, h2, h3⟩ | h1
    · exact .inl ⟨h1, by unfold inF; exact decide_eq_true ⟨h2, h3⟩, hfw h1⟩
    · exact .inr h1
  rcases hs with ⟨rfl, hb⟩ | ⟨rfl, hb⟩ | ⟨rfl, hb⟩ | ⟨rfl, hb⟩ | ⟨rfl, hb⟩ | ⟨rfl, hb⟩ | ⟨rfl, hb⟩ | ⟨rfl, hb⟩ | ⟨rfl, hb⟩ | ⟨rfl, hb⟩ | ⟨rfl, hb⟩
  · have hw := (b_of hb).2 rfl
    rw [evN_v _ _ _ hb, show (((List.range 6).filter (fun k : Nat => mayB 1 false ((k : Int) + 1))).map (fun k : Nat => (k : Int) + 1)) = [1, 6] from rfl] at he
    simp at he
    rcases he with rfl | rfl
    · have hE : stE 1 f w 1 fr = 0 := key _ hb 1 (by decide) rfl (by decide) (by omega)
      refine ⟨hE, 2, fr, w, [], (-1), by rw [stR_of _ _ _ _ _ hE]; rfl, ck_of _ _ _ (by omega), ?_, .inl rfl, by decide, (fun x hx => by cases hx), fun k hk => ?_⟩
      · unfold muC
        rw [hb]
        decide
      · unfold cn
        rw [show cl [] k = 0 from rfl]
        have hz := hv_neg k hk
        obtain rfl : f = -1 := by omega
        simp only [hz, if_true]
        omega
    · have hE : stE 1 f w 6 fr = 0 := key _ hb 1 (by decide) rfl (by decide) (by omega)
      have hfr' : fr = -1 := by omega
      subst hfr'
      refine ⟨hE, 7, (-1), w, (one f), (-1), by rw [stR_of _ _ _ _ _ hE]; rfl, ck_of _ _ _ (by omega), ?_, .inl rfl, one_le _, one_in _ (by omega) (by omega), fun k hk => ?_⟩
      · unfold muC
        rw [hb]
        decide
      · unfold cn
        rw [cl_one f k (by omega) hk]
        have hz := hv_neg k hk
        obtain rfl : f = -1 := by omega
        simp only [hz, show ((6 : Int) = 1) = False from by decide, if_false]
        omega
  · have hw := (b_of hb).1 rfl
    rw [evN_v _ _ _ hb, show (((List.range 6).filter (fun k : Nat => mayB 1 true ((k : Int) + 1))).map (fun k : Nat => (k : Int) + 1)) = [2, 4, 6] from rfl] at he
    simp at he
    rcases he with rfl | rfl | rfl
    · have hE : stE 1 f w 2 fr = 0 := key _ hb 1 (by decide) rfl (by decide) (by omega)
      have hfr' : fr = -1 := by omega
      subst hfr'
      refine ⟨hE, 4, f, w, [], (-1), by rw [stR_of _ _ _ _ _ hE]; rfl, ck_of _ _ _ (by omega), ?_, .inl rfl, by decide, (fun x hx => by cases hx), fun k hk => ?_⟩
      · unfold muC
        rw [hb]
        decide
      · unfold cn
        rw [show cl [] k = 0 from rfl]
        have hz := hv_neg k hk
        obtain rfl : f = -1 := by omega
        simp only [hz, show ((2 : Int) = 1) = False from by decide, if_false]
        omega
    · have hE : stE 1 f w 4 fr = 0 := key _ hb 1 (by decide) rfl (by decide) (by omega)
      have hfr' : fr = -1 := by omega
      subst hfr'
      refine ⟨hE, 1, f, (-1), (one w), (-1), by rw [stR_of _ _ _ _ _ hE]; rfl, ck_of _ _ _ (by omega), ?_, .inl rfl, one_le _, one_in _ (by omega) (by omega), fun k hk => ?_⟩
      · unfold muC
        rw [hb, show (((-1) : Int) != -1) = false from rfl]
        decide
      · unfold cn
        rw [cl_one w k (by omega) hk]
        have hz := hv_neg k hk
        obtain rfl : f = -1 := by omega
        simp only [hz, show ((4 : Int) = 1) = False from by decide, if_false]
        omega
    · have hE : stE 1 f w 6 fr = 0 := key _ hb 1 (by decide) rfl (by decide) (by omega)
      have hfr' : fr = -1 := by omega
      subst hfr'
      refine ⟨hE, 7, (-1), w, (one f), (-1), by rw [stR_of _ _ _ _ _ hE]; rfl, ck_of _ _ _ (by omega), ?_, .inl rfl, one_le _, one_in _ (by omega) (by omega), fun k hk => ?_⟩
      · unfold muC
        rw [hb]
        decide
      · unfold cn
        rw [cl_one f k (by omega) hk]
        have hz := hv_neg k hk
        obtain rfl : f = -1 := by omega
        simp only [hz, show ((6 : Int) = 1) = False from by decide, if_false]
        omega
  · have hw := (b_of hb).2 rfl
    rw [evN_v _ _ _ hb, show (((List.range 6).filter (fun k : Nat => mayB 2 false ((k : Int) + 1))).map (fun k : Nat => (k : Int) + 1)) = [3, 6] from rfl] at he
    simp at he
    rcases he with rfl | rfl
    · have hE : stE 2 f w 3 fr = 0 := key _ hb 2 (by decide) rfl (by decide) (by omega)
      have hfr' : fr = -1 := by omega
      subst hfr'
      refine ⟨hE, 3, f, w, [], (-1), by rw [stR_of _ _ _ _ _ hE]; rfl, ck_of _ _ _ (by omega), ?_, .inl rfl, by decide, (fun x hx => by cases hx), fun k hk => ?_⟩
      · unfold muC
        rw [hb]
        decide
      · unfold cn
        rw [show cl [] k = 0 from rfl]
        have hz := hv_neg k hk
        simp only [hz, show ((3 : Int) = 1) = False from by decide, if_false]
        omega
    · have hE : stE 2 f w 6 fr = 0 := key _ hb 2 (by decide) rfl (by decide) (by omega)
      have hfr' : fr = -1 := by omega
      subst hfr'
      refine ⟨hE, 7, (-1), w, (one f), (-1), by rw [stR_of _ _ _ _ _ hE]; rfl, ck_of _ _ _ (by omega), ?_, .inl rfl, one_le _, one_in _ (by omega) (by omega), fun k hk => ?_⟩
      · unfold muC
        rw [hb]
        decide
      · unfold cn
        rw [cl_one f k (by omega) hk]
        have hz := hv_neg k hk
        simp only [hz, show ((6 : Int) = 1) = False from by decide, if_false]
        omega
  · have hw := (b_of hb).1 rfl
    rw [evN_v _ _ _ hb, show (((List.range 6).filter (fun k : Nat => mayB 2 true ((k : Int) + 1))).map (fun k : Nat => (k : Int) + 1)) = [2, 4, 6] from rfl] at he
    simp at he
    rcases he with rfl | rfl | rfl
    · have hE : stE 2 f w 2 fr = 0 := key _ hb 2 (by decide) rfl (by decide) (by omega)
      have hfr' : fr = -1 := by omega
      subst hfr'
      refine ⟨hE, 4, f, w, [], (-1), by rw [stR_of _ _ _ _ _ hE]; rfl, ck_of _ _ _ (by omega), ?_, .inl rfl, by decide, (fun x hx => by cases hx), fun k hk => ?_⟩
      · unfold muC
        rw [hb]
        decide
      · unfold cn
        rw [show cl [] k = 0 from rfl]
        have hz := hv_neg k hk
        simp only [hz, show ((2 : Int) = 1) = False from by decide, if_false]
        omega
    · have hE : stE 2 f w 4 fr = 0 := key _ hb 2 (by decide) rfl (by decide) (by omega)
      have hfr' : fr = -1 := by omega
      subst hfr'
      refine ⟨hE, 2, f, (-1), (one w), (-1), by rw [stR_of _ _ _ _ _ hE]; rfl, ck_of _ _ _ (by omega), ?_, .inl rfl, one_le _, one_in _ (by omega) (by omega), fun k hk => ?_⟩
      · unfold muC
        rw [hb, show (((-1) : Int) != -1) = false from rfl]
        decide
      · unfold cn
        rw [cl_one w k (by omega) hk]
        have hz := hv_neg k hk
        simp only [hz, show ((4 : Int) = 1) = False from by decide, if_false]
        omega
    · have hE : stE 2 f w 6 fr = 0 := key _ hb 2 (by decide) rfl (by decide) (by omega)
      have hfr' : fr = -1 := by omega
      subst hfr'
      refine ⟨hE, 7, (-1), w, (one f), (-1), by rw [stR_of _ _ _ _ _ hE]; rfl, ck_of _ _ _ (by omega), ?_, .inl rfl, one_le _, one_in _ (by omega) (by omega), fun k hk => ?_⟩
      · unfold muC
        rw [hb]
        decide
      · unfold cn
        rw [cl_one f k (by omega) hk]
        have hz := hv_neg k hk
        simp only [hz, show ((6 : Int) = 1) = False from by decide, if_false]
        omega
  · have hw := (b_of hb).2 rfl
    rw [evN_v _ _ _ hb, show (((List.range 6).filter (fun k : Nat => mayB 3 false ((k : Int) + 1))).map (fun k : Nat => (k : Int) + 1)) = [5, 6] from rfl] at he
    simp at he
    rcases he with rfl | rfl
    · have hE : stE 3 f w 5 fr = 0 := key _ hb 3 (by decide) rfl (by decide) (by omega)
      have hfr' : fr = -1 := by omega
      subst hfr'
      refine ⟨hE, 5, f, w, [], f, by rw [stR_of _ _ _ _ _ hE]; rfl, ck_of _ _ _ (by omega), ?_, .inr rfl, by decide, (fun x hx => by cases hx), fun k hk => ?_⟩
      · unfold muC
        rw [hb]
        decide
      · unfold cn
        rw [show cl [] k = 0 from rfl]
        have hz := hv_neg k hk
        simp only [hz, show ((5 : Int) = 1) = False from by decide, if_false]
        omega
    · have hE : stE 3 f w 6 fr = 0 := key _ hb 3 (by decide) rfl (by decide) (by omega)
      have hfr' : fr = -1 := by omega
      subst hfr'
      refine ⟨hE, 6, f, w, [], (-1), by rw [stR_of _ _ _ _ _ hE]; rfl, ck_of _ _ _ (by omega), ?_, .inl rfl, by decide, (fun x hx => by cases hx), fun k hk => ?_⟩
      · unfold muC
        rw [hb]
        decide
      · unfold cn
        rw [show cl [] k = 0 from rfl]
        have hz := hv_neg k hk
        simp only [hz, show ((6 : Int) = 1) = False from by decide, if_false]
        omega
  · have hw := (b_of hb).1 rfl
    rw [evN_v _ _ _ hb, show (((List.range 6).filter (fun k : Nat => mayB 4 true ((k : Int) + 1))).map (fun k : Nat => (k : Int) + 1)) = [4, 6] from rfl] at he
    simp at he
    rcases he with rfl | rfl
    · have hE : stE 4 f w 4 fr = 0 := key _ hb 4 (by decide) rfl (by decide) (by omega)
      have hfr' : fr = -1 := by omega
      subst hfr'
      refine ⟨hE, 5, w, (-1), (one f), w, by rw [stR_of _ _ _ _ _ hE]; rfl, ck_of _ _ _ (by omega), ?_, .inr rfl, one_le _, one_in _ (by omega) (by omega), fun k hk => ?_⟩
      · unfold muC
        rw [hb, show (((-1) : Int) != -1) = false from rfl]
        decide
      · unfold cn
        rw [cl_one f k (by omega) hk]
        have hz := hv_neg k hk
        simp only [hz, show ((4 : Int) = 1) = False from by decide, if_false]
        omega
    · have hE : stE 4 f w 6 fr = 0 := key _ hb 4 (by decide) rfl (by decide) (by omega)
      have hfr' : fr = -1 := by omega
      subst hfr'
      refine ⟨hE, 7, (-1), w, (one f), (-1), by rw [stR_of _ _ _ _ _ hE]; rfl, ck_of _ _ _ (by omega), ?_, .inl rfl, one_le _, one_in _ (by omega) (by omega), fun k hk => ?_⟩
      · unfold muC
        rw [hb]
        decide
      · unfold cn
        rw [cl_one f k (by omega) hk]
        have hz := hv_neg k hk
        simp only [hz, show ((6 : Int) = 1) = False from by decide, if_false]
        omega
  · have hw := (b_of hb).2 rfl
    rw [evN_v _ _ _ hb, show (((List.range 6).filter (fun k : Nat => mayB 5 false ((k : Int) + 1))).map (fun k : Nat => (k : Int) + 1)) = [] from rfl] at he
    cases he
  · have hw := (b_of hb).2 rfl
    rw [evN_v _ _ _ hb, show (((List.range 6).filter (fun k : Nat => mayB 6 false ((k : Int) + 1))).map (fun k : Nat => (k : Int) + 1)) = [5] from rfl] at he
    simp at he
    subst he
    have hE : stE 6 f w 5 fr = 0 := key _ hb 6 (by decide) rfl (by decide) (by omega)
    have hfr' : fr = -1 := by omega
    subst hfr'
    refine ⟨hE, 8, (-1), w, (one f), (-1), by rw [stR_of _ _ _ _ _ hE]; rfl, ck_of _ _ _ (by omega), ?_, .inl rfl, one_le _, one_in _ (by omega) (by omega), fun k hk => ?_⟩
    · unfold muC
      rw [hb]
      decide
    · unfold cn
      rw [cl_one f k (by omega) hk]
      have hz := hv_neg k hk
      simp only [hz, show ((5 : Int) = 1) = False from by decide, if_false]
      omega
  · have hw := (b_of hb).2 rfl
    rw [evN_v _ _ _ hb, show (((List.range 6).filter (fun k : Nat => mayB 7 false ((k : Int) + 1))).map (fun k : Nat => (k : Int) + 1)) = [] from rfl] at he
    cases he
  · have hw := (b_of hb).1 rfl
    rw [evN_v _ _ _ hb, show (((List.range 6).filter (fun k : Nat => mayB 7 true ((k : Int) + 1))).map (fun k : Nat => (k : Int) + 1)) = [4] from rfl] at he
    simp at he
    subst he
    have hE : stE 7 f w 4 fr = 0 := key _ hb 7 (by decide) rfl (by decide) (by omega)
    have hfr' : fr = -1 := by omega
    subst hfr'
    refine ⟨hE, 7, f, (-1), (one w), (-1), by rw [stR_of _ _ _ _ _ hE]; rfl, ck_of _ _ _ (by omega), ?_, .inl rfl, one_le _, one_in _ (by omega) (by omega), fun k hk => ?_⟩
    · unfold muC
      rw [hb, show (((-1) : Int) != -1) = false from rfl]
      decide
    · unfold cn
      rw [cl_one w k (by omega) hk]
      have hz := hv_neg k hk
      obtain rfl : f = -1 := by omega
      simp only [hz, show ((4 : Int) = 1) = False from by decide, if_false]
      omega
  · have hw := (b_of hb).2 rfl
    rw [evN_v _ _ _ hb, show (((List.range 6).filter (fun k : Nat => mayB 8 false ((k : Int) + 1))).map (fun k : Nat => (k : Int) + 1)) = [] from rfl] at he
    cases he
theorem pickk_any (s f w n : Int) (W : World) (hT : Tab W) (hc : ck s f w = 0) (hne : evN s w 6 ≠ []) : Calls Tryd.prog 32 #[rd s f w, .int .i64 n, .bool true] W fun x w' => PickQ W (evN s w 6) x w' := by
  rcases ck_sw s f w hc with ⟨rfl, hb⟩ | ⟨rfl, hb⟩ | ⟨rfl, hb⟩ | ⟨rfl, hb⟩ | ⟨rfl, hb⟩ | ⟨rfl, hb⟩ | ⟨rfl, hb⟩ | ⟨rfl, hb⟩ | ⟨rfl, hb⟩ | ⟨rfl, hb⟩ | ⟨rfl, hb⟩
  · rw [evN_v _ _ _ hb]; exact pick_1_10 f w n W hT hc hb
  · rw [evN_v _ _ _ hb]; exact pick_1_11 f w n W hT hc hb
  · rw [evN_v _ _ _ hb]; exact pick_1_20 f w n W hT hc hb
  · rw [evN_v _ _ _ hb]; exact pick_1_21 f w n W hT hc hb
  · rw [evN_v _ _ _ hb]; exact pick_1_30 f w n W hT hc hb
  · rw [evN_v _ _ _ hb]; exact pick_1_41 f w n W hT hc hb
  · exact absurd (by rw [evN_v _ _ _ hb]; rfl) hne
  · rw [evN_v _ _ _ hb]; exact pick_1_60 f w n W hT hc hb
  · exact absurd (by rw [evN_v _ _ _ hb]; rfl) hne
  · rw [evN_v _ _ _ hb]; exact pick_1_71 f w n W hT hc hb
  · exact absurd (by rw [evN_v _ _ _ hb]; rfl) hne
theorem pickk_no (s f w n : Int) (W : World) (hT : Tab W) (hc : ck s f w = 0) (hne : evN s w 6 = []) : Calls Tryd.prog 32 #[rd s f w, .int .i64 n, .bool true] W fun x w' => x = .returned (.tuple #[.int .i64 0, .int .i64 0, .bool false]) ∧ Ev W w' := by
  rcases ck_sw s f w hc with ⟨rfl, hb⟩ | ⟨rfl, hb⟩ | ⟨rfl, hb⟩ | ⟨rfl, hb⟩ | ⟨rfl, hb⟩ | ⟨rfl, hb⟩ | ⟨rfl, hb⟩ | ⟨rfl, hb⟩ | ⟨rfl, hb⟩ | ⟨rfl, hb⟩ | ⟨rfl, hb⟩
  · rw [evN_v _ _ _ hb] at hne; exact absurd hne (by decide)
  · rw [evN_v _ _ _ hb] at hne; exact absurd hne (by decide)
  · rw [evN_v _ _ _ hb] at hne; exact absurd hne (by decide)
  · rw [evN_v _ _ _ hb] at hne; exact absurd hne (by decide)
  · rw [evN_v _ _ _ hb] at hne; exact absurd hne (by decide)
  · rw [evN_v _ _ _ hb] at hne; exact absurd hne (by decide)
  · exact pick_1_50 f w n W hT hc hb
  · rw [evN_v _ _ _ hb] at hne; exact absurd hne (by decide)
  · exact pick_1_70 f w n W hT hc hb
  · rw [evN_v _ _ _ hb] at hne; exact absurd hne (by decide)
  · exact pick_1_80 f w n W hT hc hb
theorem step_ofR (s f w e n s' f' w' m' : Int) (l' : List Int) (hE : stE s f w e n = 0) (hR : stR s f w e n = ⟨s', f', w', l', m'⟩) (W : World) (hT : Tab W) : Calls Tryd.prog 12 #[rd s f w, .int .i64 e, .int .i64 n] W fun x W' => ∃ A c, x = .returned (.tuple #[rd s' f' w', .slice A l'.length c, .int .i64 m', .int .i64 0]) ∧ RdI W' A l' ∧ (∀ a : Addr, A = some a → W.heap.size ≤ a.block) ∧ Ev W W' := by
  have h := stepF_any s f w e n W hT
  rw [hE, hR] at h
  exact h
theorem check_of (s f w : Int) (h0 : ck s f w = 0) (W : World) : Calls Tryd.prog 10 #[rd s f w] W fun x w' => x = .returned (.int .i64 0) ∧ Ev W w' := by
  have h := check_any s f w W
  rwa [h0] at h
theorem over_of (s f w : Int) (W : World) (hT : Tab W) (h0 : ck s f w = 0) (hne : evN s w 6 = []) : Calls Tryd.prog 24 #[rd s f w] W fun x w' => x = .returned (.tuple #[.bool true, .int .i64 0]) ∧ Ev W w' := by
  have h := over_any s f w W hT
  have hl : evL s f w = [] := by unfold evL; rw [if_pos h0, hne]
  rw [h0, hl] at h
  exact h
theorem frames_of (s f w : Int) (h0 : ck s f w = 0) (W : World) : Calls Tryd.prog 19 #[rd s f w] W fun x w' => ListQ W (frL s f w) 0 x w' := by
  have h := frames_any s f w W
  rwa [h0] at h
set_option maxHeartbeats 400000 in
theorem has_any (A : Option Addr) (c : Nat) (l : List Int) (x : Int) (w : World) (hx : RdI w A l) (hx1 : -9223372036854775808 ≤ x ∧ x ≤ 9223372036854775807) :
    Calls Tryd.prog 34 #[.slice A l.length c, .int .i64 x] w fun e w' => e = .returned (.bool (decide (x ∈ l))) ∧ Ev w w' := by
  have hn := hx.1
  go_enter Tryd.func34, Tryd.ntmps34
  go_wp2
  go_loopw [5] (fun i wr => ∃ k m : Nat, k ≤ l.length ∧ x ∉ l.take k ∧ i = .int .i64 k ∧ wr = w.drewN m) (fun i _ => l.length - (intOf i).toNat)
  case atStart => exact ⟨0, 0, Nat.zero_le _, by simp, rfl, rfl⟩
  case round =>
    obtain ⟨k, m, hk, hnot, rfl, rfl⟩ := hrel
    have hk0 : (0 : Int) ≤ (k : Int) := by omega
    by_cases hlt : k < l.length
    · obtain ⟨b, o, rfl, hb, k1⟩ := hx.2 k hlt
      have hlt' : (k : Int) < (l.length : Int) := by omega
      have hg : l.getD k 0 = l[k] := by rw [List.getD_eq_getElem?_getD, List.getElem?_eq_getElem hlt]; rfl
      have ht : l.take (k + 1) = l.take k ++ [l[k]] := List.take_succ_eq_append_getElem hlt
      have hmem : l[k] ∈ l := List.getElem_mem hlt
      rw [hg] at k1
      generalize l[k] = y at *
      have HT := Lib.hid ht
      have HN := Lib.hid hnot
      have HM := Lib.hid hmem
      clear hx hg ht hnot hmem
      by_cases hxy : y = x
      · subst hxy
        go_wp2
        go_ret
        have hd : decide (y ∈ l) = true := decide_eq_true HM.out
        exact ⟨by rw [hd]; rfl, below_drewN (Below.refl _ _) _⟩
      · have hxy1 : (y == x) = false := by simp [hxy]
        go_wp2
        go_roundw
        case rel => exact ⟨k + 1, m, by omega, by rw [HT.out]; simp; exact ⟨HN.out, fun h => hxy h.symm⟩, by go_num, rfl⟩
        case measure => simp [intOf]; omega
    · obtain rfl : k = l.length := by omega
      rw [List.take_length] at hnot
      have hd : decide (x ∈ l) = false := decide_eq_false hnot
      go_wp2
      go_ret
      exact ⟨by rw [hd]; rfl, below_drewN (Below.refl _ _) _⟩
end Go.Proofs.YtfiglmbnjfgdlaaDoor
