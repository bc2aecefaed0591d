import Derived.Test.YtkneonfhikcdkaaDoorJQ
namespace Go.Proofs.YtkneonfhikcdkaaDoor
/-- the blocks that are cut from a on -/
def cutP : Nat → Int → Int → List (Int × Int)
  | 0, _, _ => []
  | f + 1, a, t => if a < t then (a, ordV a t) :: cutP f (a + sz (ordV a t)) t else []
theorem cutC_flat (f : Nat) (a t : Int) : cutC f a t = flatS (cutP f a t) := by
  induction f generalizing a with
  | zero => rfl
  | succ f ih =>
    unfold cutC cutP
    split
    · rw [ih]; rfl
    · rfl
theorem ordV_max (a t o : Int) (h0 : 0 ≤ a) (h : a < t) (ht : t ≤ 256) (o0 : 0 ≤ o) (o6 : o ≤ 6) (hm : a % sz o = 0) (hs : a + sz o ≤ t) : o ≤ ordV a t := by
  have h1 := (ctz_sz a o h0 (by omega) o0 o6).2 hm
  have h2 := (bl_sz (t - a) o (by omega) (by omega) o0 o6).2 (by omega)
  unfold ordV
  omega
theorem ordV_al (a t : Int) (h0 : 0 ≤ a) (h : a < t) (ht : t ≤ 256) : a % sz (ordV a t) = 0 := by
  obtain ⟨h1, h2, -⟩ := ordV_bd a t h0 h ht
  exact (ctz_sz a _ h0 (by omega) h1 h2).1 (by unfold ordV; omega)
theorem ordV_ok (a t : Int) (h0 : 0 ≤ a) (h : a < t) (ht : t ≤ 256) : okB (a, ordV a t) := by
  obtain ⟨h1, h2, h3⟩ := ordV_bd a t h0 h ht
  have h4 := ordV_al a t h0 h ht
  show blkE a (ordV a t) = 0
  unfold blkE
  rw [if_neg (by omega), if_neg (by simpa using h4), if_neg (by omega)]
theorem cutP_ok : ∀ (f : Nat) (a t : Int), 0 ≤ a → a ≤ t → t ≤ 256 → okL a (cutP f a t)
  | 0, _, _, _, _, _ => trivial
  | f + 1, a, t, h0, h1, h2 => by
    unfold cutP
    by_cases h : a < t
    · rw [if_pos h]
      obtain ⟨-, -, h3⟩ := ordV_bd a t h0 h h2
      have := sz_bd (ordV a t)
      exact ⟨ordV_ok a t h0 h h2, Int.le_refl _, cutP_ok f _ t (by simp only []; omega) (by simp only []; omega) h2⟩
    · rw [if_neg h]; trivial
theorem frN_add (a n : Int) (h0 : 0 ≤ a) (hn : 0 ≤ n) : (fun i => frN a (n.toNat + i)) = frN (a + n) := by
  funext i
  unfold frN
  have : (a + n).toNat + i = a.toNat + (n.toNat + i) := by omega
  simp only [this]
theorem cutP_fr : ∀ (f : Nat) (a t : Int), 0 ≤ a → a ≤ t → t ≤ 256 → t - a ≤ f → frL (cutP f a t) = upto (frN a) (t - a).toNat
  | 0, a, t, h0, h1, _, hf => by
    have : (t - a).toNat = 0 := by omega
    rw [this]; rfl
  | f + 1, a, t, h0, h1, h2, hf => by
    unfold cutP
    by_cases h : a < t
    · rw [if_pos h]
      obtain ⟨-, -, h3⟩ := ordV_bd a t h0 h h2
      have hs := sz_bd (ordV a t)
      have ih := cutP_fr f (a + sz (ordV a t)) t (by omega) (by omega) h2 (by omega)
      have e : (t - a).toNat = (sz (ordV a t)).toNat + (t - (a + sz (ordV a t))).toNat := by omega
      have e2 : frL ((a, ordV a t) :: cutP f (a + sz (ordV a t)) t) = frB (a, ordV a t) ++ frL (cutP f (a + sz (ordV a t)) t) := by simp [frL]
      rw [e2, ih, e, upto_add, frN_add a _ h0 (by omega)]
      rfl
    · rw [if_neg h]
      have : (t - a).toNat = 0 := by omega
      rw [this]; rfl
theorem push_none {r : List (Int × Int)} {b : Int × Int} (h : ∀ t r', r = t :: r' → b.2 = 6 ∨ t ≠ (bud b.1 b.2, b.2)) : pushR r b = b :: r := by
  cases r with
  | nil => rfl
  | cons t r' => unfold pushR; rw [if_pos (h t r' rfl)]
/-- what is cut is joined -/
theorem cutP_join : ∀ (f : Nat) (a t : Int) (r : List (Int × Int)), 0 ≤ a → a ≤ t → t ≤ 256 → (∀ y r', r = y :: r' → 0 ≤ y.1 ∧ y.2 = ordV y.1 t ∧ y.1 + sz y.2 = a) → (cutP f a t).foldl pushR r = (cutP f a t).reverse ++ r
  | 0, _, _, _, _, _, _, _ => rfl
  | f + 1, a, t, r, h0, h1, h2, hr => by
    unfold cutP
    by_cases h : a < t
    · rw [if_pos h]
      obtain ⟨o1, o2, o3⟩ := ordV_bd a t h0 h h2
      have hal := ordV_al a t h0 h h2
      have hs := sz_bd (ordV a t)
      have hp : pushR r (a, ordV a t) = (a, ordV a t) :: r := push_none (fun y r' e => by
        obtain ⟨y0, y1, y2⟩ := hr y r' e
        by_cases h6 : ordV a t = 6
        · exact .inl h6
        · refine .inr (fun hy => ?_)
          have e1 : y.1 = bud a (ordV a t) := by rw [hy]
          have e2 : y.2 = ordV a t := by rw [hy]
          rw [e2] at y2
          have hmax : a - sz (ordV a t) = y.1 := by omega
          have key : (a - sz (ordV a t)) % sz (ordV a t + 1) = 0 := by
            unfold bud at e1
            rw [sz_two _ o1 (by omega)]
            by_cases hc : a % (2 * sz (ordV a t)) = 0
            · rw [if_pos hc] at e1; omega
            · clear e1 hy hr y1 y2 hmax e2 h6 o3
              generalize ordV a t = o at *
              rcases sz_cases o1 o2 with rfl | rfl | rfl | rfl | rfl | rfl | rfl
              all_goals simp [sz] at *
              all_goals omega
          have hlt : y.1 < t := by omega
          have := ordV_max y.1 t (ordV a t + 1) y0 hlt h2 (by omega) (by omega) (by rw [← hmax]; exact key) (by rw [sz_two _ o1 (by omega)]; omega)
          omega)
      simp only [List.foldl_cons, hp]
      rw [cutP_join f _ t _ (by omega) (by omega) h2 (fun y r' e => by
        injection e with e1 e2
        subst e1
        exact ⟨h0, rfl, rfl⟩)]
      simp
    · rw [if_neg h]; rfl
theorem joinL_cut (f : Nat) (a t : Int) (h0 : 0 ≤ a) (h1 : a ≤ t) (h2 : t ≤ 256) : joinL (cutP f a t) = cutP f a t := by
  unfold joinL joinR
  rw [cutP_join f a t [] h0 h1 h2 (fun y r' e => by cases e)]
  simp
/-- a block, or its halves -/
def part1 (c : Bool) (b : Int × Int) : List (Int × Int) := if c = true ∧ 1 ≤ b.2 then [(b.1, b.2 - 1), (b.1 + sz (b.2 - 1), b.2 - 1)] else [b]
theorem part1_push (c : Bool) (b : Int × Int) (r : List (Int × Int)) (hb : okB b) (hr : Bef r b.1) : (part1 c b).foldl pushR r = pushR r b := by
  unfold part1
  by_cases hc : c = true ∧ 1 ≤ b.2
  · rw [if_pos hc]
    obtain ⟨x, o⟩ := b
    obtain ⟨h1, h2, h3, h4, h5⟩ := blkE_ok (show blkE x o = 0 from hb)
    have ho := hc.2
    simp only [] at ho hr ⊢
    have hs := sz_bd (o - 1)
    have h2z : sz o = 2 * sz (o - 1) := by have := sz_two (o - 1) (by omega) (by omega); rwa [show o - 1 + 1 = o by omega] at this
    have hb1 : bud x (o - 1) = x + sz (o - 1) := by unfold bud; rw [← h2z, if_pos h4]
    have hmod : ¬ (x + sz (o - 1)) % (2 * sz (o - 1)) = 0 := by
      rw [← h2z]
      clear hr hb hb1 h5
      rcases (show o = 1 ∨ o = 2 ∨ o = 3 ∨ o = 4 ∨ o = 5 ∨ o = 6 by omega) with rfl | rfl | rfl | rfl | rfl | rfl
      all_goals simp [sz] at *
      all_goals omega
    have hb2 : bud (x + sz (o - 1)) (o - 1) = x := by unfold bud; rw [if_neg hmod]; omega
    have hp2 : par (x + sz (o - 1)) (o - 1) = x := by
      unfold par
      have : (x + sz (o - 1)) % (2 * sz (o - 1)) = sz (o - 1) := by
        rw [← h2z]
        clear hr hb hb1 h5 hmod hb2
        rcases (show o = 1 ∨ o = 2 ∨ o = 3 ∨ o = 4 ∨ o = 5 ∨ o = 6 by omega) with rfl | rfl | rfl | rfl | rfl | rfl
        all_goals simp [sz] at *
        all_goals omega
      rw [this]; omega
    have e1 : pushR r (x, o - 1) = (x, o - 1) :: r := push_none (fun y r' e => .inr (fun hy => by
      have hm : y ∈ r := by rw [e]; simp
      have := hr y hm
      have hsy := sz_bd y.2
      have : y.1 = bud x (o - 1) := by rw [hy]
      omega))
    have e2 : pushR ((x, o - 1) :: r) (x + sz (o - 1), o - 1) = pushR r (x, o) := by
      rw [pushR]
      simp only []
      rw [hb2, if_neg (by
        rintro (h | h)
        · omega
        · exact h rfl), hp2, show o - 1 + 1 = o by omega]
    simp only [List.foldl_cons, List.foldl_nil, e1, e2]
  · rw [if_neg hc]
    rfl
end Go.Proofs.YtkneonfhikcdkaaDoor
