import Derived.Test.YtnlbkaabhnkkfaaPK
namespace Go.Proofs.Ytnlbkaabhnkkfaa
open Go.RowKit
theorem gS_take (b c : Int) (l : List Int) (k j : Nat) (h : j ≤ k) : gS b c (l.take k) j = gS b c l j := by
  induction j with
  | zero => rfl
  | succ j ih =>
    show nxV b c (gS b c (l.take k) j) ((l.take k).getD j 0) = nxV b c (gS b c l j) (l.getD j 0)
    rw [ih (by omega)]
    congr 1
    simp only [List.getD_eq_getElem?_getD]
    rw [List.getElem?_take_of_lt (by omega)]
theorem upto_take {α : Type} (f : Nat → α) (n k : Nat) (h : k ≤ n) : (upto f n).take k = upto f k := by
  unfold upto
  rw [← List.map_take, List.take_range]
  congr 2
  omega
def mxL (a b c : Int) (m : Int) (l : List Int) : Int := l.foldl (fun m x => max m (lvV a b c x)) m
theorem worL_mx (a b c : Int) (l : List Int) : ∀ (w t : Int) (i : Nat), 0 ≤ w → (t < 0 → w = 0) → (worL a b c w t i l).1 = mxL a b c w l := by
  induction l with
  | nil => intro w t i _ _; rfl
  | cons x l ih =>
    intro w t i h1 h2
    have hb := lvV_bd a b c x
    unfold worL mxL
    rw [List.foldl_cons]
    by_cases h : t < 0 ∨ w < lvV a b c x
    · rw [if_pos h]
      have e : max w (lvV a b c x) = lvV a b c x := by
        rcases h with h | h
        · have := h2 h; omega
        · omega
      rw [e]
      exact ih _ _ _ (by omega) (fun h => by omega)
    · rw [if_neg h]
      have e : max w (lvV a b c x) = w := by omega
      rw [e]
      exact ih _ _ _ h1 (fun h' => by omega)
theorem mxL_max (a b c : Int) (l : List Int) : ∀ m : Int, 0 ≤ m → mxL a b c m l = max m (mxL a b c 0 l) := by
  induction l with
  | nil => intro m h; unfold mxL; simp; omega
  | cons x l ih =>
    intro m h
    have hb := lvV_bd a b c x
    have e1 : mxL a b c m (x :: l) = mxL a b c (max m (lvV a b c x)) l := rfl
    have e2 : mxL a b c 0 (x :: l) = mxL a b c (max 0 (lvV a b c x)) l := rfl
    rw [e1, e2, ih _ (by omega), ih (max 0 (lvV a b c x)) (by omega)]
    omega
theorem wo_parts (a b c : Int) (l : List Int) (k : Nat) (h : asE a b c l = 0) (h1 : asE a b c (l.take k) = 0) (h2 : asE a b c (l.drop k) = 0) : (woV a b c l).1 = max (woV a b c (l.take k)).1 (woV a b c (l.drop k)).1 := by
  have key : ∀ l, asE a b c l = 0 → (woV a b c l).1 = mxL a b c 0 l := by
    intro l h
    unfold woV
    rw [if_pos h]
    exact worL_mx a b c l 0 (-1) 0 (by omega) (fun _ => rfl)
  have hp : ∀ l m, 0 ≤ m → 0 ≤ mxL a b c m l := by
    intro l
    induction l with
    | nil => intro m h; exact h
    | cons x l ih =>
      intro m h
      have := lvV_bd a b c x
      show 0 ≤ mxL a b c (max m (lvV a b c x)) l
      exact ih _ (by omega)
  rw [key _ h, key _ h1, key _ h2, ← mxL_max _ _ _ _ _ (hp _ _ (by omega))]
  have : mxL a b c 0 l = mxL a b c 0 (l.take k ++ l.drop k) := by rw [List.take_append_drop]
  rw [this]
  unfold mxL
  rw [List.foldl_append]
theorem RdI.take {W : World} {A : Option Addr} {l : List Int} (h : RdI W A l) (k : Nat) (hk : k ≤ l.length) : RdI W A (l.take k) := by
  refine ⟨by have := h.1; rw [List.length_take]; omega, fun j hj => ?_⟩
  have hj' : j < k := by rw [List.length_take] at hj; omega
  obtain ⟨b, o, h1, h2, h3⟩ := h.2 j (by omega)
  refine ⟨b, o, h1, h2, ?_⟩
  rw [h3]
  simp only [List.getD_eq_getElem?_getD]
  rw [List.getElem?_take_of_lt hj']
theorem RdB.take {W : World} {A : Option Addr} {l : List Bool} (h : RdB W A l) (k : Nat) (hk : k ≤ l.length) : RdB W A (l.take k) := by
  refine ⟨by have := h.1; rw [List.length_take]; omega, fun j hj => ?_⟩
  have hj' : j < k := by rw [List.length_take] at hj; omega
  obtain ⟨b, o, h1, h2, h3⟩ := h.2 j (by omega)
  refine ⟨b, o, h1, h2, ?_⟩
  rw [h3]
  simp only [List.getD_eq_getElem?_getD]
  rw [List.getElem?_take_of_lt hj']
theorem RdI.drop {W : World} {b o : Nat} {l : List Int} (h : RdI W (some ⟨b, o, none⟩) l) (k : Nat) : RdI W (some ⟨b, o + k, none⟩) (l.drop k) := by
  refine ⟨by have := h.1; rw [List.length_drop]; omega, fun j hj => ?_⟩
  rw [List.length_drop] at hj
  obtain ⟨b', o', h1, h2, h3⟩ := h.2 (k + j) (by omega)
  injection h1 with h1
  injection h1 with h1 h4
  subst h1 h4
  refine ⟨b, o + k, rfl, h2, ?_⟩
  rw [Nat.add_assoc, h3]
  simp only [List.getD_eq_getElem?_getD]
  rw [List.getElem?_drop]
theorem RdI.nil (W : World) (A : Option Addr) : RdI W A [] := ⟨by simp, fun j hj => by simp at hj⟩
end Go.Proofs.Ytnlbkaabhnkkfaa
