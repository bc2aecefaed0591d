import Derived.Test.YtfiglmbnjfgdlaaDoorED
namespace Go.Proofs.YtfiglmbnjfgdlaaDoor
open Go.RowKit Go.Shelf
theorem walk_any (s f w : Int) (B : Option Addr) (n d : Nat) (W : World) : Calls Tryd.prog 50 #[rd s f w, .slice B n d] W fun e w' => e = .returned (.func (.func 54) #[] #[.pointer (some ⟨W.heap.size + 1, 0, none⟩), .pointer (some ⟨W.heap.size, 0, none⟩)]) ∧ (W.alloc (rdO s f w)).alloc (.cells #[.slice B n d] 38) = w' := by
  go_enter Tryd.func50, Tryd.ntmps50
  go_wp2_with fail
  go_ret
  exact ⟨rfl, rfl⟩
/-- the access after these elements -/
def cur (s f w : Int) (pre : List El) : El := pre.getLast?.getD (s, f, w, 0)
theorem cur_snoc (s f w : Int) (pre : List El) (x : El) : cur s f w (pre ++ [x]) = x := by simp [cur]
theorem cur_cons (s f w : Int) (x : El) (t : List El) : cur s f w (x :: t) = cur x.1 x.2.1 x.2.2.1 t ∨ t = [] := by
  cases t with
  | nil => exact .inr rfl
  | cons y t => exact .inl (by
      unfold cur
      rw [List.getLast?_cons_cons]
      cases h : (y :: t).getLast? with
      | none => simp at h
      | some z => rfl)
/-- a run that has no error -/
theorem ru_all : ∀ (cs : List (Int × Int)) (s f w : Int) (i : Nat), (∀ x ∈ seqE s f w cs, x.2.2.2 = 0) →
    ru s f w cs i = ⟨(cur s f w (seqE s f w cs)).1, (cur s f w (seqE s f w cs)).2.1, (cur s f w (seqE s f w cs)).2.2.1, i + cs.length, 0⟩
  | [], s, f, w, i, _ => rfl
  | (fr, e) :: t, s, f, w, i, h => by
    have h0 : stE s f w e fr = 0 := h _ (List.mem_cons_self ..)
    have ht := ru_all t (stR s f w e fr).s (stR s f w e fr).f (stR s f w e fr).w (i + 1) (fun x hx => h x (List.mem_cons_of_mem _ hx))
    unfold ru seqE
    rw [if_pos h0, ht]
    rcases cur_cons s f w ((stR s f w e fr).s, (stR s f w e fr).f, (stR s f w e fr).w, stE s f w e fr) (seqE (stR s f w e fr).s (stR s f w e fr).f (stR s f w e fr).w t) with hc | hc
    · rw [hc]
      simp only [List.length_cons]
      congr 1
      omega
    · have hl : t.length = 0 := by rw [← seqE_len t (stR s f w e fr).s (stR s f w e fr).f (stR s f w e fr).w, hc]; rfl
      rw [hc]
      simp [cur, hl]
/-- a run that ends at an error -/
theorem ru_stop : ∀ (cs : List (Int × Int)) (s f w : Int) (i k : Nat) (pre : List El) (x : El), k < cs.length → pre ++ [x] = (seqE s f w cs).take (k + 1) → (∀ y ∈ pre, y.2.2.2 = 0) → x.2.2.2 ≠ 0 →
    ru s f w cs i = ⟨(cur s f w pre).1, (cur s f w pre).2.1, (cur s f w pre).2.2.1, i + pre.length, x.2.2.2⟩
  | [], s, f, w, i, k, pre, x, hk, _, _, _ => by simp at hk
  | (fr, e) :: t, s, f, w, i, k, pre, x, hk, hp, hy, hx => by
    unfold seqE at hp
    cases pre with
    | nil =>
      simp at hp
      obtain ⟨rfl, _⟩ := hp
      unfold ru
      rw [if_neg hx]
      rfl
    | cons p q =>
      simp only [List.cons_append, List.take_succ_cons, List.cons.injEq] at hp
      obtain ⟨hp1, hp2⟩ := hp
      have h0 : stE s f w e fr = 0 := by have := hy p (List.mem_cons_self ..); rw [hp1] at this; exact this
      cases k with
      | zero => simp at hp2
      | succ k =>
        have ht := ru_stop t (stR s f w e fr).s (stR s f w e fr).f (stR s f w e fr).w (i + 1) k q x (by simpa using hk) hp2 (fun y h => hy y (List.mem_cons_of_mem _ h)) hx
        unfold ru
        rw [if_pos h0, ht]
        rcases cur_cons s f w p q with hc | hc
        · rw [hc, hp1]
          simp only [List.length_cons]
          congr 1
          omega
        · subst hc
          rw [hp1]
          simp [cur]
end Go.Proofs.YtfiglmbnjfgdlaaDoor
