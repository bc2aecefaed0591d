import Derived.Test.YtkneonfhikcdkaaDoorOJ
namespace Go.Proofs.YtkneonfhikcdkaaDoor
/-- one block more on a joined stack (its top is the list's head) -/
def pushR : List (Int × Int) → Int × Int → List (Int × Int)
  | [], b => [b]
  | t :: r, b => if b.2 = 6 ∨ t ≠ (bud b.1 b.2, b.2) then b :: t :: r else pushR r (par b.1 b.2, b.2 + 1)
def joinR (l : List (Int × Int)) : List (Int × Int) := l.foldl pushR []
/-- the joined list -/
def joinL (l : List (Int × Int)) : List (Int × Int) := (joinR l).reverse
theorem joinR_snoc (l : List (Int × Int)) (x : Int × Int) : joinR (l ++ [x]) = pushR (joinR l) x := by simp [joinR]
def okB (x : Int × Int) : Prop := blkE x.1 x.2 = 0
/-- blocks are valid, and each one ends before the one ahead of it -/
def Desc (r : List (Int × Int)) : Prop := (∀ x ∈ r, okB x) ∧ r.Pairwise (fun a b => b.1 + sz b.2 ≤ a.1)
/-- all blocks end before x -/
def Bef (r : List (Int × Int)) (x : Int) : Prop := ∀ y ∈ r, y.1 + sz y.2 ≤ x
theorem Desc.nil : Desc [] := ⟨fun x hx => (by cases hx), List.Pairwise.nil⟩
theorem Desc.cons {r : List (Int × Int)} {b : Int × Int} (h : Desc r) (hb : okB b) (hx : Bef r b.1) : Desc (b :: r) :=
  ⟨(fun x hx' => (by rcases List.mem_cons.1 hx' with rfl | h'; exact hb; exact h.1 x h')), List.pairwise_cons.2 ⟨fun y hy => hx y hy, h.2⟩⟩
theorem Desc.tail {r : List (Int × Int)} {b : Int × Int} (h : Desc (b :: r)) : Desc r := ⟨fun x hx => h.1 x (List.mem_cons_of_mem _ hx), (List.pairwise_cons.1 h.2).2⟩
theorem Desc.head {r : List (Int × Int)} {b : Int × Int} (h : Desc (b :: r)) : okB b ∧ Bef r b.1 := ⟨h.1 b (by simp), (List.pairwise_cons.1 h.2).1⟩
theorem sz_two (o : Int) (h : 0 ≤ o) (h5 : o < 6) : sz (o + 1) = 2 * sz o := by
  rcases (show o = 0 ∨ o = 1 ∨ o = 2 ∨ o = 3 ∨ o = 4 ∨ o = 5 by omega) with rfl | rfl | rfl | rfl | rfl | rfl <;> rfl
/-- a valid block that joins the one ahead of it -/
theorem par_ok {x o : Int} (h : okB (x, o)) (h6 : o ≠ 6) (t : Int × Int) (ht : t = (bud x o, o)) (hb : t.1 + sz t.2 ≤ x) : par x o = t.1 ∧ okB (par x o, o + 1) ∧ t.2 = o := by
  subst ht
  have h' : blkE x o = 0 := h
  obtain ⟨h1, h2, h3, h4, h5⟩ := blkE_ok h'
  have hs := sz_bd o
  simp only [] at hb
  unfold bud at hb ⊢
  unfold okB
  simp only []
  have key : ¬ x % (2 * sz o) = 0 := fun e => by rw [if_pos e] at hb; omega
  rw [if_neg key] at hb ⊢
  have hm : x % (2 * sz o) = sz o := by
    rcases sz_cases h1 h2 with rfl | rfl | rfl | rfl | rfl | rfl | rfl
    all_goals simp [sz] at *
    all_goals omega
  have hp : par x o = x - sz o := by unfold par; rw [hm]
  have hge : sz o ≤ x := by
    rcases sz_cases h1 h2 with rfl | rfl | rfl | rfl | rfl | rfl | rfl
    all_goals simp [sz] at *
    all_goals omega
  refine ⟨by rw [hp], ?_, by trivial⟩
  rw [hp]
  have h256 : x - sz o + 2 * sz o ≤ 256 := by omega
  unfold blkE
  rw [sz_two o h1 (by omega), if_neg (by omega), if_neg (by
    rcases sz_cases h1 h2 with rfl | rfl | rfl | rfl | rfl | rfl | rfl
    all_goals simp [sz] at *
    all_goals omega), if_neg (by omega)]
theorem pushR_desc : ∀ (r : List (Int × Int)) (b : Int × Int), Desc r → okB b → Bef r b.1 → Desc (pushR r b) ∧ Bef (pushR r b) (b.1 + sz b.2)
  | [], b, _, hb, _ => by
    refine ⟨Desc.nil.cons hb (fun y hy => by cases hy), ?_⟩
    intro y hy
    have h : y = b := by simpa [pushR] using hy
    rw [h]
    omega
  | t :: r, b, h, hb, hx => by
    unfold pushR
    by_cases hc : b.2 = 6 ∨ t ≠ (bud b.1 b.2, b.2)
    · rw [if_pos hc]
      refine ⟨h.cons hb hx, fun y hy => ?_⟩
      have := (sz_bd b.2).1
      rcases List.mem_cons.1 hy with rfl | hy
      · omega
      · have := hx y hy; omega
    · rw [if_neg hc]
      have h6 : b.2 ≠ 6 := fun e => hc (.inl e)
      have ht : t = (bud b.1 b.2, b.2) := Classical.not_not.1 (fun e => hc (.inr e))
      obtain ⟨x, o⟩ := b
      simp only [] at *
      have hbt := hx t (by simp)
      obtain ⟨h1, h2, h3⟩ := par_ok hb h6 t ht hbt
      obtain ⟨q1, q2⟩ := pushR_desc r (par x o, o + 1) h.tail h2 (by simp only []; rw [h1]; exact h.head.2)
      refine ⟨q1, fun y hy => ?_⟩
      have := q2 y hy
      simp only [] at this
      obtain ⟨p1, p2, -⟩ := blkE_ok (show blkE x o = 0 from hb)
      rw [sz_two o p1 (by omega), h1] at this
      rw [h3] at hbt
      omega
theorem pushR_len : ∀ (r : List (Int × Int)) (b : Int × Int), (pushR r b).length ≤ r.length + 1
  | [], b => by simp [pushR]
  | t :: r, b => by
    unfold pushR
    split
    · simp
    · have := pushR_len r (par b.1 b.2, b.2 + 1)
      simp only [List.length_cons]
      omega
/-- a valid list, from e on -/
def okL : Int → List (Int × Int) → Prop
  | _, [] => True
  | e, b :: r => okB b ∧ e ≤ b.1 ∧ okL (b.1 + sz b.2) r
theorem okL_of : ∀ (l : List (Int × Int)) (i : Nat) (e : Int), chkL i e l = (0, 0) → okL e l
  | [], _, _, _ => trivial
  | (x, o) :: r, i, e, h => by
    unfold chkL at h
    by_cases h1 : blkE x o ≠ 0
    · rw [if_pos h1] at h
      exact absurd (Prod.mk.inj h).1 h1
    · rw [if_neg h1] at h
      by_cases h2 : x < e
      · rw [if_pos h2] at h; cases h
      · rw [if_neg h2] at h
        exact ⟨Classical.not_not.1 h1, by omega, okL_of r _ _ h⟩
theorem chkL_err : ∀ (l : List (Int × Int)) (i : Nat) (e : Int), (chkL i e l).1 = 0 → chkL i e l = (0, 0)
  | [], _, _, _ => rfl
  | (x, o) :: r, i, e, h => by
    unfold chkL at h ⊢
    by_cases h1 : blkE x o ≠ 0
    · rw [if_pos h1] at h; exact absurd h h1
    · rw [if_neg h1] at h ⊢
      by_cases h2 : x < e
      · rw [if_pos h2] at h; cases h
      · rw [if_neg h2] at h ⊢
        exact chkL_err r _ _ h
theorem joinR_ok : ∀ (l : List (Int × Int)) (s : List (Int × Int)) (e : Int), okL e l → Desc s → Bef s e → Desc (l.foldl pushR s)
  | [], s, _, _, hs, _ => hs
  | b :: r, s, e, h, hs, hb => by
    obtain ⟨h1, h2, h3⟩ := h
    obtain ⟨q1, q2⟩ := pushR_desc s b hs h1 (fun y hy => by have := hb y hy; omega)
    exact joinR_ok r _ _ h3 q1 q2
/-- the state of the joined stack behind k blocks -/
theorem join_at (l : List (Int × Int)) (h : chkL 0 0 l = (0, 0)) : ∀ k, k ≤ l.length → Desc (joinR (l.take k)) ∧ (joinR (l.take k)).length ≤ k ∧ ∀ j, k ≤ j → j < l.length → okB (l.getD j (0, 0)) ∧ Bef (joinR (l.take k)) (l.getD j (0, 0)).1 := by
  have hok := okL_of l 0 0 h
  -- each block behind begins behind the end
  have key : ∀ (l : List (Int × Int)) (e : Int), okL e l → ∀ j, j < l.length → okB (l.getD j (0, 0)) ∧ e ≤ (l.getD j (0, 0)).1 := by
    intro l
    induction l with
    | nil => intro e _ j hj; simp at hj
    | cons b r ih =>
      intro e h j hj
      obtain ⟨h1, h2, h3⟩ := h
      rcases j with _ | j
      · exact ⟨h1, h2⟩
      · have := ih _ h3 j (by simpa using hj)
        have hs := (sz_bd b.2).1
        simp only [List.getD_cons_succ]
        exact ⟨this.1, by omega⟩
  have gen : ∀ (l s : List (Int × Int)) (e : Int), okL e l → Desc s → Bef s e → ∀ k, k ≤ l.length → Desc ((l.take k).foldl pushR s) ∧ ((l.take k).foldl pushR s).length ≤ s.length + k ∧ ∀ j, k ≤ j → j < l.length → okB (l.getD j (0, 0)) ∧ Bef ((l.take k).foldl pushR s) (l.getD j (0, 0)).1 := by
    intro l
    induction l with
    | nil => intro s e _ hs _ k hk; simp at hk; subst hk; exact ⟨hs, by simp, fun j _ hj => by simp at hj⟩
    | cons b r ih =>
      intro s e h hs hb k hk
      rcases k with _ | k
      · refine ⟨hs, by simp, fun j _ hj => ?_⟩
        have := key _ e h j hj
        exact ⟨this.1, fun y hy => by have h1 := hb y hy; have h2 := this.2; simp only [List.take_zero, List.foldl_nil] at hy; omega⟩
      · obtain ⟨h1, h2, h3⟩ := h
        obtain ⟨q1, q2⟩ := pushR_desc s b hs h1 (fun y hy => by have := hb y hy; omega)
        obtain ⟨a1, a2, a3⟩ := ih _ _ h3 q1 q2 k (by simpa using hk)
        refine ⟨by simpa using a1, ?_, fun j h1 h2 => ?_⟩
        · have := pushR_len s b
          simp only [List.take_succ_cons, List.foldl_cons]
          omega
        · rcases j with _ | j
          · omega
          · have := a3 j (by omega) (by simpa using h2)
            simpa using this
  intro k hk
  have := gen l [] 0 hok Desc.nil (fun y hy => by cases hy) k hk
  simpa [joinR] using this
end Go.Proofs.YtkneonfhikcdkaaDoor
