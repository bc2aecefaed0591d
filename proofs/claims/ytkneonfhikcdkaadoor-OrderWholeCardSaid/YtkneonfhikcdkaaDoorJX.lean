import Derived.Test.YtkneonfhikcdkaaDoorJV
import Derived.Test.YtkneonfhikcdkaaDoorJL
import Derived.Test.YtkneonfhikcdkaaDoorOD
namespace Go.Proofs.YtkneonfhikcdkaaDoor
open Go.RowKit Go.Deep
theorem okL_mono : ∀ (l : List (Int × Int)) (e e' : Int), e' ≤ e → okL e l → okL e' l
  | [], _, _, _, _ => trivial
  | _ :: _, _, _, h, ⟨h1, h2, h3⟩ => ⟨h1, by omega, h3⟩
theorem chk_of_ok : ∀ (l : List (Int × Int)) (i : Nat) (e : Int), okL e l → chkL i e l = (0, 0)
  | [], _, _, _ => rfl
  | (x, o) :: r, i, e, ⟨h1, h2, h3⟩ => by
    unfold chkL
    have h1' : blkE x o = 0 := h1
    rw [if_neg (by rw [h1']; simp), if_neg (by simp only [] at h2; omega)]
    exact chk_of_ok r _ _ h3
/-- where a list ends -/
def endL : Int → List (Int × Int) → Int
  | e, [] => e
  | _, b :: r => endL (b.1 + sz b.2) r
theorem endL_app : ∀ (l r : List (Int × Int)) (e : Int), endL e (l ++ r) = endL (endL e l) r
  | [], _, _ => rfl
  | b :: l, r, e => by simp only [List.cons_append, endL]; exact endL_app l r _
theorem okL_app : ∀ (l r : List (Int × Int)) (e : Int), okL e l → okL (endL e l) r → okL e (l ++ r)
  | [], _, _, _, h => h
  | _ :: l, r, _, ⟨h1, h2, h3⟩, h => ⟨h1, h2, okL_app l r _ h3 h⟩
theorem okL_split : ∀ (l r : List (Int × Int)) (e : Int), okL e (l ++ r) → okL (endL e l) r
  | [], _, _, h => h
  | _ :: l, r, _, ⟨_, _, h3⟩ => okL_split l r _ h3
theorem part1_ok (c : Bool) (b : Int × Int) (e : Int) (h : okL e [b]) : okL e (part1 c b) ∧ endL e (part1 c b) = endL e [b] := by
  obtain ⟨h1, h2, -⟩ := h
  unfold part1
  by_cases hc : c = true ∧ 1 ≤ b.2
  · rw [if_pos hc]
    obtain ⟨x, o⟩ := b
    have ho := hc.2
    simp only [] at ho h2 ⊢
    obtain ⟨p1, p2, p3, p4, p5⟩ := blkE_ok (show blkE x o = 0 from h1)
    have hs := sz_bd (o - 1)
    have h2z : sz o = 2 * sz (o - 1) := by have := sz_two (o - 1) (by omega) (by omega); rwa [show o - 1 + 1 = o by omega] at this
    have m1 : x % sz (o - 1) = 0 := by
      clear h1 h2 hc p5 h2z hs
      rcases (show o = 1 ∨ o = 2 ∨ o = 3 ∨ o = 4 ∨ o = 5 ∨ o = 6 by omega) with rfl | rfl | rfl | rfl | rfl | rfl
      all_goals simp [sz] at *
      all_goals omega
    have m2 : (x + sz (o - 1)) % sz (o - 1) = 0 := by rw [Int.add_emod_right]; exact m1
    refine ⟨⟨?_, h2, ?_, by simp only []; omega, trivial⟩, ?_⟩
    · show blkE x (o - 1) = 0
      unfold blkE
      rw [if_neg (by omega), if_neg (by simpa using m1), if_neg (by omega)]
    · show blkE (x + sz (o - 1)) (o - 1) = 0
      unfold blkE
      rw [if_neg (by omega), if_neg (by simpa using m2), if_neg (by omega)]
    · simp only [endL]
      omega
  · rw [if_neg hc]
    exact ⟨⟨h1, h2, trivial⟩, rfl⟩
theorem part1_len (c : Bool) (b : Int × Int) : (part1 c b).length ≤ 2 := by unfold part1; split <;> simp
/-- the parts of the first blocks -/
def PartsOf (P : List (Int × Int)) (i : Nat) (Q : List (Int × Int)) : Prop := okL 0 Q ∧ endL 0 Q = endL 0 (P.take i) ∧ joinR Q = joinR (P.take i) ∧ Q.length ≤ 2 * i
theorem PartsOf.nil (P : List (Int × Int)) : PartsOf P 0 [] := ⟨trivial, rfl, rfl, by simp⟩
theorem PartsOf.step {P Q : List (Int × Int)} {i : Nat} (h : PartsOf P i Q) (hP : okL 0 P) (hi : i < P.length) (c : Bool) : PartsOf P (i + 1) (Q ++ part1 c (P.getD i (0, 0))) := by
  obtain ⟨h1, h2, h3, h4⟩ := h
  have e : P.take (i + 1) = P.take i ++ [P.getD i (0, 0)] := by rw [List.take_succ_eq_append_getElem hi]; simp [List.getD, hi]
  have hsp : okL (endL 0 (P.take i)) (P.drop i) := okL_split (P.take i) (P.drop i) 0 (by rw [List.take_append_drop]; exact hP)
  have hd : P.drop i = P.getD i (0, 0) :: P.drop (i + 1) := by rw [List.drop_eq_getElem_cons hi]; simp [List.getD, hi]
  rw [hd] at hsp
  obtain ⟨q1, q2, -⟩ := hsp
  obtain ⟨p1, p2⟩ := part1_ok c (P.getD i (0, 0)) (endL 0 Q) ⟨q1, by rw [h2]; exact q2, trivial⟩
  obtain ⟨-, -, a3⟩ := join_at P (chk_of_ok P 0 0 hP) i (by omega)
  obtain ⟨a4, a5⟩ := a3 i (Nat.le_refl _) hi
  refine ⟨okL_app _ _ _ h1 p1, ?_, ?_, ?_⟩
  · rw [endL_app, p2, e, endL_app, h2]
  · rw [e, joinR_snoc]
    have : joinR (Q ++ part1 c (P.getD i (0, 0))) = (part1 c (P.getD i (0, 0))).foldl pushR (joinR Q) := by simp [joinR, List.foldl_append]
    rw [this, h3]
    exact part1_push c _ _ a4 a5
  · have := part1_len c (P.getD i (0, 0))
    rw [List.length_append]
    omega
theorem PartsOf.all {P Q : List (Int × Int)} (h : PartsOf P P.length Q) : chkL 0 0 Q = (0, 0) ∧ joinL Q = joinL P := by
  obtain ⟨h1, -, h3, -⟩ := h
  rw [List.take_length] at h3
  exact ⟨chk_of_ok Q 0 0 h1, by unfold joinL; rw [h3]⟩
theorem At_any (A : Option Addr) (cap : Nat) (l : List Int) (i : Nat) (w : World) (hr : RdI w A l) (hi : i ≤ 1000) :
    Calls Tryd.prog 37 #[.slice A l.length cap, .int .i64 i] w fun e w' => e = .returned (.int .i64 (l.getD i 0)) ∧ w = w' := by
  have hn := hr.1
  have hi0 : 0 ≤ (i : Int) := by omega
  by_cases h : i < l.length
  · obtain ⟨b, o, rfl, hb, c1⟩ := hr.2 i h
    have h' : (i : Int) < (l.length : Int) := by omega
    generalize l.getD i 0 = x at *
    clear hr
    go_enter Tryd.func37, Tryd.ntmps37
    go_wp2
    go_ret
    exact ⟨rfl, rfl⟩
  · have h' : ¬ (i : Int) < (l.length : Int) := by omega
    have h'' : (l.length : Int) ≤ (i : Int) := by omega
    have e : l.getD i 0 = 0 := by simp [List.getD]; rw [List.getElem?_eq_none (by omega)]; rfl
    rw [e]
    clear hr e
    go_enter Tryd.func37, Tryd.ntmps37
    go_wp2
    go_ret
    exact ⟨rfl, rfl⟩
end Go.Proofs.YtkneonfhikcdkaaDoor
