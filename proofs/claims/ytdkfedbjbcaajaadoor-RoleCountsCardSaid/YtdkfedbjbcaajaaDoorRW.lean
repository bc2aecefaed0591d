import Derived.Test.YtdkfedbjbcaajaaDoorRU
import Derived.Test.YtdkfedbjbcaajaaDoorRV
namespace Go.Proofs.YtdkfedbjbcaajaaDoor
open Go.RowKit
theorem getD_set_eq (m : List Int) (k : Nat) (x : Int) (h : k < m.length) : (m.set k x).getD k 0 = x := by
  rw [List.getD_eq_getElem?_getD, List.getElem?_set]; simp [h]
theorem cn_set (m : List Int) (k : Nat) (t : Int) (r : Nat) (hk : k < m.length) : ∀ n, cn (m.set k t) n r + (if k < n ∧ m.getD k 0 = (r : Int) then 1 else 0) = cn m n r + (if k < n ∧ t = (r : Int) then 1 else 0) := by
  intro n
  induction n with
  | zero => simp [cn]
  | succ n ih =>
    rw [cn_succ, cn_succ]
    by_cases e : n = k
    · subst e
      rw [getD_set_eq m n t hk]
      generalize cn (m.set n t) n r = p at *
      generalize cn m n r = q at *
      generalize m.getD n 0 = z at *
      simp only [Nat.lt_irrefl, false_and, if_false, Nat.lt_succ_self, true_and, beq_iff_eq] at *
      omega
    · rw [getD_set_ne m k n t (Ne.symm e)]
      generalize cn (m.set k t) n r = p at *
      generalize cn m n r = q at *
      generalize (if (m.getD n 0 == (r : Int)) = true then 1 else 0) = u
      have hkn : (k < n + 1) ↔ (k < n) := by omega
      simp only [hkn]
      omega
theorem cn_set' (m : List Int) (k : Nat) (t : Int) (r : Nat) (hk : k < m.length) : (cn (m.set k t) (m.set k t).length r : Int) = (cn m m.length r : Int) - (if (r : Int) = m.getD k 0 then 1 else 0) + (if (r : Int) = t then 1 else 0) := by
  rw [List.length_set]
  have h := cn_set m k t r hk m.length
  simp only [hk, true_and] at h
  by_cases a : m.getD k 0 = (r : Int) <;> by_cases b : t = (r : Int)
  · rw [if_pos a, if_pos b] at h; rw [if_pos a.symm, if_pos b.symm]; omega
  · rw [if_pos a, if_neg b] at h; rw [if_pos a.symm, if_neg (Ne.symm b)]; omega
  · rw [if_neg a, if_pos b] at h; rw [if_neg (Ne.symm a), if_pos b.symm]; omega
  · rw [if_neg a, if_neg b] at h; rw [if_neg (Ne.symm a), if_neg (Ne.symm b)]; omega
def sumT (m : List Int) (n : Nat) : Nat → Nat
  | 0 => 0
  | i + 1 => sumT m n i + cn m n i
theorem sumT_succ (m : List Int) (n : Nat) (i : Nat) : sumT m (n + 1) i = sumT m n i + (if 0 ≤ m.getD n 0 ∧ m.getD n 0 < (i : Int) then 1 else 0) := by
  induction i with
  | zero => rw [if_neg (by omega)]; rfl
  | succ i ih =>
    rw [sumT, sumT, ih, cn_succ]
    generalize m.getD n 0 = z
    generalize sumT m n i = a
    generalize cn m n i = b
    have e : (z == (i : Int)) = decide (z = (i : Int)) := rfl
    rw [e]
    by_cases h1 : z = (i : Int)
    · rw [decide_eq_true h1, if_neg (by omega), if_pos rfl, if_pos (by omega)]; omega
    · rw [decide_eq_false h1]
      by_cases h2 : 0 ≤ z ∧ z < (i : Int)
      · rw [if_pos h2, if_neg (by simp), if_pos (by omega)]; omega
      · rw [if_neg h2, if_neg (by simp), if_neg (by omega)]; omega
theorem sumT_all (m : List Int) (n : Nat) (hg : goodL m n) : sumT m n 8 = n := by
  induction n with
  | zero => rfl
  | succ n ih =>
    rw [sumT_succ, ih (fun j hj => hg j (by omega))]
    have h := hg n (by omega)
    unfold isR at h
    have := of_decide_eq_true h
    rw [if_pos (by omega)]
theorem sumT_le (m : List Int) (n : Nat) (i : Nat) : sumT m n i ≤ i * n := by
  induction i with
  | zero => simp [sumT]
  | succ i ih => rw [sumT]; have := cn_le m n i; rw [Nat.add_mul]; omega
theorem ofN_len (l : List Int) (r n : Nat) : (ofN l (r : Int) n).length = cn l n r := by unfold ofN cn; simp
theorem ctN_at (l : List Int) (j : Nat) (hj : j < 8) : (ctN l).getD j 0 = (cn l l.length j : Int) := by unfold ctN; simp [hj]
theorem cts (A : Option Addr) (c : Nat) (l : List Int) (w : World) (hr : RdI w A l) (hl : l.length ≤ 256) (hg : goodL l l.length) :
    Calls Tryd.prog 27 #[.slice A l.length c] w fun e w' => ∃ B d, e = .returned (.tuple #[.slice B 8 d, .int .i64 0]) ∧ RdI w' B (ctN l) ∧ Ev w w' :=
  (counts_any A c l w hr).mono fun e w' ⟨B, d, h1, h2, h3⟩ => by
    have e1 : ctL l = ctN l := by unfold ctL; rw [chk_good l (by omega) hg]; rfl
    rw [e1, ctN_len, chk_good l (by omega) hg] at h1
    rw [e1] at h2
    exact ⟨B, d, h1, h2, h3⟩
theorem ofs (A : Option Addr) (c : Nat) (l : List Int) (r : Nat) (w : World) (hr : RdI w A l) (hl : l.length ≤ 256) (hg : goodL l l.length) (h8 : r < 8) :
    Calls Tryd.prog 25 #[.slice A l.length c, .int .i64 (r : Int)] w fun e w' => ∃ B d, e = .returned (.tuple #[.slice B (cn l l.length r) d, .int .i64 0]) ∧ Ev w w' :=
  (of_any A c l r w hr).mono fun e w' ⟨v, h1, h2, h3⟩ => by
    have e0 : ofE l r = 0 := by unfold ofE; rw [chk_good l (by omega) hg, if_pos rfl, if_pos (isR_of r h8)]
    have e1 : ofL l r = ofN l r l.length := by unfold ofL; rw [if_pos e0]
    have hle := ofN_le l r l.length
    rw [e1] at h2
    obtain ⟨A', c', rfl, -⟩ := RdI.of_own h2 (by omega)
    rw [ofN_len, e0] at h1
    exact ⟨A', c', h1, h3⟩
theorem chg (A : Option Addr) (c : Nat) (l : List Int) (k t : Nat) (w : World) (hr : RdI w A l) (hl : l.length ≤ 256) (hA : A = none → l = []) (hg : goodL l l.length) (hT : Tab w) (hk : k < l.length) (ht : t < 8) :
    Calls Tryd.prog 23 #[.slice A l.length c, .int .i64 (k : Int), .int .i64 (t : Int)] w fun e w' => ∃ B d, (if mb (l.getD k 0).toNat t = true then e = .returned (.tuple #[.slice B l.length d, .int .i64 0]) ∧ RdI w' B (l.set k (t : Int)) else e = .returned (.tuple #[.slice B 0 d, .int .i64 14])) ∧ Ev w w' :=
  (change_ok A c l k t w hr hl hA hg hT).mono fun e w' ⟨v, h1, h2, h3⟩ => by
    rw [step_ok l k t _ _ hk (isR_of t ht), Int.toNat_natCast] at h1 h2
    by_cases hb : mb (l.getD k 0).toNat t = true
    · rw [if_pos hb] at h1 h2
      simp only [runS] at h1 h2
      obtain ⟨A', c', rfl, h4⟩ := RdI.of_own h2 (by rw [List.length_set]; omega)
      rw [List.length_set] at h1
      exact ⟨A', c', by rw [if_pos hb]; exact ⟨h1, h4⟩, h3⟩
    · rw [if_neg hb] at h1 h2
      simp only [] at h1 h2
      obtain ⟨A', c', rfl, h4⟩ := RdI.of_own h2 (by simp)
      exact ⟨A', c', by rw [if_neg hb]; exact h1, h3⟩
end Go.Proofs.YtdkfedbjbcaajaaDoor
