import Derived.Test.YtkneonfhikcdkaaDoorOU
import Derived.Test.YtkneonfhikcdkaaDoorJP
import Derived.Test.YtkneonfhikcdkaaDoorO9
import Derived.Deep.CutRange
import Derived.Deep.OwnRows
import Derived.ArgAppend
namespace Go.Proofs.YtkneonfhikcdkaaDoor
open Go.RowKit
/-- blocks as cells -/
def flatS : List (Int × Int) → List Value
  | [] => []
  | (f, t) :: r => .int .i64 f :: .int .i64 t :: flatS r
theorem flatS_len (s : List (Int × Int)) : (flatS s).length = s.length * 2 := by
  induction s with
  | nil => rfl
  | cons a s ih => obtain ⟨f, t⟩ := a; simp [flatS, ih]; omega
theorem flatS_app (s r : List (Int × Int)) : flatS (s ++ r) = flatS s ++ flatS r := by
  induction s with
  | nil => rfl
  | cons a s ih => obtain ⟨f, t⟩ := a; simp [flatS, ih]
theorem flatS_get (L : List (Int × Int)) : ∀ j, j < L.length → (flatS L)[j * 2]? = some (.int .i64 (L.getD j (0, 0)).1) ∧ (flatS L)[j * 2 + 1]? = some (.int .i64 (L.getD j (0, 0)).2) := by
  induction L with
  | nil => intro j hj; simp at hj
  | cons x L ih =>
    obtain ⟨f, t⟩ := x
    intro j hj
    rcases j with _ | j
    · simp [flatS]
    · have := ih j (by simpa using hj)
      rw [show (j + 1) * 2 = j * 2 + 2 from by omega]
      simpa [flatS] using this
theorem flatS_at (L : List (Int × Int)) (j : Nat) (u : Value) (h : (flatS L)[j]? = some u) : (∃ k, k < L.length ∧ ((j = k * 2 ∧ u = .int .i64 (L.getD k (0, 0)).1) ∨ (j = k * 2 + 1 ∧ u = .int .i64 (L.getD k (0, 0)).2))) := by
  have hj : j < (flatS L).length := by
    rcases Nat.lt_or_ge j (flatS L).length with h1 | h1
    · exact h1
    · rw [List.getElem?_eq_none h1] at h; cases h
  rw [flatS_len] at hj
  obtain ⟨h1, h2⟩ := flatS_get L (j / 2) (by omega)
  refine ⟨j / 2, by omega, ?_⟩
  rcases (show j = j / 2 * 2 ∨ j = j / 2 * 2 + 1 by omega) with e | e
  · left
    refine ⟨e, ?_⟩
    rw [e] at h
    rw [h1] at h
    simpa using h.symm
  · right
    refine ⟨e, ?_⟩
    rw [e] at h
    rw [h2] at h
    simpa using h.symm
theorem flatS_one (L : List (Int × Int)) : ∀ u ∈ flatS L, u.oneCell' = true := by
  induction L with
  | nil => intro u hu; cases hu
  | cons x L ih =>
    obtain ⟨f, t⟩ := x
    intro u hu
    simp only [flatS, List.mem_cons] at hu
    rcases hu with rfl | rfl | hu
    · rfl
    · rfl
    · exact ih u hu
theorem flatS_last (s : List (Int × Int)) (f t : Int) : (flatS (s ++ [(f, t)]))[s.length * 2]? = some (.int .i64 f) ∧ (flatS (s ++ [(f, t)]))[s.length * 2 + 1]? = some (.int .i64 t) := by
  have h := flatS_get (s ++ [(f, t)]) s.length (by simp)
  simpa [List.getD] using h
theorem add_plainS (b o j : Nat) : (⟨b, o, none⟩ : Addr).add j = ⟨b, o + j, none⟩ := by
  unfold Addr.add
  by_cases h : j = 0
  · subst h; rfl
  · simp [h]
theorem newsP {w : World} {ad : Addr} {l : List (Int × Int)} (hr : RdP w (some ad) l) : ∀ j u, (flatS l)[j]? = some u → w.cell? (ad.add j) = some u := by
  intro j u hu
  obtain ⟨k, hk, hjk⟩ := flatS_at l j u hu
  obtain ⟨b, o, he, hb, h1, h2⟩ := hr.2 k hk
  obtain rfl := Option.some.inj he
  rw [add_plainS]
  rcases hjk with ⟨rfl, rfl⟩ | ⟨rfl, rfl⟩
  · exact h1
  · rw [show o + (k * 2 + 1) = o + k * 2 + 1 from by omega]; exact h2
theorem RdP.nil (w : World) (A : Option Addr) : RdP w A [] := ⟨by simp, fun j hj => by simp at hj⟩
theorem RdP.of_own {w : World} {base : Nat} {v : Value} {L : List (Int × Int)} (h : w.ownsRow base 28 2 v L.length (flatS L)) (hl : L.length ≤ 4000000000) : ∃ A cap, v = .slice A L.length cap ∧ RdP w A L ∧ (A = none → L = []) := by
  rcases h.2 with ⟨rfl, h0⟩ | ⟨g, cap, cur, rfl, hbg, hh, hn, hc, hs, ht⟩
  · have e : L = [] := List.eq_nil_of_length_eq_zero h0
    subst e
    exact ⟨none, 0, rfl, RdP.nil _ _, fun _ => rfl⟩
  · refine ⟨some ⟨g, 0, none⟩, cap, rfl, ⟨hl, fun j hj => ⟨g, 0, rfl, (h.lt g rfl).2, ?_, ?_⟩⟩, fun h => by cases h⟩
    · rw [Nat.zero_add, World.ownsRow.cellAt h (j * 2) (by omega)]
      exact (flatS_get L j hj).1
    · rw [Nat.zero_add, World.ownsRow.cellAt h (j * 2 + 1) (by omega)]
      exact (flatS_get L j hj).2
set_option maxHeartbeats 400000 in
theorem sameB (A B : Option Addr) (c d : Nat) (l : List (Int × Int)) (w : World) (hx : RdP w A l) (hy : RdP w B l) :
    Calls Tryd.prog 26 #[.slice A l.length c, .slice B l.length d] w fun e w' => e = .returned (.bool true) ∧ Ev w w' := by
  have hn := hx.1
  have hq : ((l.length : Int) != (l.length : Int)) = false := by simp
  go_enter Tryd.func26, Tryd.ntmps26
  go_wp2
  go_loopw [5] (fun i wr => ∃ k m : Nat, k ≤ l.length ∧ i = .int .i64 k ∧ wr = w.drewN m) (fun i _ => l.length - (intOf i).toNat)
  case atStart => exact ⟨0, 0, Nat.zero_le _, rfl, rfl⟩
  case round =>
    obtain ⟨k, m, hk, rfl, rfl⟩ := hrel
    by_cases hlt : k < l.length
    · obtain ⟨b, o, rfl, hb, c1, d1⟩ := hx.2 k hlt
      obtain ⟨b', o', rfl, hb', c1', d1'⟩ := hy.2 k hlt
      generalize (l.getD k (0, 0)).1 = x at *
      generalize (l.getD k (0, 0)).2 = y at *
      have hlt' : (k : Int) < (l.length : Int) := by omega
      have hk0 : 0 ≤ (k : Int) := by omega
      clear hx hy
      go_wp2
      go_quiet (fail)
      go_wp2
      go_roundw
      case rel => exact ⟨k + 1, m + nq, by omega, by go_num, rfl⟩
      case measure => simp [intOf]; omega
    · obtain rfl : k = l.length := by omega
      go_wp2
      go_ret
      exact ⟨rfl, below_drewN (Below.refl _ _) _⟩
/-- the stack without its top -/
theorem popS {w : World} {base g cap : Nat} {r : List (Int × Int)} {a b : Int} (h : w.ownsRow base 28 2 (.slice (some ⟨g, 0, none⟩) (r.length + 1) cap) (r.length + 1) (flatS (r ++ [(a, b)]))) :
    w.ownsRow base 28 2 (.slice (some ⟨g, 0, none⟩) r.length cap) r.length (flatS r) := by
  rcases h.2 with ⟨h0, _⟩ | ⟨g', cap', cur, hv, hg, hh, hn, hcap, hsz, htake⟩
  · cases h0
  · cases hv
    refine ⟨flatS_len r, .inr ⟨g, cap, cur, rfl, hg, hh, by omega, hcap, hsz, ?_⟩⟩
    have e : flatS (r ++ [(a, b)]) = flatS r ++ flatS [(a, b)] := flatS_app _ _
    rw [e] at htake
    have h2 := congrArg (List.take (r.length * 2)) htake
    rw [List.take_take] at h2
    rw [show min (r.length * 2) ((r.length + 1) * 2) = r.length * 2 from by omega] at h2
    rw [h2]
    rw [List.take_append_of_le_length (by rw [flatS_len]; exact Nat.le_refl _), List.take_of_length_le (by rw [flatS_len]; exact Nat.le_refl _)]
theorem topS {w : World} {base g cap : Nat} {r : List (Int × Int)} {a b : Int} (h : w.ownsRow base 28 2 (.slice (some ⟨g, 0, none⟩) (r.length + 1) cap) (r.length + 1) (flatS (r ++ [(a, b)]))) :
    (base ≤ g ∧ g < w.heap.size ∧ r.length + 1 ≤ cap) ∧ w.cell? ⟨g, r.length * 2, none⟩ = some (.int .i64 a) ∧ w.cell? ⟨g, r.length * 2 + 1, none⟩ = some (.int .i64 b) := by
  have h1 := h.cellAt (r.length * 2) (by omega)
  have h2 := h.cellAt (r.length * 2 + 1) (by omega)
  rw [(flatS_last r a b).1] at h1
  rw [(flatS_last r a b).2] at h2
  refine ⟨⟨(h.lt g rfl).1, (h.lt g rfl).2, ?_⟩, h1, h2⟩
  rcases h.2 with ⟨h0, _⟩ | ⟨g', cap', cur, hv, hg, hh, hn, hcap, hsz, htake⟩
  · cases h0
  · cases hv
    omega
/-- the frames of a valid list are at most 256 -/
theorem frL_bound : ∀ (l : List (Int × Int)) (e : Int), okL e l → 0 ≤ e → ((frL l).length : Int) ≤ 256 - e ∨ l = []
  | [], _, _, _ => .inr rfl
  | b :: r, e, ⟨h1, h2, h3⟩, h0 => by
    left
    obtain ⟨p1, p2, p3, p4, p5⟩ := blkE_ok (show blkE b.1 b.2 = 0 from h1)
    have hs := sz_bd b.2
    have e1 : (frL (b :: r)).length = (sz b.2).toNat + (frL r).length := by simp [frL, frB, upto_length]
    rw [e1]
    rcases frL_bound r _ h3 (by omega) with h | h
    · omega
    · subst h
      simp [frL]
      omega
end Go.Proofs.YtkneonfhikcdkaaDoor
