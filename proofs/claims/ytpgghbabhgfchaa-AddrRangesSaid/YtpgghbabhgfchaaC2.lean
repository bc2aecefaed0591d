import Derived.Test.YtpgghbabhgfchaaC1
import Derived.Test.YtpgghbabhgfchaaB2
import Derived.Test.YtpgghbabhgfchaaA8
import Derived.Deep.CutRange
import Derived.IntWalk
import Derived.OwnWalk
import Derived.Laws.AppendOwn
import Derived.Laws.OwnMore
import Derived.Laws.Rows
import Derived.Deep.OwnRows
import Derived.ArgAppend
namespace Go.Proofs.Ytpgghbabhgfchaa
open Go.RowKit
theorem Ev.grown {w W W' : World} {row : Option Nat} (h : Ev w W) (hg : W.grownBy W' row) (hr : ∀ k, row = some k → w.heap.size ≤ k) : Ev w W' := Below.grown h hg h.sz hr
/-- The slice at A reads as the numbers l. -/
def RdI (w : World) (A : Option Addr) (l : List Int) : Prop :=
  l.length ≤ 9223372036854775807 ∧ ∀ j, j < l.length → ∃ b o, A = some ⟨b, o, none⟩ ∧ b < w.heap.size ∧ w.cell? ⟨b, o + j, none⟩ = some (.int .i64 (l.getD j 0))
theorem RdI.ev {w w' : World} {A : Option Addr} {l : List Int} (h : RdI w A l) (e : Ev w w') : RdI w' A l := ⟨h.1, fun j hj => by
  obtain ⟨b, o, h1, h2, h3⟩ := h.2 j hj
  have := e.sz
  exact ⟨b, o, h1, by omega, by rw [e.cell (p := ⟨b, o + j, none⟩) h2]; exact h3⟩⟩
theorem RdI.nil (w : World) : RdI w none [] := ⟨by simp, fun j hj => by simp at hj⟩
theorem RdP.nil (w : World) (A : Option Addr) : RdP w A [] := ⟨by simp, fun j hj => by simp at hj⟩
theorem RdI.of_own {w : World} {base : Nat} {v : Value} {L : List Int} (h : OwnI w base v L) (hl : L.length ≤ 9223372036854775807) : ∃ A cap, v = .slice A L.length cap ∧ RdI w A L := by
  rcases h.2 with ⟨rfl, h0⟩ | ⟨g, cap, cur, rfl, hbg, hh, hn, hc, hs, ht⟩
  · have e : L = [] := List.eq_nil_of_length_eq_zero h0
    subst e
    exact ⟨none, 0, rfl, by simp, fun j hj => by simp at hj⟩
  · refine ⟨some ⟨g, 0, none⟩, cap, rfl, hl, fun j hj => ⟨g, 0, rfl, (h.lt g rfl).2, ?_⟩⟩
    rw [Nat.zero_add, World.ownsRow.cellAt h j (by omega)]
    unfold IV
    simp [hj]
set_option maxHeartbeats 400000 in
theorem sameI (A B : Option Addr) (c d : Nat) (l : List Int) (w : World) (hx : RdI w A l) (hy : RdI w B l) :
    Calls Try.prog 27 #[.slice A l.length c, .slice B l.length d] w fun e w' => e = .returned (.bool true) ∧ Ev w w' := by
  have hn := hx.1
  have hq : ((l.length : Int) != (l.length : Int)) = false := by simp
  go_enter Try.func27, Try.ntmps27
  go_wp2
  go_loopw [5] (fun i wr => ∃ k m : Nat, k ≤ l.length ∧ i = .int .i64 k ∧ wr = w.drewN m) (fun i _ => l.length - (intOf i).toNat)
  case atStart => exact ⟨0, 0, Nat.zero_le _, rfl, rfl⟩
  case round =>
    obtain ⟨k, m, hk, rfl, rfl⟩ := hrel
    by_cases hlt : k < l.length
    · obtain ⟨b, o, rfl, hb, c1⟩ := hx.2 k hlt
      obtain ⟨b', o', rfl, hb', c1'⟩ := hy.2 k hlt
      generalize l.getD k 0 = x at *
      have hlt' : (k : Int) < (l.length : Int) := by omega
      have hk0 : 0 ≤ (k : Int) := by omega
      clear hx hy
      go_wp2
      go_quiet (fail)
      go_wp2
      go_roundw
      case rel => exact ⟨k + 1, m + nq, by omega, by go_num, rfl⟩
      case measure => simp [intOf]; omega
    · obtain rfl : k = l.length := by omega
      go_wp2
      go_ret
      exact ⟨rfl, below_drewN (Below.refl _ _) _⟩
theorem rcheck_any (f t : Int) (w : World) : Calls Try.prog 20 #[rg f t] w fun e w' => e = .returned (.int .i64 (ckE f t)) ∧ Ev w w' := by
  have hE := Lib.hid ((Ev.refl w).alloc (.cells #[.int .i64 f, .int .i64 t] 30))
  unfold ckE
  by_cases h1 : f < 0
  · rw [if_pos (by omega)]
    go_enter Try.func20, Try.ntmps20
    go_wp2
    go_ret
    exact ⟨rfl, hE.out⟩
  · by_cases h2 : t < f
    · rw [if_pos (by omega)]
      go_enter Try.func20, Try.ntmps20
      go_wp2
      go_ret
      exact ⟨rfl, hE.out⟩
    · by_cases h3 : 64 ≤ t
      · rw [if_pos (by omega)]
        go_enter Try.func20, Try.ntmps20
        go_wp2
        go_ret
        exact ⟨rfl, hE.out⟩
      · rw [if_neg (by omega)]
        go_enter Try.func20, Try.ntmps20
        go_wp2
        go_ret
        exact ⟨rfl, hE.out⟩
theorem ck_of {f t e : Int} (h : ckE f t = e) (W : World) : Calls Try.prog 19 #[rg f t] W fun x w' => x = .returned (.int .i64 e) ∧ Ev W w' := by
  have := check_any f t W; rwa [h] at this
theorem rck_of {f t e : Int} (h : ckE f t = e) (W : World) : Calls Try.prog 20 #[rg f t] W fun x w' => x = .returned (.int .i64 e) ∧ Ev W w' := by
  have := rcheck_any f t W; rwa [h] at this
theorem Pieces_bad (f t : Int) (h : ckE f t = 2) (w : World) : Calls Try.prog 17 #[rg f t] w fun e w' => e = .returned (.tuple #[.slice none 0 0, .int .i64 2]) ∧ Ev w w' := by
  have H := Lib.hid fun W => ck_of h W
  have HA := Lib.hid ((Ev.refl w).alloc (oR f t))
  clear h
  go_enter Try.func17, Try.ntmps17
  go_wp2_with fail
  refine (H.out _).mono ?_
  rintro e w1 ⟨rfl, hev⟩
  have HE := Lib.hid (HA.out.step hev)
  clear hev
  go_wp2_with fail
  go_ret2
  exact ⟨rfl, HE.out⟩
theorem rPieces_bad (f t : Int) (h : ckE f t = 2) (w : World) : Calls Try.prog 18 #[rg f t] w fun e w' => e = .returned (.tuple #[.slice none 0 0, .int .i64 2]) ∧ Ev w w' := by
  have H := Lib.hid fun W => rck_of h W
  have HA := Lib.hid ((Ev.refl w).alloc (oR f t))
  clear h
  go_enter Try.func18, Try.ntmps18
  go_wp2_with fail
  refine (H.out _).mono ?_
  rintro e w1 ⟨rfl, hev⟩
  have HE := Lib.hid (HA.out.step hev)
  clear hev
  go_wp2_with fail
  go_ret2
  exact ⟨rfl, HE.out⟩
theorem flatS_at (L : List (Int × Int)) (j : Nat) (u : Value) (h : (flatS L)[j]? = some u) : (∃ k, k < L.length ∧ ((j = k * 2 ∧ u = .int .i64 (L.getD k (0, 0)).1) ∨ (j = k * 2 + 1 ∧ u = .int .i64 (L.getD k (0, 0)).2))) := by
  have hj : j < (flatS L).length := by
    rcases Nat.lt_or_ge j (flatS L).length with h1 | h1
    · exact h1
    · rw [List.getElem?_eq_none h1] at h; cases h
  rw [flatS_len] at hj
  obtain ⟨h1, h2⟩ := flatS_get L (j / 2) (by omega)
  refine ⟨j / 2, by omega, ?_⟩
  rcases (show j = j / 2 * 2 ∨ j = j / 2 * 2 + 1 by omega) with e | e
  · left
    refine ⟨e, ?_⟩
    rw [e] at h
    rw [h1] at h
    simpa using h.symm
  · right
    refine ⟨e, ?_⟩
    rw [e] at h
    rw [h2] at h
    simpa using h.symm
theorem flatS_one (L : List (Int × Int)) : ∀ u ∈ flatS L, u.oneCell' = true := by
  induction L with
  | nil => intro u hu; cases hu
  | cons x L ih =>
    obtain ⟨f, t⟩ := x
    intro u hu
    simp only [flatS, List.mem_cons] at hu
    rcases hu with rfl | rfl | hu
    · rfl
    · rfl
    · exact ih u hu
theorem add_plainS (b o j : Nat) : (⟨b, o, none⟩ : Addr).add j = ⟨b, o + j, none⟩ := by
  unfold Addr.add
  by_cases h : j = 0
  · subst h; rfl
  · simp [h]
theorem newsP {w : World} {ad : Addr} {l : List (Int × Int)} (hr : RdP w (some ad) l) : ∀ j u, (flatS l)[j]? = some u → w.cell? (ad.add j) = some u := by
  intro j u hu
  obtain ⟨k, hk, hjk⟩ := flatS_at l j u hu
  obtain ⟨b, o, he, hb, h1, h2⟩ := hr.2 k hk
  obtain rfl := Option.some.inj he
  rw [add_plainS]
  rcases hjk with ⟨rfl, rfl⟩ | ⟨rfl, rfl⟩
  · exact h1
  · rw [show o + (k * 2 + 1) = o + k * 2 + 1 from by omega]; exact h2
set_option maxRecDepth 20000 in
set_option maxHeartbeats 400000 in
theorem ownR_any (A : Option Addr) (cap : Nat) (l : List (Int × Int)) (w : World) (hr : RdP w A l) (hn : A = none → l.length = 0 ∧ cap = 0) (hl : l.length ≤ 100000) :
    Calls Try.prog 22 #[.slice A l.length cap] w fun e w' => ∃ A' cap', e = .returned (.slice A' l.length cap') ∧ RdP w' A' l ∧ Ev w w' := by
  cases A with
  | none =>
    obtain ⟨h1, rfl⟩ := hn rfl
    obtain rfl : l = [] := List.eq_nil_of_length_eq_zero h1
    clear h1 hn hr
    go_enter Try.func22, Try.ntmps22
    go_wp2_with fail
    go_ret
    exact ⟨some ⟨w.heap.size, 0, none⟩, 0, rfl, RdP.nil _ _, al1 _ _⟩
  | some ad =>
    obtain ⟨i0, hi0, hz0, hz1, hz2⟩ := info_parts info30
    have HO : Hid ((w.alloc (.cells #[] 30)).ownsRow w.heap.size 30 2 (.slice (some ⟨w.heap.size, 0, none⟩) 0 0) 0 []) := Lib.hid
      ⟨rfl, .inr ⟨w.heap.size, 0, #[], rfl, Nat.le_refl _, heap_alloc_new w _, Nat.le_refl _, Nat.zero_le _, rfl, rfl⟩⟩
    have HNW := Lib.hid (newsP (hr.ev ((Ev.refl w).alloc (.cells #[] 30))))
    have H1 := Lib.hid (flatS_one l)
    have HL1 := Lib.hid (show 0 + l.length ≤ maxLen by simp [maxLen]; omega)
    have HL2 := Lib.hid (show (0 + l.length) * 16 ≤ 140737488355328 by omega)
    have HC1 := Lib.hid (flatS_len l)
    have HC5 := Lib.hid (show w.heap.size ≤ (w.alloc (.cells #[] 30)).heap.size from by simp)
    clear hr hn hl
    go_enter Try.func22, Try.ntmps22
    go_wp2_with (at_builtin; go_loud (refine wpList_append_own _ rfl (.tmp 3) (.tmp 4) 31 rfl w.heap.size 30 i0 (.agg #[.int .i64 0, .int .i64 0]) 2 16 Try.underlying31 hi0 hz0 hz1 hz2 rfl (by decide) (.slice (some ⟨w.heap.size, 0, none⟩) 0 0) 0 [] rfl HO.out ad l.length cap (flatS l) rfl HC1.out HNW.out H1.out HL1.out HL2.out HC5.out ?_); intro v1 w2 hown1 hg1 _)
    go_ret
    rw [Nat.zero_add, List.nil_append] at hown1
    obtain ⟨A2, c2, rfl, hr2⟩ := RdP.of_own hown1 (by have := HL1.out; unfold maxLen at this; omega)
    exact ⟨A2, c2, rfl, hr2, Ev.grown (al1 _ _) hg1 (fun k hk => by simp [Value.ownBlock] at hk; omega)⟩
end Go.Proofs.Ytpgghbabhgfchaa
