import Derived.Test.YtdkfedbjbcaajaaDoorRQ
import Derived.Test.YtdkfedbjbcaajaaDoorRK
namespace Go.Proofs.YtdkfedbjbcaajaaDoor
open Go.RowKit
theorem IV_at (l : List Int) (j : Nat) (u : Value) (h : (IV l)[j]? = some u) : j < l.length ∧ u = .int .i64 (l.getD j 0) := by
  unfold IV at h
  rw [List.getElem?_map] at h
  rcases hx : l[j]? with _ | x
  · rw [hx] at h; cases h
  · rw [hx] at h
    have hj : j < l.length := by
      rcases Nat.lt_or_ge j l.length with h1 | h1
      · exact h1
      · rw [List.getElem?_eq_none h1] at hx; cases hx
    refine ⟨hj, ?_⟩
    have : u = .int .i64 x := by simpa using h.symm
    rw [this]
    simp [List.getD, hx]
theorem add_cell (b o j : Nat) : (⟨b, o, none⟩ : Addr).add j = ⟨b, o + j, none⟩ := by
  unfold Addr.add
  by_cases h : j = 0
  · subst h; rfl
  · simp [h]
/-- of an own slice: what reads, and what a nil one is -/
theorem RdI.of_own' {w : World} {base : Nat} {v : Value} {L : List Int} (h : OwnI w base v L) (hl : L.length ≤ 9223372036854775807) : ∃ A cap, v = .slice A L.length cap ∧ RdI w A L ∧ (A = none → L = [] ∧ cap = 0) := by
  rcases h.2 with ⟨rfl, h0⟩ | ⟨g, cap, cur, rfl, hbg, hh, hn, hc, hs, ht⟩
  · have e : L = [] := List.eq_nil_of_length_eq_zero h0
    subst e
    exact ⟨none, 0, rfl, ⟨by simp, fun j hj => by simp at hj⟩, fun _ => ⟨rfl, rfl⟩⟩
  · refine ⟨some ⟨g, 0, none⟩, cap, rfl, ⟨hl, fun j hj => ⟨g, 0, rfl, (h.lt g rfl).2, ?_⟩⟩, fun h => by cases h⟩
    rw [Nat.zero_add, World.ownsRow.cellAt h j (by omega)]
    unfold IV
    simp [hj]
theorem own_nilc (w : World) : Calls Tryd.prog 18 #[.slice none 0 0] w fun e w' => ∃ A cap, e = .returned (.slice A ([] : List Int).length cap) ∧ RdI w' A [] ∧ (A = none → ([] : List Int) = []) ∧ Ev w w' := by
  go_enter Tryd.func18, Tryd.ntmps18
  go_wp2_with fail
  go_ret
  exact ⟨some ⟨w.heap.size, 0, none⟩, 0, rfl, ⟨by simp, fun j hj => by simp at hj⟩, by simp, al1 _ _⟩
set_option maxRecDepth 20000 in
set_option maxHeartbeats 400000 in
theorem own_some (ad : Addr) (cap : Nat) (l : List Int) (w : World) (hr : RdI w (some ad) l) (hl : l.length ≤ 100000) :
    Calls Tryd.prog 18 #[.slice (some ad) l.length cap] w fun e w' => ∃ A cap, e = .returned (.slice A l.length cap) ∧ RdI w' A l ∧ (A = none → l = []) ∧ Ev w w' := by
  obtain ⟨i0, hi0, hz0, hz1, hz2⟩ := info_parts info3
  have hown0 : (w.alloc (.cells #[] 3)).ownsRow w.heap.size 3 1 (.slice (some ⟨w.heap.size, 0, none⟩) 0 0) 0 [] :=
    ⟨rfl, .inr ⟨w.heap.size, 0, #[], rfl, Nat.le_refl _, heap_alloc_new w _, Nat.le_refl _, Nat.zero_le _, rfl, rfl⟩⟩
  have hnews : ∀ j u, (IV l)[j]? = some u → (w.alloc (.cells #[] 3)).cell? (ad.add j) = some u := by
    intro j u hu
    obtain ⟨hj, rfl⟩ := IV_at l j u hu
    obtain ⟨b, o, he, hb, hc⟩ := (hr.ev ((Ev.refl w).alloc (.cells #[] 3))).2 j hj
    rw [Option.some.inj he, add_cell]
    exact hc
  have hone : ∀ u ∈ IV l, u.oneCell' = true := by
    intro u hu
    obtain ⟨x, _, rfl⟩ := List.mem_map.1 hu
    rfl
  have HL1 := Lib.hid (show 0 + l.length ≤ maxLen by simp [maxLen]; omega)
  have HL2 := Lib.hid (show (0 + l.length) * 8 ≤ 140737488355328 by omega)
  have HC1 := Lib.hid (show (IV l).length = l.length * 1 from by simp [IV])
  have HC5 := Lib.hid (show w.heap.size ≤ (w.alloc (.cells #[] 3)).heap.size from by simp)
  have HN := Lib.hid hnews
  have HO := Lib.hid hown0
  have H1 := Lib.hid hone
  clear hnews hown0 hone hr
  go_enter Tryd.func18, Tryd.ntmps18
  go_wp2_with (at_builtin; go_loud (refine wpList_append_own _ rfl (.tmp 3) (.tmp 4) 25 rfl w.heap.size 3 i0 (.int .i64 0) 1 8 Tryd.underlying25 hi0 hz0 hz1 hz2 rfl Nat.one_pos (.slice (some ⟨w.heap.size, 0, none⟩) 0 0) 0 [] rfl HO.out ad l.length cap (IV l) rfl HC1.out HN.out H1.out HL1.out HL2.out HC5.out ?_); intro v1 w1 hown1 hg1 _)
  go_ret
  rw [Nat.zero_add, List.nil_append] at hown1
  obtain ⟨A, cap', rfl, hR', hA'⟩ := RdI.of_own' hown1 (by omega)
  exact ⟨A, cap', rfl, hR', fun h => (hA' h).1, Ev.grown (al1 _ _) hg1 (fun k hk => by simp [Value.ownBlock] at hk; omega)⟩
theorem OwnInts_any (A : Option Addr) (cap : Nat) (l : List Int) (w : World) (hr : RdI w A l) (hn : A = none → l = [] ∧ cap = 0) (hl : l.length ≤ 100000) :
    Calls Tryd.prog 18 #[.slice A l.length cap] w fun e w' => ∃ A cap, e = .returned (.slice A l.length cap) ∧ RdI w' A l ∧ (A = none → l = []) ∧ Ev w w' := by
  cases A with
  | none =>
    obtain ⟨rfl, rfl⟩ := hn rfl
    exact own_nilc w
  | some ad => exact own_some ad cap l w hr hl
theorem getD_set_ne (m : List Int) (i k : Nat) (x : Int) (h : i ≠ k) : (m.set i x).getD k 0 = m.getD k 0 := by
  rw [List.getD_eq_getElem?_getD, List.getD_eq_getElem?_getD, List.getElem?_set, if_neg h]
theorem step_ok (m : List Int) (i : Nat) (a : Int) (t : List (Int × Int)) (n : Int) (hi : i < m.length) (ha : isR a = true) :
    runS m (((i : Int), a) :: t) n = if mb (m.getD i 0).toNat a.toNat = true then runS (m.set i a) t (n + 1) else ([], 14, n) := by
  rw [runS, if_neg (by omega), ha, Int.toNat_natCast, Bool.true_and]
theorem run_two (m : List Int) (i k : Nat) (a b : Int) (hi : i < m.length) (hk : k < m.length) (hik : i ≠ k) (ha : isR a = true) (hb : isR b = true) :
    (runS m [((i : Int), a), ((k : Int), b)] 0).1 = (runS m [((k : Int), b), ((i : Int), a)] 0).1 ∧ (runS m [((i : Int), a), ((k : Int), b)] 0).2.1 = (runS m [((k : Int), b), ((i : Int), a)] 0).2.1 := by
  rw [step_ok m i a _ _ hi ha, step_ok m k b _ _ hk hb, step_ok _ k b _ _ (by rw [List.length_set]; exact hk) hb, step_ok _ i a _ _ (by rw [List.length_set]; exact hi) ha,
    getD_set_ne m i k a hik, getD_set_ne m k i b (Ne.symm hik), List.set_comm _ _ hik]
  generalize mb (m.getD i 0).toNat a.toNat = p
  generalize mb (m.getD k 0).toNat b.toNat = q
  cases p <;> cases q <;> simp [runS]
end Go.Proofs.YtdkfedbjbcaajaaDoor
