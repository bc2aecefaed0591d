import Derived.Test.YtkifcjjnpahdmaaDoorB3
import Derived.Laws.OwnMore
import Derived.Laws.AppendOwnNone
namespace Go.Proofs.YtkifcjjnpahdmaaDoor
open Go.RowKit
open Go.Deep

/-- the words as cells -/
def U (ws : List Nat) : List Value := ws.map fun (x : Nat) => Value.int .u64 (x : Int)
theorem U_at (ws : List Nat) (j : Nat) (u : Value) (h : (U ws)[j]? = some u) : j < ws.length ∧ u = .int .u64 (ws.getD j 0 : Nat) := by
  unfold U at h
  rw [List.getElem?_map] at h
  rcases hx : ws[j]? with _ | x
  · rw [hx] at h; cases h
  · rw [hx] at h
    have hj : j < ws.length := by
      rcases Nat.lt_or_ge j ws.length with h1 | h1
      · exact h1
      · rw [List.getElem?_eq_none h1] at hx; cases hx
    refine ⟨hj, ?_⟩
    have : u = .int .u64 (x : Int) := by simpa using h.symm
    rw [this]
    have e : ws.getD j 0 = x := by simp [List.getD, hx]
    rw [e]
theorem Rd.of_own {w : World} {base : Nat} {v : Value} {ws : List Nat} (h : w.ownsRow base 61 1 v ws.length (U ws)) (hx : ∀ x ∈ ws, x < 18446744073709551616) (hl : ws.length ≤ 4000000000) : ∃ A cap, v = .slice A ws.length cap ∧ Nil0 A cap ∧ From base A ∧ Rd w A ws := by
  rcases h.2 with ⟨rfl, h0⟩ | ⟨g, cap, cur, rfl, hbg, hh, hn, hc, hs, ht⟩
  · have e : ws = [] := List.eq_nil_of_length_eq_zero h0
    subst e
    exact ⟨none, 0, rfl, fun _ => rfl, (fun a h => by cases h), Rd.zero⟩
  · refine ⟨some ⟨g, 0, none⟩, cap, rfl, (fun h => by cases h), (fun a h => by rw [← Option.some.inj h]; exact hbg), hx, hl, fun j hj => ⟨g, 0, rfl, ?_, ?_⟩⟩
    · rcases Nat.lt_or_ge g w.heap.size with h1 | h1
      · exact h1
      · rw [Array.getElem?_eq_none h1] at hh; cases hh
    · rw [Nat.zero_add, h.cellAt j (by omega)]
      unfold U
      simp [hj]

set_option maxHeartbeats 400000 in
theorem own_nil (w : World) :
    Calls Tryd.prog 43 #[.slice none 0 0] w fun e w' => ∃ A cap, e = .returned (.slice A 0 cap) ∧ Nil0 A cap ∧ From w.heap.size A ∧ Rd w' A [] ∧ Below w.heap.size w w' := by
  go_enter Tryd.func43, Tryd.ntmps43
  go_wp2_with fail
  go_ret
  exact ⟨some ⟨w.heap.size, 0, none⟩, 0, rfl, (fun h => by cases h), (fun a h => by rw [← Option.some.inj h]; exact Nat.le_refl _), Rd.zero, (Below.refl _ _).alloc (Nat.le_refl _) _⟩
theorem add_cell (b o j : Nat) : (⟨b, o, none⟩ : Addr).add j = ⟨b, o + j, none⟩ := by
  unfold Addr.add
  by_cases h : j = 0
  · subst h; rfl
  · simp [h]
set_option maxRecDepth 20000 in
set_option maxHeartbeats 400000 in
theorem own_some (ad : Addr) (cap : Nat) (ws : List Nat) (w : World) (hr : Rd w (some ad) ws) (hl : ws.length ≤ 100000) :
    Calls Tryd.prog 43 #[.slice (some ad) ws.length cap] w fun e w' => ∃ A cap, e = .returned (.slice A ws.length cap) ∧ Nil0 A cap ∧ From w.heap.size A ∧ Rd w' A ws ∧ Below w.heap.size w w' := by
  obtain ⟨i0, hi0, hz0, hz1, hz2⟩ := info_parts info61
  have hown0 : (w.alloc (.cells #[] 61)).ownsRow w.heap.size 61 1 (.slice (some ⟨w.heap.size, 0, none⟩) 0 0) 0 [] :=
    ⟨rfl, .inr ⟨w.heap.size, 0, #[], rfl, Nat.le_refl _, heap_alloc_new w _, Nat.le_refl _, Nat.zero_le _, rfl, rfl⟩⟩
  have hnews : ∀ j u, (U ws)[j]? = some u → (w.alloc (.cells #[] 61)).cell? (ad.add j) = some u := by
    intro j u hu
    obtain ⟨hj, rfl⟩ := U_at ws j u hu
    obtain ⟨b, o, he, hb, hc⟩ := (hr.alloc (.cells #[] 61)).2.2 j hj
    rw [Option.some.inj he, add_cell]
    exact hc
  have hone : ∀ u ∈ U ws, u.oneCell' = true := by
    intro u hu
    obtain ⟨x, _, rfl⟩ := List.mem_map.1 hu
    rfl
  have hl1 : 0 + ws.length ≤ maxLen := by simp [maxLen]; omega
  have hl2 : (0 + ws.length) * 8 ≤ 140737488355328 := by omega
  have HL1 := Lib.hid hl1
  have HL2 := Lib.hid hl2
  have hR := hr
  have HC1 := Lib.hid (show (U ws).length = ws.length * 1 from by simp [U])
  have HC5 := Lib.hid (show w.heap.size ≤ (w.alloc (.cells #[] 61)).heap.size from by simp)
  have HN := Lib.hid hnews
  have HO := Lib.hid hown0
  have H1 := Lib.hid hone
  clear hnews hown0 hone hl1 hl2
  clear hl hr
  go_enter Tryd.func43, Tryd.ntmps43
  go_wp2_with (at_builtin; go_loud (refine wpList_append_own _ rfl (.tmp 3) (.tmp 4) 22 rfl w.heap.size 61 i0 (.int .u64 0) 1 8 Tryd.underlying22 hi0 hz0 hz1 hz2 rfl Nat.one_pos (.slice (some ⟨w.heap.size, 0, none⟩) 0 0) 0 [] rfl HO.out ad ws.length cap (U ws) rfl HC1.out HN.out H1.out HL1.out HL2.out HC5.out ?_); intro v1 w1 hown1 hg1 _)
  go_ret
  rw [Nat.zero_add, List.nil_append] at hown1
  obtain ⟨A, cap', hv, hA, hF, hR'⟩ := Rd.of_own hown1 hR.1 hR.2.1
  refine ⟨A, cap', by rw [← hv]; rfl, hA, hF, hR', ?_⟩
  exact ((Below.refl _ _).alloc (Nat.le_refl _) _).grown hg1 (by simp) (fun k hk => by simp [Value.ownBlock] at hk; omega)
end Go.Proofs.YtkifcjjnpahdmaaDoor
