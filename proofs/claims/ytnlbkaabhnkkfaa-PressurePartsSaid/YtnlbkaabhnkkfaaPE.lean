import Derived.Test.YtnlbkaabhnkkfaaPD
namespace Go.Proofs.Ytnlbkaabhnkkfaa
open Go.RowKit Go.Shelf
theorem info3 : (Try.prog.info? 3).map (fun i => (i.zero, i.size, i.bytes)) = some (some (.int .i64 0), 1, 8) := by kernel_rfl
def IV (l : List Int) : List Value := l.map (Value.int .i64)
theorem IV_at (l : List Int) (j : Nat) (u : Value) (h : (IV l)[j]? = some u) : j < l.length ∧ u = .int .i64 (l.getD j 0) := by
  unfold IV at h
  rw [List.getElem?_map] at h
  rcases hx : l[j]? with _ | x
  · rw [hx] at h; cases h
  · rw [hx] at h
    have hj : j < l.length := by
      rcases Nat.lt_or_ge j l.length with h1 | h1
      · exact h1
      · rw [List.getElem?_eq_none h1] at hx; cases hx
    refine ⟨hj, ?_⟩
    have : u = .int .i64 x := by simpa using h.symm
    rw [this]
    simp [List.getD, hx]
def OwnI (w : World) (base : Nat) (v : Value) (L : List Int) : Prop := w.ownsRow base 3 1 v L.length (IV L)
theorem RdI.of_own {w : World} {base : Nat} {v : Value} {L : List Int} (h : OwnI w base v L) (hl : L.length ≤ 9223372036854775807) : ∃ A cap, v = .slice A L.length cap ∧ RdI w A L := by
  rcases h.2 with ⟨rfl, h0⟩ | ⟨g, cap, cur, rfl, hbg, hh, hn, hc, hs, ht⟩
  · have e : L = [] := List.eq_nil_of_length_eq_zero h0
    subst e
    exact ⟨none, 0, rfl, by simp, fun j hj => by simp at hj⟩
  · refine ⟨some ⟨g, 0, none⟩, cap, rfl, hl, fun j hj => ⟨g, 0, rfl, (h.lt g rfl).2, ?_⟩⟩
    rw [Nat.zero_add, World.ownsRow.cellAt h j (by omega)]
    unfold IV
    simp [hj]
theorem add_cell (b o j : Nat) : (⟨b, o, none⟩ : Addr).add j = ⟨b, o + j, none⟩ := by
  unfold Addr.add
  by_cases h : j = 0
  · subst h; rfl
  · simp [h]
theorem own_nil (w : World) : Calls Try.prog 18 #[.slice none 0 0] w fun e w' => ∃ A cap, e = .returned (.slice A ([] : List Int).length cap) ∧ RdI w' A [] ∧ Ev w w' := by
  go_enter Try.func18, Try.ntmps18
  go_wp2_with fail
  go_ret
  exact ⟨some ⟨w.heap.size, 0, none⟩, 0, rfl, ⟨by simp, fun j hj => by simp at hj⟩, al1 _ _⟩
set_option maxRecDepth 20000 in
set_option maxHeartbeats 400000 in
theorem own_some (ad : Addr) (cap : Nat) (l : List Int) (w : World) (hr : RdI w (some ad) l) (hl : l.length ≤ 100000) :
    Calls Try.prog 18 #[.slice (some ad) l.length cap] w fun e w' => ∃ A cap, e = .returned (.slice A l.length cap) ∧ RdI w' A l ∧ Ev w w' := by
  obtain ⟨i0, hi0, hz0, hz1, hz2⟩ := info_parts info3
  have hown0 : (w.alloc (.cells #[] 3)).ownsRow w.heap.size 3 1 (.slice (some ⟨w.heap.size, 0, none⟩) 0 0) 0 [] :=
    ⟨rfl, .inr ⟨w.heap.size, 0, #[], rfl, Nat.le_refl _, heap_alloc_new w _, Nat.le_refl _, Nat.zero_le _, rfl, rfl⟩⟩
  have hnews : ∀ j u, (IV l)[j]? = some u → (w.alloc (.cells #[] 3)).cell? (ad.add j) = some u := by
    intro j u hu
    obtain ⟨hj, rfl⟩ := IV_at l j u hu
    obtain ⟨b, o, he, hb, hc⟩ := (hr.ev ((Ev.refl w).alloc (.cells #[] 3))).2 j hj
    rw [Option.some.inj he, add_cell]
    exact hc
  have hone : ∀ u ∈ IV l, u.oneCell' = true := by
    intro u hu
    obtain ⟨x, _, rfl⟩ := List.mem_map.1 hu
    rfl
  have HL1 := Lib.hid (show 0 + l.length ≤ maxLen by simp [maxLen]; omega)
  have HL2 := Lib.hid (show (0 + l.length) * 8 ≤ 140737488355328 by omega)
  have HC1 := Lib.hid (show (IV l).length = l.length * 1 from by simp [IV])
  have HC5 := Lib.hid (show w.heap.size ≤ (w.alloc (.cells #[] 3)).heap.size from by simp)
  have HN := Lib.hid hnews
  have HO := Lib.hid hown0
  have H1 := Lib.hid hone
  clear hnews hown0 hone hr
  go_enter Try.func18, Try.ntmps18
  go_wp2_with (at_builtin; go_loud (refine wpList_append_own _ rfl (.tmp 3) (.tmp 4) 33 rfl w.heap.size 3 i0 (.int .i64 0) 1 8 Try.underlying33 hi0 hz0 hz1 hz2 rfl Nat.one_pos (.slice (some ⟨w.heap.size, 0, none⟩) 0 0) 0 [] rfl HO.out ad l.length cap (IV l) rfl HC1.out HN.out H1.out HL1.out HL2.out HC5.out ?_); intro v1 w1 hown1 hg1 _)
  go_ret
  rw [Nat.zero_add, List.nil_append] at hown1
  obtain ⟨A, cap', rfl, hR'⟩ := RdI.of_own hown1 (by omega)
  refine ⟨A, cap', rfl, hR', ?_⟩
  exact Ev.grown (al1 _ _) hg1 (fun k hk => by simp [Value.ownBlock] at hk; omega)
theorem OwnInts_any (A : Option Addr) (cap : Nat) (l : List Int) (w : World) (hr : RdI w A l) (hn : A = none → l = [] ∧ cap = 0) (hl : l.length ≤ 100000) :
    Calls Try.prog 18 #[.slice A l.length cap] w fun e w' => ∃ A cap, e = .returned (.slice A l.length cap) ∧ RdI w' A l ∧ Ev w w' := by
  cases A with
  | none =>
    obtain ⟨rfl, rfl⟩ := hn rfl
    exact own_nil w
  | some ad => exact own_some ad cap l w hr hl
/-- a history made of numbers -/
def hiL (l : List Int) : List Int := (l.take 40).map (· % 20)
theorem hiL_len (l : List Int) : (hiL l).length ≤ 40 := by unfold hiL; rw [List.length_map, List.length_take]; omega
theorem take_snoc' (l : List Int) (j : Nat) (h : j < l.length) : (l.take (j + 1)).map (· % 20) = (l.take j).map (· % 20) ++ [l.getD j 0 % 20] := by
  rw [List.take_succ_eq_append_getElem h, List.map_append]
  simp [List.getD, h]
set_option maxHeartbeats 2000000 in
theorem history_any (A : Option Addr) (cap : Nat) (l : List Int) (w : World) (hr : RdI w A l) :
    Calls Try.prog 33 #[.slice A l.length cap] w fun e w' => ∃ v, e = .returned v ∧ OwnI w' w.heap.size v (hiL l) ∧ Ev w w' := by
  obtain ⟨i0, hi0, hz0, hz1, hz2⟩ := info_parts info3
  have hlen := hr.1
  have HRD := Lib.hid hr
  have HM := Lib.hid fun x W => mod_any x 20 W (by omega) (by omega)
  have HE0 : Hid (∀ j, j ≤ 40 → (j = l.length ∨ j = 40) → hiL l = (l.take j).map (· % 20)) := Lib.hid (by
    intro j hj h
    unfold hiL
    rcases h with rfl | rfl
    · rw [List.take_length, List.take_of_length_le hj]
    · rfl)
  clear hr
  go_enter Try.func33, Try.ntmps33
  go_wp2_with fail
  go_loopw [3, 4] (fun v i wr => ∃ (j : Nat), j ≤ l.length ∧ j ≤ 40 ∧ i = .int .i64 j ∧ wr.ownsRow w.heap.size 3 1 v j (IV ((l.take j).map (· % 20))) ∧ Ev w wr) (fun _ i _ => l.length - (intOf i).toNat)
  case atStart => exact ⟨0, by omega, by omega, rfl, World.ownsRow_nil _ _ _ _, Ev.refl _⟩
  case round =>
    obtain ⟨j, hj, hj4, rfl, hown, hev⟩ := hrel
    have HOWN := Lib.hid hown
    have HEV := Lib.hid hev
    by_cases hlt : j < l.length
    · have hlt' : (j : Int) < (l.length : Int) := by omega
      have hj0 : 0 ≤ (j : Int) := by omega
      by_cases hl4 : j < 40
      · obtain ⟨b', o, rfl, hb, c1⟩ := (HRD.out.ev hev).2 j hlt
        have hs := Lib.hid (take_snoc' l j hlt)
        generalize l.getD j 0 = x at *
        have hl4' : (j : Int) < 40 := by omega
        have HMX := Lib.hid (HM.out x)
        generalize x % 20 = y at *
        have H3 := Lib.hid (show j + 1 ≤ maxLen from by unfold maxLen; omega)
        have H4 := Lib.hid (show (j + 1) * 8 ≤ 140737488355328 from by omega)
        have H5 : Hid (∀ o, w.heap.size ≤ (wr.alloc o).heap.size) := Lib.hid (by intro o; have := HEV.out.sz; simp; omega)
        clear hown hev
        go_wp2_with (first | (go_at_call 34; refine (HMX.out _).mono ?_; rintro e w' ⟨rfl, rfl⟩) | (at_builtin; go_loud (refine wpList_append_own _ rfl (.tmp 15) (.tmp 21) 33 rfl w.heap.size 3 i0 (.int .i64 0) 1 8 Try.underlying33 hi0 hz0 hz1 hz2 rfl Nat.one_pos u3 j (IV ((l.take j).map (· % 20))) rfl (HOWN.out.alloc _) ⟨wr.heap.size, 0, none⟩ 1 1 [.int .i64 y] rfl rfl (one_cell _ _ _) (by simp [Value.oneCell']) H3.out H4.out (H5.out _) ?_); intro v1 w4 hown4 hg4 _))
        have HW4 := Lib.hid (Ev.grown (HEV.out.alloc _) hg4 (fun g hg => (HOWN.out.lt g hg).1))
        have HOW4 := Lib.hid hown4
        clear hg4 hown4
        go_wp2_with fail
        go_roundw
        case rel => exact ⟨j + 1, by omega, by omega, by go_num, by rw [hs.out]; unfold IV; rw [List.map_append]; exact HOW4.out, HW4.out⟩
        case measure => simp [intOf]; omega
      · obtain rfl : j = 40 := by omega
        have HH := Lib.hid (HE0.out 40 (by omega) (.inr rfl))
        clear hown hev
        go_wp2_with fail
        go_ret
        refine ⟨_, rfl, ?_, HEV.out⟩
        have hl : (hiL l).length = 40 := by unfold hiL; rw [List.length_map, List.length_take]; omega
        unfold OwnI
        rw [hl, HH.out]
        exact HOWN.out
    · obtain rfl : j = l.length := by omega
      have HH := Lib.hid (HE0.out l.length hj4 (.inl rfl))
      clear hown hev
      go_wp2_with fail
      go_ret
      refine ⟨_, rfl, ?_, HEV.out⟩
      have hl : (hiL l).length = l.length := by unfold hiL; rw [List.length_map, List.length_take]; omega
      unfold OwnI
      rw [hl, HH.out]
      exact HOWN.out
end Go.Proofs.Ytnlbkaabhnkkfaa
