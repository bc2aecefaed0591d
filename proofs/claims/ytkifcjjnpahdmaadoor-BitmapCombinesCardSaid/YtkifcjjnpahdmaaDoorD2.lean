import Derived.Test.YtkifcjjnpahdmaaDoorD0
import Derived.Test.YtkifcjjnpahdmaaDoorD1
namespace Go.Proofs.YtkifcjjnpahdmaaDoor
open Go.RowKit
open Go.Deep

theorem wrap_small (P : Nat) (h : P < 18446744073709551616) : IntKind.u64.wrap (P : Int) = (P : Int) := by
  rw [IntKind.wrap_u64]
  omega
theorem info4 : (Tryd.prog.info? 4).map (fun i => (i.zero, i.size, i.bytes)) = some (some (.bool false), 1, 1) := by kernel_rfl
/-- the first n members of p as cells -/
def BL (p : Nat → Bool) (n : Nat) : List Value := (List.range n).map fun i => .bool (p i)
theorem BL_succ (p : Nat → Bool) (k : Nat) : BL p k ++ [.bool (p k)] = BL p (k + 1) := by
  unfold BL
  rw [List.range_succ, List.map_append]
  rfl
theorem own_below {w w' : World} {base : Nat} {e : TypeId} {size : Nat} {v : Value} {n : Nat} {xs : List Value} (h : w.ownsRow base e size v n xs) (hb : Below w.heap.size w w') : w'.ownsRow base e size v n xs :=
  h.kept (row := none) ⟨hb.os, hb.tape, hb.output, hb.size, fun i hi _ => hb.block i hi⟩ (by cases hv : v.ownBlock <;> simp)
theorem one_cell (w : World) (v : Value) (t : TypeId) : ∀ j u, [v][j]? = some u → (w.alloc (.cells #[v] t)).cell? ((⟨w.heap.size, 0, none⟩ : Addr).add j) = some u := by
  intro j u h
  rcases j with _ | j
  · simp at h
    subst h
    simp [Addr.add]
  · simp at h

set_option maxRecDepth 100000 in
set_option maxHeartbeats 1000000 in
theorem members_any (n : Nat) (A : Option Addr) (cap : Nat) (ws : List Nat) (w : World) (hr : Rd w A ws) (hn : n ≤ 1024) (hl : ws.length = nw n) :
    Calls Tryd.prog 51 #[.agg #[.int .i64 (n : Int), .slice A ws.length cap]] w fun e w' => ∃ v, e = .returned v ∧ w'.ownsRow (w.heap.size + 1) 4 1 v n (BL (bit ws) n) ∧ Below w.heap.size w w' := by
  obtain ⟨i0, hi0, hz0, hz1, hz2⟩ := info_parts info4
  have hr1 := hr.alloc (.cells #[.int .i64 (n : Int), .slice A ws.length cap] 24)
  have hll : ws.length ≤ 100 := by rw [hl]; unfold nw; omega
  have hll2 : n ≤ 64 * ws.length := by rw [hl]; unfold nw; omega
  clear hl
  go_enter Tryd.func51, Tryd.ntmps51
  go_wp2
  go_loopw [3, 4] (fun v i wr => ∃ k : Nat, k ≤ n ∧ i = .int .i64 k ∧ wr.ownsRow (w.heap.size + 1) 4 1 v k (BL (bit ws) k) ∧ Below (w.heap.size + 1) (w.alloc (.cells #[.int .i64 (n : Int), .slice A ws.length cap] 24)) wr) (fun _ i _ => n - (intOf i).toNat)
  case atStart => exact ⟨0, Nat.zero_le _, rfl, ⟨rfl, .inl ⟨rfl, rfl⟩⟩, refl1 _ _⟩
  case round =>
    obtain ⟨k, hk, rfl, hown, hb⟩ := hrel
    obtain ⟨hx0, hx1⟩ := box2 hb
    have hsz : w.heap.size + 1 ≤ wr.heap.size := by have := bsz hb; simpa using this
    have hR : Rd wr A ws := hr1.below (by simpa using hb)
    by_cases hlt : k < n
    · have hh := rhas_any n A cap ws (k : Int) wr hR (by omega) (by omega) (by omega)
      rw [Int.toNat_natCast] at hh
      have hlt' : (k : Int) < (n : Int) := by omega
      go_wp2_with fail
      refine hh.mono ?_
      rintro e w3 ⟨rfl, hb3⟩
      have hown3 := own_below hown hb3
      have hs3 := bsz hb3
      have H0 := Lib.hid (hown3.alloc (.cells #[.bool (bit ws k)] 4))
      have H1 := Lib.hid (one_cell w3 (.bool (bit ws k)) 4)
      have H2 : Hid (∀ u ∈ [Value.bool (bit ws k)], u.oneCell' = true) := Lib.hid (by simp [Value.oneCell'])
      have H3 := Lib.hid (show k + 1 ≤ maxLen from by unfold maxLen; omega)
      have H4 := Lib.hid (show (k + 1) * 1 ≤ 140737488355328 from by omega)
      have H5 := Lib.hid (show w.heap.size + 1 ≤ (w3.alloc (.cells #[.bool (bit ws k)] 4)).heap.size from by simp; omega)
      have HB := Lib.hid ((hb.trans (hb3.mono hsz)).alloc (show w.heap.size + 1 ≤ w3.heap.size from by omega) (.cells #[.bool (bit ws k)] 4))
      clear hh hown hown3 hb hb3
      go_wp2_with (at_builtin; go_loud (refine wpList_append_own _ rfl (.tmp 11) (.tmp 15) 70 rfl (w.heap.size + 1) 4 i0 (.bool false) 1 1 Tryd.underlying70 hi0 hz0 hz1 hz2 rfl Nat.one_pos u3 k (BL (bit ws) k) rfl H0.out ⟨w3.heap.size, 0, none⟩ 1 1 [.bool (bit ws k)] rfl rfl H1.out H2.out H3.out H4.out H5.out ?_); intro v1 w4 hown4 hg4 _)
      go_roundw
      case rel => exact ⟨k + 1, by omega, by go_num, by rw [← BL_succ]; exact hown4, HB.out.grown hg4 H5.out (fun g hg => (H0.out.lt g hg).1)⟩
      case measure => simp [intOf]; omega
    · obtain rfl : k = n := by omega
      go_wp2
      go_ret
      exact ⟨_, rfl, hown, ((Below.refl _ _).alloc (Nat.le_refl _) _).trans (hb.mono (by omega))⟩
/-- The slice at A reads as the first n members of p. -/
def RdB (w : World) (A : Option Addr) (n : Nat) (p : Nat → Bool) : Prop :=
  ∀ j, j < n → ∃ b o, A = some ⟨b, o, none⟩ ∧ b < w.heap.size ∧ w.cell? ⟨b, o + j, none⟩ = some (.bool (p j))
theorem RdB.below {w w' : World} {A : Option Addr} {n : Nat} {p : Nat → Bool} (h : RdB w A n p) (hb : Below w.heap.size w w') : RdB w' A n p := fun j hj => by
  obtain ⟨b, o, rfl, hlt, hc⟩ := h j hj
  exact ⟨b, o, rfl, Nat.lt_of_lt_of_le hlt hb.size, by rw [hb.cell (p := ⟨b, o + j, none⟩) hlt]; exact hc⟩
theorem RdB.alloc {w : World} {A : Option Addr} {n : Nat} {p : Nat → Bool} (h : RdB w A n p) (o : Obj) : RdB (w.alloc o) A n p := h.below ((Below.refl _ _).alloc (Nat.le_refl _) o)
theorem RdB.of_own {w : World} {base : Nat} {v : Value} {n : Nat} {p : Nat → Bool} (h : w.ownsRow base 4 1 v n (BL p n)) : ∃ A cap, v = .slice A n cap ∧ Nil0 A cap ∧ From base A ∧ RdB w A n p := by
  rcases h.2 with ⟨rfl, h0⟩ | ⟨g, cap, cur, rfl, hbg, hh, hn, hc, hs, ht⟩
  · subst h0
    exact ⟨none, 0, rfl, fun _ => rfl, from_none _, fun j hj => by omega⟩
  · refine ⟨some ⟨g, 0, none⟩, cap, rfl, nil0_some _, from_some hbg, fun j hj => ⟨g, 0, rfl, ?_, ?_⟩⟩
    · rcases Nat.lt_or_ge g w.heap.size with h1 | h1
      · exact h1
      · rw [Array.getElem?_eq_none h1] at hh; cases hh
    · rw [Nat.zero_add, h.cellAt j (by omega)]
      unfold BL
      simp [hj]

set_option maxRecDepth 100000 in
set_option maxHeartbeats 1000000 in
theorem made_any (n : Nat) (A : Option Addr) (cap : Nat) (p : Nat → Bool) (w : World) (hr : RdB w A n p) (hn : n ≤ 1024) :
    Calls Tryd.prog 52 #[.slice A n cap] w fun e w' => ∃ g, e = .returned (.agg #[.int .i64 (n : Int), .slice (some ⟨g, 0, none⟩) (nw n) (nw n)]) ∧ w.heap.size ≤ g ∧ Rd w' (some ⟨g, 0, none⟩) (pack p n) ∧ Below w.heap.size w w' := by
  have hnw : nw n ≤ 100 := by unfold nw; omega
  go_enter Tryd.func52, Tryd.ntmps52
  go_wp2_with fail
  refine (rnew_ok (n : Int) _ (by omega) (by omega)).mono ?_
  rintro e w1 ⟨g, rfl, hg, hrow, hb⟩
  have hs1 : w.heap.size + 1 ≤ w1.heap.size := by have := bsz hb; simpa using this
  have hg1 : w.heap.size + 1 ≤ g := by simpa using hg
  have hgl := hrow.lt
  go_wp2
  have hb3 : Below (w.heap.size + 1) (w.alloc (.cells #[.int .i64 0, .slice none 0 0] 24)) (w1.alloc (.cells #[.int .i64 (n : Int), .slice (some ⟨g, 0, none⟩) (nw n) (nw n)] 24)) := (sz1 hb).alloc hs1 _
  obtain ⟨hx0, hx1⟩ := box2 hb3
  obtain ⟨hy0, hy1⟩ := box2 (refl1 w1 (.cells #[.int .i64 (n : Int), .slice (some ⟨g, 0, none⟩) (nw n) (nw n)] 24))
  have hz0 : (w1.alloc (.cells #[.int .i64 (n : Int), .slice (some ⟨g, 0, none⟩) (nw n) (nw n)] 24)).frozen? ⟨w.heap.size, 0, none⟩ = false := (hb3.frozen (p := ⟨w.heap.size, 0, none⟩) (by simp only []; omega)).trans (by simp)
  have hz1 : (w1.alloc (.cells #[.int .i64 (n : Int), .slice (some ⟨g, 0, none⟩) (nw n) (nw n)] 24)).frozen? ⟨w.heap.size, 1, none⟩ = false := (hb3.frozen (p := ⟨w.heap.size, 1, none⟩) (by simp only []; omega)).trans (by simp)
  have hrow3 := hrow.alloc (.cells #[.int .i64 (n : Int), .slice (some ⟨g, 0, none⟩) (nw n) (nw n)] 24)
  have hs3 : (w1.alloc (.cells #[.int .i64 (n : Int), .slice (some ⟨g, 0, none⟩) (nw n) (nw n)] 24)).heap.size = w1.heap.size + 1 := by simp
  have hbW : Below w.heap.size w (w1.alloc (.cells #[.int .i64 (n : Int), .slice (some ⟨g, 0, none⟩) (nw n) (nw n)] 24)) := ((Below.refl _ _).alloc (Nat.le_refl _) _).trans (hb3.mono (by omega))
  clear hb hb3 hrow hg
  generalize w1.alloc (.cells #[.int .i64 (n : Int), .slice (some ⟨g, 0, none⟩) (nw n) (nw n)] 24) = w3 at *
  go_loopw [5] (fun i wr => ∃ k : Nat, k ≤ n ∧ i = .int .i64 k ∧ w3.grownBy wr (some g) ∧ wr.rowIs g 61 (nw n) (fun j => .int .u64 (pw p k j : Nat))) (fun i _ => n - (intOf i).toNat)
  case atStart => exact ⟨0, Nat.zero_le _, rfl, World.grownBy.refl _ _, hrow3.congr fun j _ => by rw [pw_zero]; rfl⟩
  case round =>
    obtain ⟨k, hk, rfl, hgb, hrow⟩ := hrel
    have hsr := hgb.size
    have cn1 := (gb_cell hgb w1.heap.size 1 (by omega) (by omega)).trans hy1
    have cn0 := (gb_cell hgb w1.heap.size 0 (by omega) (by omega)).trans hy0
    by_cases hlt : k < n
    · obtain ⟨b, o, rfl, hbl, hcell⟩ := hr k hlt
      rw [← hbW.cell (p := ⟨b, o + k, none⟩) hbl] at hcell
      have cc := (gb_cell hgb b (o + k) (by omega) (by omega)).trans hcell
      have hlt' : (k : Int) < (n : Int) := by omega
      cases hp : p k with
      | false =>
        rw [hp] at cc
        have HP := Lib.hid hp
        clear hp hcell hx0 hx1 hy0 hy1
        go_wp2
        go_roundw
        case rel => exact ⟨k + 1, by omega, by go_num, hgb, hrow.congr fun j _ => by rw [pw_no p k j (.inl HP.out)]⟩
        case measure => simp [intOf]; omega
      | true =>
        rw [hp] at cc
        obtain ⟨j, hjd⟩ : ∃ j, k / 64 = j := ⟨_, rfl⟩
        obtain ⟨r, hrd⟩ : ∃ r, k % 64 = r := ⟨_, rfl⟩
        have hj : (k : Int) / 64 = (j : Int) := by omega
        have hm : (k : Int) % 64 = (r : Int) := by omega
        have hjl : j < nw n := by unfold nw; omega
        have cg := hrow.cell hjl
        have cf := hrow.frozen j
        have hjl' : (j : Int) < (nw n : Int) := by omega
        have hm64 : r < 64 := by omega
        have hz : bits .or .u64 ((pw p k j : Nat) : Int) (IntKind.u64.wrap (2 ^ r)) = ((pw p (k + 1) j : Nat) : Int) := by
          have hpw : 2 ^ r < 18446744073709551616 := Nat.lt_of_le_of_lt (Nat.pow_le_pow_right (n := 2) (by decide) (show r ≤ 63 by omega)) (by decide)
          have e1 : IntKind.u64.wrap (2 ^ r) = ((2 ^ r : Nat) : Int) := by
            rw [show (2 : Int) ^ r = ((2 ^ r : Nat) : Int) from by simp]
            exact wrap_small _ hpw
          rw [e1, bits_or_u64_nat _ _ (pw_lt _ _ _) hpw, ← hjd, ← hrd, pw_yes p k hp]
        have HP := Lib.hid hp
        have HJ := Lib.hid hjd
        clear hp hcell hx0 hx1 hy0 hy1 hjd hrd
        go_wp2
        go_region
        go_wp2
        go_roundw
        case rel => exact ⟨k + 1, by omega, by go_num, gb_d (gb_set hgb _ _), (hrow.set j _).congr fun i _ => by
          by_cases e : i = j
          · rw [if_pos e, e]
          · rw [if_neg e, pw_no p k i (.inr (by have := HJ.out; omega))]⟩
        case measure => simp [intOf]; omega
    · obtain rfl : k = n := by omega
      have cx0 := (gb_cell hgb w.heap.size 0 (by omega) (by omega)).trans hx0
      have cx1 := (gb_cell hgb w.heap.size 1 (by omega) (by omega)).trans hx1
      have fx0 := (gb_frozen hgb w.heap.size 0 (by omega) (by omega)).trans hz0
      have fx1 := (gb_frozen hgb w.heap.size 1 (by omega) (by omega)).trans hz1
      clear hx0 hx1 hy0 hy1 hz0 hz1 hrow3
      go_wp2
      refine bodyPost_ret (v := .agg #[.int .i64 (k : Int), .slice (some ⟨g, 0, none⟩) (nw k) (nw k)]) (by simp [results, Tryd.results52, go_sem, cx0, cx1]) rfl ⟨g, rfl, by omega, ?_, ?_⟩
      · refine Rd.of_row (len := 0) _ ((hrow.setOther (a := ⟨w.heap.size, 0, none⟩) (by simp only []; omega) _).setOther (a := ⟨w.heap.size, 1, none⟩) (by simp only []; omega) _) (by rw [pack_len]; exact Nat.le_refl _) (pack_lt _ _) (by rw [pack_len]; omega) fun j hj => by
          rw [pack_at _ _ _ (by rw [pack_len] at hj; exact hj)]
      · exact ((hbW.grown hgb (by omega) (fun i hi => by injection hi with hi; omega)).setCell (by simp only []; omega) _).setCell (by simp only []; omega) _
end Go.Proofs.YtkifcjjnpahdmaaDoor
