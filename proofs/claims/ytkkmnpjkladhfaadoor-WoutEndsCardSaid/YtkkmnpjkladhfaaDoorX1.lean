import Derived.Test.YtkkmnpjkladhfaaDoorWG
import Derived.OwnWalk
import Derived.Laws.AppendOwn
import Derived.Laws.OwnMore
namespace Go.Proofs.YtkkmnpjkladhfaaDoor
open Go.RowKit
theorem own_below {w w' : World} {base : Nat} {e : TypeId} {size : Nat} {v : Value} {n : Nat} {xs : List Value} (h : w.ownsRow base e size v n xs) (hb : Below w.heap.size w w') : w'.ownsRow base e size v n xs :=
  h.kept (row := none) ⟨hb.os, hb.tape, hb.output, hb.size, fun i hi _ => hb.block i hi⟩ (by cases hv : v.ownBlock <;> simp)
theorem Ev.own {w w' : World} {base : Nat} {e : TypeId} {size : Nat} {v : Value} {n : Nat} {xs : List Value} (h : Ev w w') (ho : w.ownsRow base e size v n xs) : w'.ownsRow base e size v n xs := own_below ho h
theorem Ev.grown {w W W' : World} {row : Option Nat} (h : Ev w W) (hg : W.grownBy W' row) (hr : ∀ k, row = some k → w.heap.size ≤ k) : Ev w W' := Below.grown h hg h.sz hr
theorem Ev.cell {w W : World} (e : Ev w W) {p : Addr} (h : p.block < w.heap.size) : W.cell? p = w.cell? p := Below.cell e h
theorem one_cell (w : World) (x : Value) (T : TypeId) : ∀ j u, [x][j]? = some u → (w.alloc (.cells #[x] T)).cell? ((⟨w.heap.size, 0, none⟩ : Addr).add j) = some u := by
  intro j u h
  rcases j with _ | j
  · simp at h
    subst h
    simp [Addr.add]
  · simp at h
theorem own_weaken {w : World} {base base' : Nat} {e : TypeId} {size : Nat} {v : Value} {n : Nat} {xs : List Value} (h : w.ownsRow base e size v n xs) (hb : base' ≤ base) : w.ownsRow base' e size v n xs := by
  refine ⟨h.1, ?_⟩
  rcases h.2 with h0 | ⟨g, cap, cur, h1, h2, h3⟩
  · exact .inl h0
  · exact .inr ⟨g, cap, cur, h1, by omega, h3⟩
theorem info3 : (Tryd.prog.info? 3).map (fun i => (i.zero, i.size, i.bytes)) = some (some (.int .i64 0), 1, 8) := by kernel_rfl
def IV (l : List Int) : List Value := l.map (Value.int .i64)
def OwnI (w : World) (base : Nat) (v : Value) (L : List Int) : Prop := w.ownsRow base 3 1 v L.length (IV L)
/-- The slice at A reads as the numbers l. -/
def RdI (w : World) (A : Option Addr) (l : List Int) : Prop :=
  l.length ≤ 9223372036854775807 ∧ ∀ j, j < l.length → ∃ b o, A = some ⟨b, o, none⟩ ∧ b < w.heap.size ∧ w.cell? ⟨b, o + j, none⟩ = some (.int .i64 (l.getD j 0))
theorem RdI.ev {w w' : World} {A : Option Addr} {l : List Int} (h : RdI w A l) (e : Ev w w') : RdI w' A l := ⟨h.1, fun j hj => by
  obtain ⟨b, o, h1, h2, h3⟩ := h.2 j hj
  have := e.sz
  exact ⟨b, o, h1, by omega, by rw [e.cell (p := ⟨b, o + j, none⟩) h2]; exact h3⟩⟩
theorem RdI.of_own {w : World} {base : Nat} {v : Value} {L : List Int} (h : OwnI w base v L) (hl : L.length ≤ 9223372036854775807) : ∃ A cap, v = .slice A L.length cap ∧ RdI w A L := by
  rcases h.2 with ⟨rfl, h0⟩ | ⟨g, cap, cur, rfl, hbg, hh, hn, hc, hs, ht⟩
  · have e : L = [] := List.eq_nil_of_length_eq_zero h0
    subst e
    exact ⟨none, 0, rfl, by simp, fun j hj => by simp at hj⟩
  · refine ⟨some ⟨g, 0, none⟩, cap, rfl, hl, fun j hj => ⟨g, 0, rfl, (h.lt g rfl).2, ?_⟩⟩
    rw [Nat.zero_add, World.ownsRow.cellAt h j (by omega)]
    unfold IV
    simp [hj]
set_option maxHeartbeats 400000 in
theorem sameI (A B : Option Addr) (c d : Nat) (l : List Int) (w : World) (hx : RdI w A l) (hy : RdI w B l) :
    Calls Tryd.prog 16 #[.slice A l.length c, .slice B l.length d] w fun e w' => e = .returned (.bool true) ∧ Ev w w' := by
  have hn := hx.1
  have hq : ((l.length : Int) != (l.length : Int)) = false := by simp
  go_enter Tryd.func16, Tryd.ntmps16
  go_wp2
  go_loopw [5] (fun i wr => ∃ k m : Nat, k ≤ l.length ∧ i = .int .i64 k ∧ wr = w.drewN m) (fun i _ => l.length - (intOf i).toNat)
  case atStart => exact ⟨0, 0, Nat.zero_le _, rfl, rfl⟩
  case round =>
    obtain ⟨k, m, hk, rfl, rfl⟩ := hrel
    by_cases hlt : k < l.length
    · obtain ⟨b, o, rfl, hb, c1⟩ := hx.2 k hlt
      obtain ⟨b', o', rfl, hb', c1'⟩ := hy.2 k hlt
      generalize l.getD k 0 = x at *
      have hlt' : (k : Int) < (l.length : Int) := by omega
      have hk0 : 0 ≤ (k : Int) := by omega
      clear hx hy
      go_wp2
      go_quiet (fail)
      go_wp2
      go_roundw
      case rel => exact ⟨k + 1, m + nq, by omega, by go_num, rfl⟩
      case measure => simp [intOf]; omega
    · obtain rfl : k = l.length := by omega
      go_wp2
      go_ret
      exact ⟨rfl, below_drewN (Below.refl _ _) _⟩
/-- the events that are possible, up to k -/
def alS (s r : Int) : Nat → List Int
  | 0 => []
  | k + 1 => alS s r k ++ if posB s ((k + 1 : Nat) : Int) = true ∧ fitB s r ((k + 1 : Nat) : Int) = true then [((k + 1 : Nat) : Int)] else []
theorem alS_len (s r : Int) (k : Nat) : (alS s r k).length ≤ k := by
  induction k with
  | zero => simp [alS]
  | succ k ih => rw [alS, List.length_append]; split <;> simp <;> omega
def alV (s r c : Int) : List Int := if oChk s r c = 0 then alS s r 6 else []
theorem B3 (w : World) (s r c : Int) (W : World) (e : Ev (w.alloc (.cells #[.int .i64 s, .int .i64 r, .int .i64 c] 23)) W) : (W.cell? ⟨w.heap.size, 0, none⟩ = some (.int .i64 s) ∧ W.cell? ⟨w.heap.size, 1, none⟩ = some (.int .i64 r) ∧ W.cell? ⟨w.heap.size, 2, none⟩ = some (.int .i64 c)) ∧ Ev w W :=
  ⟨by refine ⟨?_, ?_, ?_⟩ <;> (rw [e.cell (by simp)]; simp), ((Ev.refl w).alloc _).step e⟩
set_option maxHeartbeats 2000000 in
theorem Allowed_any (s r c : Int) (w : World) : Calls Tryd.prog 12 #[wt s r c] w fun e w' => ∃ v, e = .returned (.tuple #[v, .int .i64 (oChk s r c)]) ∧ OwnI w' w.heap.size v (alV s r c) ∧ Ev w w' := by
  have HB := Lib.hid (B3 w s r c)
  have HA := Lib.hid ((Ev.refl w).alloc (.cells #[.int .i64 s, .int .i64 r, .int .i64 c] 23))
  have H : Hid (∀ W, Calls Tryd.prog 14 #[wt s r c] W fun e w' => e = .returned (.int .i64 (oChk s r c)) ∧ Ev W w') := Lib.hid fun W => check_any s r c W
  by_cases h : oChk s r c = 0
  · have e : alV s r c = alS s r 6 := by unfold alV; rw [if_pos h]
    have hok := oChk_ok h
    rw [e, h]
    rw [h] at H
    obtain ⟨i0, hi0, hz0, hz1, hz2⟩ := info_parts info3
    have s1 : 1 ≤ s := hok.1
    have s6 : s ≤ 6 := hok.2.1
    clear e h hok
    go_enter Tryd.func12, Tryd.ntmps12
    go_wp2_with fail
    refine (H.out _).mono ?_
    rintro e w1 ⟨rfl, hev⟩
    have HE := Lib.hid hev
    clear hev
    go_wp2_with fail
    go_loopw [5, 6] (fun v i wr => ∃ k : Nat, k ≤ 6 ∧ i = .int .i64 ((k : Int) + 1) ∧ wr.ownsRow (w.heap.size + 1) 3 1 v (alS s r k).length (IV (alS s r k)) ∧ Ev (w.alloc (.cells #[.int .i64 s, .int .i64 r, .int .i64 c] 23)) wr) (fun _ i _ => 7 - (intOf i).toNat)
    case atStart => exact ⟨0, by omega, rfl, World.ownsRow_nil _ _ _ _, HE.out⟩
    case round =>
      obtain ⟨k, hk, rfl, hown, hev⟩ := hrel
      have HOWN := Lib.hid hown
      have HEV := Lib.hid hev
      obtain ⟨⟨x0, x1, x2⟩, -⟩ := HB.out _ hev
      clear hown hev
      by_cases hlt : k < 6
      · have HP := Lib.hid fun W => possible_any s ((k : Int) + 1) W s1 s6 (by omega) (by omega)
        have HF := Lib.hid fun W => fits_any s r c ((k : Int) + 1) W
        have HS : Hid (alS s r (k + 1) = alS s r k ++ if posB s ((k : Int) + 1) = true ∧ fitB s r ((k : Int) + 1) = true then [((k : Int) + 1)] else []) := Lib.hid (by rw [alS]; simp)
        have hsl := alS_len s r k
        have hk1 : (k : Int) + 1 ≤ 6 := by omega
        have hk0 : 0 ≤ (k : Int) := by omega
        cases hp : posB s ((k : Int) + 1) with
        | false =>
          rw [hp] at HP HS
          rw [if_neg (by simp), List.append_nil] at HS
          clear hp
          go_wp2_with fail
          refine (HP.out _).mono ?_
          clear x0 x1 x2
          rintro e w2 ⟨rfl, hev⟩
          have HO2 := Lib.hid (Ev.own hev HOWN.out)
          have HE2 := Lib.hid (HEV.out.step hev)
          clear hev
          go_wp2_with fail
          go_roundw
          case rel => exact ⟨k + 1, by omega, by go_num, by rw [HS.out]; exact HO2.out, HE2.out⟩
          case measure => simp [intOf]; omega
        | true =>
          rw [hp] at HP HS
          clear hp
          cases hf : fitB s r ((k : Int) + 1) with
          | false =>
            rw [hf] at HF HS
            rw [if_neg (by simp), List.append_nil] at HS
            clear hf
            go_wp2_with fail
            refine (HP.out _).mono ?_
            clear x0 x1 x2
            rintro e w2 ⟨rfl, hev⟩
            have HO2 := Lib.hid (Ev.own hev HOWN.out)
            have HE2 := Lib.hid (HEV.out.step hev)
            clear hev
            obtain ⟨⟨x0, x1, x2⟩, -⟩ := HB.out _ HE2.out
            go_wp2_with fail
            refine (HF.out _).mono ?_
            clear x0 x1 x2
            rintro e w3 ⟨rfl, hev⟩
            have HO3 := Lib.hid (Ev.own hev HO2.out)
            have HE3 := Lib.hid (HE2.out.step hev)
            clear hev
            go_wp2_with fail
            go_roundw
            case rel => exact ⟨k + 1, by omega, by go_num, by rw [HS.out]; exact HO3.out, HE3.out⟩
            case measure => simp [intOf]; omega
          | true =>
            rw [hf] at HF HS
            rw [if_pos ⟨rfl, rfl⟩] at HS
            clear hf
            go_wp2_with fail
            refine (HP.out _).mono ?_
            clear x0 x1 x2
            rintro e w2 ⟨rfl, hev⟩
            have HO2 := Lib.hid (Ev.own hev HOWN.out)
            have HE2 := Lib.hid (HEV.out.step hev)
            clear hev
            obtain ⟨⟨x0, x1, x2⟩, -⟩ := HB.out _ HE2.out
            go_wp2_with fail
            refine (HF.out _).mono ?_
            clear x0 x1 x2
            rintro e w3 ⟨rfl, hev⟩
            have HO3 := Lib.hid (Ev.own hev HO2.out)
            have HE3 := Lib.hid (HE2.out.step hev)
            have H3 : Hid ((alS s r k).length + 1 ≤ maxLen) := Lib.hid (by unfold maxLen; omega)
            have H4 : Hid (((alS s r k).length + 1) * 8 ≤ 140737488355328) := Lib.hid (by omega)
            have H5 : Hid (∀ o, w.heap.size + 1 ≤ (w3.alloc o).heap.size) := Lib.hid (by intro o; have := HE3.out.sz; simp at this ⊢; omega)
            clear hev hsl
            go_wp2_with (at_builtin; go_loud (refine wpList_append_own _ rfl (.tmp 25) (.tmp 27) 29 rfl (w.heap.size + 1) 3 i0 (.int .i64 0) 1 8 Tryd.underlying29 hi0 hz0 hz1 hz2 rfl Nat.one_pos u5 (alS s r k).length (IV (alS s r k)) rfl (HO3.out.alloc _) ⟨w3.heap.size, 0, none⟩ 1 1 [.int .i64 ((k : Int) + 1)] rfl rfl (one_cell _ _ _) (by simp [Value.oneCell']) H3.out H4.out (H5.out _) ?_); intro v1 w4 hown4 hg4 _)
            have HW4 := Lib.hid (Ev.grown (HE3.out.alloc _) hg4 (fun g hg => by have := (HO3.out.lt g hg).1; simp; omega))
            have HOW4 := Lib.hid hown4
            clear hg4 hown4
            go_wp2_with fail
            go_roundw
            case rel => exact ⟨k + 1, by omega, by go_num, by rw [HS.out]; unfold IV; rw [List.map_append, List.length_append]; exact HOW4.out, HW4.out⟩
            case measure => simp [intOf]; omega
      · obtain rfl : k = 6 := by omega
        go_wp2_with fail
        go_ret2
        exact ⟨_, rfl, own_weaken HOWN.out (by omega), (HB.out _ HEV.out).2⟩
  · have e : alV s r c = [] := by unfold alV; rw [if_neg h]
    have h' : (oChk s r c != 0) = true := by simpa using h
    rw [e]
    clear e h
    generalize oChk s r c = er at *
    go_enter Tryd.func12, Tryd.ntmps12
    go_wp2_with fail
    refine (H.out _).mono ?_
    rintro e w1 ⟨rfl, hev⟩
    have hf := HA.out.step hev
    clear hev
    go_wp2_with fail
    go_ret2
    exact ⟨_, rfl, World.ownsRow_nil _ _ _ _, hf⟩
end Go.Proofs.YtkkmnpjkladhfaaDoor
