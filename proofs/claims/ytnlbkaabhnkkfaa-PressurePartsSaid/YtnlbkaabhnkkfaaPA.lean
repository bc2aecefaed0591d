import Derived.Test.YtnlbkaabhnkkfaaP7
import Derived.RangeFuncNested
import Derived.RangeFuncBound
import Derived.RangeFuncCalls
import Derived.RangeFuncLeaves
import Derived.RangeFuncBox
import Derived.Shelf.Abstract
import Derived.OwnWalkIn
import Derived.TacticsInMore
import Derived.LoopNIn
import Derived.LoopIn
import Derived.Maps.AppendAt
namespace Go.Proofs.Ytnlbkaabhnkkfaa
open Go.RowKit Go.Shelf
attribute [local go_sem] Oper.semAt_some
/-- whatever lay below D lies as it lay, but for the blocks of X -/
def KpX (D : Nat) (X : Nat → Prop) (A B : World) : Prop := A.heap.size ≤ B.heap.size ∧ ∀ k, k < D → ¬ X k → B.heap[k]? = A.heap[k]?
theorem KpX.refl (D : Nat) (X : Nat → Prop) (A : World) : KpX D X A A := ⟨Nat.le_refl _, fun _ _ _ => rfl⟩
theorem KpX.trans {D : Nat} {X : Nat → Prop} {A B C : World} (h : KpX D X A B) (k : KpX D X B C) : KpX D X A C := ⟨Nat.le_trans h.1 k.1, fun i h1 h2 => (k.2 i h1 h2).trans (h.2 i h1 h2)⟩
theorem KpX.cell {D : Nat} {X : Nat → Prop} {A B : World} (h : KpX D X A B) {b o : Nat} (hb : b < D) (hx : ¬ X b) : B.cell? ⟨b, o, none⟩ = A.cell? ⟨b, o, none⟩ := World.cell?_of_block (a := ⟨b, o, none⟩) (h.2 b hb hx)
theorem KpX.putObj {D : Nat} {X : Nat → Prop} {w : World} (hD : D ≤ w.heap.size) (W : World) (l : Nat) (o o' : Obj) (hl : w.heap.size ≤ l) (h : W.heap[l]? = some o) (_ : o.isCells = false) (_ : o.isWalk = false) : KpX D X W (W.putObj l o') := by
  have hg := grownBy_putObj' W l o'
  exact ⟨hg.size, fun k h1 _ => hg.block k (by have := (Array.getElem?_eq_some_iff.1 h).1; omega) (fun e => by cases e; omega)⟩
theorem KpX.ev {D : Nat} {X : Nat → Prop} {A B : World} (h : Ev A B) (hD : D ≤ A.heap.size) : KpX D X A B := ⟨h.sz, fun k h1 _ => Below.block h k (by omega)⟩
theorem Ev.grownBy {A B : World} (h : Ev A B) : A.grownBy B none := ⟨Below.os h, Below.tape h, Below.output h, Below.size h, fun k hk _ => Below.block h k hk⟩
def upto {α : Type} (f : Nat → α) (k : Nat) : List α := (List.range k).map f
theorem upto_succ {α : Type} (f : Nat → α) (k : Nat) : upto f (k + 1) = upto f k ++ [f k] := by simp [upto, List.range_succ]
theorem upto_length {α : Type} (f : Nat → α) (k : Nat) : (upto f k).length = k := by simp [upto]
/-- awake behind the first j numbers -/
def gS (b c : Int) (l : List Int) : Nat → Bool
  | 0 => false
  | j + 1 => nxV b c (gS b c l j) (l.getD j 0)
theorem states_any (a b c : Int) (A : Option Addr) (len cap : Nat) (w : World) : Calls Try.prog 41 #[mk a b c, .slice A len cap] w fun e w' => e = .returned (.func (.func 46) #[] #[.pointer (some ⟨w.heap.size + 1, 0, none⟩), .pointer (some ⟨w.heap.size, 0, none⟩)]) ∧ w' = (w.alloc (mb a b c)).alloc (.cells #[.slice A len cap] 33) := by
  go_enter Try.func41, Try.ntmps41
  go_wp2
  go_ret
  exact ⟨rfl, rfl⟩
set_option maxRecDepth 100000 in
set_option maxHeartbeats 2000000 in
theorem it_stops (n D : Nat) (X : Nat → Prop) (hn : 1 ≤ n) (a b c : Int) (l : List Int) (Bh Bm : Nat) (A : Option Addr) (cap : Nat) (w : World) (hab : a < b) (hbc : b < c) (hlen : l.length ≤ 9223372036854775807)
    (hD : D ≤ w.heap.size) (hBh : Bh < D) (hXh : ¬ X Bh) (hBm : Bm < D) (hXm : ¬ X Bm)
    (hA : ∀ j, j < l.length → ∃ bl o, A = some ⟨bl, o, none⟩ ∧ bl < D ∧ ¬ X bl ∧ w.cell? ⟨bl, o + j, none⟩ = some (.int .i64 (l.getD j 0)))
    (hh : w.cell? ⟨Bh, 0, none⟩ = some (.slice A l.length cap)) (hm : w.cell? ⟨Bm, 0, none⟩ = some (.int .i64 a) ∧ w.cell? ⟨Bm, 1, none⟩ = some (.int .i64 b) ∧ w.cell? ⟨Bm, 2, none⟩ = some (.int .i64 c)) :
    SeqStopsK Fence.wide n Try.prog 46 #[.pointer (some ⟨Bh, 0, none⟩), .pointer (some ⟨Bm, 0, none⟩)] (fun x : Nat × Bool => #[Value.int .i64 (x.1 : Int), Value.bool x.2]) (KpX D X)
      (fun ys => ys = upto (fun j => (j, gS b c l (j + 1))) l.length) (fun _ => True) l.length w := fun lp J Jx W hW hJ hJx hY h0 => by
  have hKW : KpX D X w W := KpX.ev hW hD
  have hhW := (hKW.cell (o := 0) hBh hXh).trans hh
  have HM : Hid (∀ W', KpX D X W W' → W'.cell? ⟨Bm, 0, none⟩ = some (.int .i64 a) ∧ W'.cell? ⟨Bm, 1, none⟩ = some (.int .i64 b) ∧ W'.cell? ⟨Bm, 2, none⟩ = some (.int .i64 c)) := Lib.hid fun W' k => by
    have k' := hKW.trans k
    exact ⟨(k'.cell hBm hXm).trans hm.1, (k'.cell hBm hXm).trans hm.2.1, (k'.cell hBm hXm).trans hm.2.2⟩
  have HA : Hid (∀ W', KpX D X W W' → ∀ j, j < l.length → ∃ bl o, A = some ⟨bl, o, none⟩ ∧ W'.cell? ⟨bl, o + j, none⟩ = some (.int .i64 (l.getD j 0))) := Lib.hid fun W' k j hj => by
    obtain ⟨bl, o, h1, h2, h3, h4⟩ := hA j hj
    exact ⟨bl, o, h1, ((hKW.trans k).cell h2 h3).trans h4⟩
  have HC : Hid (∀ aw x W', Calls Try.prog 39 #[mk a b c, .bool aw, .int .i64 x] W' fun e w' => e = .returned (.bool (nxV b c aw x)) ∧ Ev W' w') := Lib.hid fun aw x W' => next1_any a b c x aw W' hab hbc
  have HDW : Hid (D ≤ W.heap.size) := Lib.hid (Nat.le_trans hD hW.size)
  have HJ := Lib.hid hJ
  have HY := Lib.hid hY
  clear hm hA hJ hJx hY hKW hh
  refine callsIn_of_wp Try.func46 rfl trivial ?_ rfl
  simp only [Try.ntmps46, List.size_toArray, List.length_cons, List.length_nil, Nat.reduceAdd, Nat.reduceSub, Array.replicate_succ, Array.replicate_zero, List.push_toArray, List.append_toArray, List.nil_append, List.cons_append]
  gi_wp2
  gi_loopw [4, 9] (fun aw i wr => ∃ j : Nat, j ≤ l.length ∧ i = .int .i64 j ∧ aw = .bool (gS b c l j) ∧ J (upto (fun j => (j, gS b c l (j + 1))) j) wr ∧ KpX D X W wr) (fun _ i _ => l.length - (intOf i).toNat)
  case atStart => exact ⟨0, Nat.zero_le _, rfl, rfl, h0, KpX.refl _ _ _⟩
  case round =>
    obtain ⟨j, hj, rfl, rfl, hJs, hk⟩ := hrel
    by_cases hlt : j < l.length
    · obtain ⟨m0, m1, m2⟩ := HM.out _ hk
      obtain ⟨bl, o, rfl, c1⟩ := HA.out _ hk j hlt
      have hgs : gS b c l (j + 1) = nxV b c (gS b c l j) (l.getD j 0) := rfl
      have HGS := Lib.hid hgs
      have HJS := Lib.hid hJs
      have HK := Lib.hid hk
      have hlt' : (j : Int) < (l.length : Int) := by omega
      have hj0 : 0 ≤ (j : Int) := by omega
      clear hgs hJs hk
      generalize l.getD j 0 = x at *
      have hc := HC.out (gS b c l j) x
      rw [← HGS.out] at hc
      have HCC := Lib.hid hc
      clear hc
      obtain ⟨g1, hg1⟩ : ∃ g1, gS b c l j = g1 := ⟨_, rfl⟩
      rw [hg1] at HCC HGS ⊢
      clear hg1
      gi_wp2_with fail
      refine ⟨trivial, (callsIn_wide.2 (HCC.out wr)).mono ?_⟩
      rintro e w2 ⟨rfl, hev⟩
      have hJ2 := HJ.out _ wr w2 none HJS.out hev.grownBy (fun r e => by cases e)
      have hk2 := HK.out.trans (KpX.ev hev (Nat.le_trans HDW.out HK.out.1))
      obtain ⟨fn, tmps, assign, body, hy, hR⟩ := HY.out _ (j, gS b c l (j + 1)) w2 hJ2 (by rw [upto_length]; exact hlt)
      dsimp only at hy
      have HK2 := Lib.hid hk2
      clear hev hJ2 hk2 m0 m1 m2 c1
      gi_wp2
      refine hR.mono ?_
      rintro e W3 (⟨rfl, hJ3, hk3⟩ | ⟨rfl, hJx3⟩)
      · gi_wp2
        go_roundw
        case rel => exact ⟨j + 1, by omega, by go_num, rfl, by rw [upto_succ]; exact hJ3, HK2.out.trans hk3⟩
        case measure => simp [intOf]; omega
      · gi_wp2
        refine bodyPost_ret (results_none rfl _ _ _) rfl ?_
        exact ⟨⟨_, rfl⟩, .inr ⟨_, trivial, hJx3⟩⟩
    · obtain rfl : j = l.length := by omega
      gi_wp2
      go_end0
      exact ⟨⟨_, rfl⟩, .inl ⟨_, rfl, hJs⟩⟩
end Go.Proofs.Ytnlbkaabhnkkfaa
