import Derived.Test.YtkneonfhikcdkaaDoorOJ
import Derived.RangeFuncNested
import Derived.RangeFuncBound
import Derived.RangeFuncCalls
import Derived.RangeFuncLeaves
import Derived.RangeFuncBox
import Derived.Shelf.Abstract
import Derived.OwnWalkIn
import Derived.TacticsInMore
import Derived.LoopNIn
import Derived.LoopIn
import Derived.Maps.AppendAt
import Derived.Laws.OwnMore
import Derived.WalkSmall
namespace Go.Proofs.YtkneonfhikcdkaaDoor
open Go.RowKit Go.Shelf
attribute [local go_sem] Oper.semAt_some
theorem own_weaken {w : World} {base base' : Nat} {e : TypeId} {size : Nat} {v : Value} {n : Nat} {xs : List Value} (h : w.ownsRow base e size v n xs) (hb : base' ≤ base) : w.ownsRow base' e size v n xs := by
  refine ⟨h.1, ?_⟩
  rcases h.2 with h0 | ⟨g, cap, cur, h1, h2, h3⟩
  · exact .inl h0
  · exact .inr ⟨g, cap, cur, h1, by omega, h3⟩
theorem Ev.grownBy {A B : World} (h : Ev A B) : A.grownBy B none := ⟨Below.os h, Below.tape h, Below.output h, Below.size h, fun k hk _ => Below.block h k hk⟩
def upto {α : Type} (f : Nat → α) (k : Nat) : List α := (List.range k).map f
theorem upto_succ {α : Type} (f : Nat → α) (k : Nat) : upto f (k + 1) = upto f k ++ [f k] := by simp [upto, List.range_succ]
theorem upto_length {α : Type} (f : Nat → α) (k : Nat) : (upto f k).length = k := by simp [upto]
/-- what lay below D, and every block of blocks, lies as it lay, but for the blocks of X -/
def KpT (D : Nat) (X : Nat → Prop) (A B : World) : Prop := A.heap.size ≤ B.heap.size ∧ ∀ k, k < A.heap.size → ¬ X k → (k < D ∨ ∃ c, A.heap[k]? = some (.cells c 28)) → B.heap[k]? = A.heap[k]?
theorem KpT.refl (D : Nat) (X : Nat → Prop) (A : World) : KpT D X A A := ⟨Nat.le_refl _, fun _ _ _ _ => rfl⟩
theorem KpT.trans {D : Nat} {X : Nat → Prop} {A B C : World} (h : KpT D X A B) (k : KpT D X B C) : KpT D X A C :=
  ⟨Nat.le_trans h.1 k.1, fun i h1 h2 h3 => by
    have e := h.2 i h1 h2 h3
    exact (k.2 i (by have := h.1; omega) h2 (by rw [e]; exact h3)).trans e⟩
theorem KpT.cell {D : Nat} {X : Nat → Prop} {A B : World} (h : KpT D X A B) {b o : Nat} (hs : b < A.heap.size) (hb : b < D ∨ ∃ c, A.heap[b]? = some (.cells c 28)) (hx : ¬ X b) : B.cell? ⟨b, o, none⟩ = A.cell? ⟨b, o, none⟩ := World.cell?_of_block (a := ⟨b, o, none⟩) (h.2 b hs hx hb)
theorem KpT.putObj {D : Nat} {X : Nat → Prop} {w : World} (_hD : D ≤ w.heap.size) (W : World) (l : Nat) (o o' : Obj) (hl : w.heap.size ≤ l) (h : W.heap[l]? = some o) (ho : o.isCells = false) (_ : o.isWalk = false) : KpT D X W (W.putObj l o') := by
  have hg := grownBy_putObj' W l o'
  refine ⟨hg.size, fun k h1 _ h3 => hg.block k h1 (fun e => ?_)⟩
  cases e
  rcases h3 with h3 | ⟨c, h3⟩
  · omega
  · rw [h] at h3; cases h3; cases ho
theorem KpT.ev {D : Nat} {X : Nat → Prop} {A B : World} (h : Ev A B) : KpT D X A B := ⟨h.sz, fun k h1 _ _ => Below.block h k h1⟩
theorem appT {w W w1 : World} {D B : Nat} {t e : TypeId} {size : Nat} {v v' : Value} {k m : Nat} {xs ys : List Value} {tmp : Obj} (he : e ≠ 28)
    (hv : Boxed W B t v) (hte : t ≠ e) (hrow : W.ownsRow D e size v k xs) (_hD : D ≤ W.heap.size) (hwB : w.heap.size ≤ B) (hwD : w.heap.size ≤ D) (hB : Below w.heap.size w W)
    (hown' : w1.ownsRow D e size v' m ys) (hgrow : (W.alloc tmp).grownBy w1 v.ownBlock) :
    Boxed w1 B t v ∧ Boxed (w1.setCell ⟨B, 0, none⟩ v') B t v' ∧ (w1.setCell ⟨B, 0, none⟩ v').ownsRow D e size v' m ys ∧ KeepsOthers W (w1.setCell ⟨B, 0, none⟩ v') ∧ KpT D (fun k => k = B) W (w1.setCell ⟨B, 0, none⟩ v') ∧ Below w.heap.size w (w1.setCell ⟨B, 0, none⟩ v') := by
  have hv1 : Boxed w1 B t v := (hv.alloc tmp).kept hgrow (hv.not_row hte hrow)
  have hge : ∀ j, v.ownBlock = some j → D ≤ j ∧ ∃ c, W.heap[j]? = some (.cells c e) := by
    intro j ej
    rcases hrow.2 with ⟨rfl, _⟩ | ⟨g, cap, cur, rfl, hb, hc, _⟩
    · simp [Value.ownBlock] at ej
    · obtain rfl : g = j := by simpa [Value.ownBlock] using ej
      exact ⟨hb, _, hc⟩
  refine ⟨hv1, hv1.set v', hown'.kept (grownBy_setCell' w1 B v') (.inr (hv1.not_row hte hown').symm), ?_, ?_, ?_⟩
  · refine ((KeepsOthers.alloc W tmp).trans (KeepsOthers.of_grownBy hgrow fun j o ej hj => ?_)).trans (KeepsOthers.setCell _ _ _)
    rcases (hrow.alloc tmp).2 with ⟨rfl, _⟩ | ⟨g, cap, cur, rfl, _, hgb, _⟩
    · simp [Value.ownBlock] at ej
    · obtain rfl : g = j := by simpa [Value.ownBlock] using ej
      rw [hgb] at hj; cases hj; rfl
  · have hs := hgrow.size
    have hs2 := (grownBy_setCell' w1 B v').size
    simp at hs
    refine ⟨by omega, fun j h1 h2 h3 => ?_⟩
    rw [(grownBy_setCell' w1 B v').block j (by omega) (fun e => h2 (by cases e; rfl)), hgrow.block j (by simp; omega) (fun e' => ?_)]
    · exact Below.heap_alloc W tmp j (by omega)
    · obtain ⟨q1, c, q2⟩ := hge j e'.symm
      rcases h3 with h3 | ⟨c', h3⟩
      · omega
      · rw [q2] at h3
        injection h3 with h3
        injection h3 with h4 h5
        exact he h5
  · refine ((hB.alloc hB.size tmp).grown hgrow (by have := hB.size; simp; omega) fun j ej => ?_).setCell (p := ⟨B, 0, none⟩) hwB v'
    have := (hge j ej).1
    omega
/-- the frames of a block and of blocks -/
def frN (x : Int) (k : Nat) : Fin 256 := ⟨(x.toNat + k) % 256, Nat.mod_lt _ (by decide)⟩
theorem frN_val {x : Int} {k : Nat} (h0 : 0 ≤ x) (h : x + k < 256) : ((frN x k).1 : Int) = x + k := by unfold frN; simp only []; omega
def frB (p : Int × Int) : List (Fin 256) := upto (frN p.1) (sz p.2).toNat
def frL (l : List (Int × Int)) : List (Fin 256) := l.flatMap frB
theorem frL_take (l : List (Int × Int)) (j : Nat) (hj : j < l.length) : frL (l.take (j + 1)) = frL (l.take j) ++ frB (l.getD j (0, 0)) := by
  have h : l.take (j + 1) = l.take j ++ [l.getD j (0, 0)] := by rw [List.take_add_one]; simp [List.getD, hj]
  rw [h]
  simp [frL]
theorem frL_len (l : List (Int × Int)) (j : Nat) (hj : j < l.length) : (frL (l.take j)).length + (frB (l.getD j (0, 0))).length ≤ (frL l).length := by
  have e : frL l = frL (l.take (j + 1)) ++ frL (l.drop (j + 1)) := by
    have e2 := List.flatMap_append (f := frB) (xs := l.take (j + 1)) (ys := l.drop (j + 1))
    rw [List.take_append_drop] at e2
    exact e2
  rw [e, frL_take l j hj]
  simp
theorem frames_any (A : Option Addr) (len cap : Nat) (w : World) : Calls Tryd.prog 46 #[.slice A len cap] w fun e w' => e = .returned (.func (.func 51) #[] #[.pointer (some ⟨w.heap.size, 0, none⟩)]) ∧ w' = w.alloc (.cells #[.slice A len cap] 33) := by
  go_enter Tryd.func46, Tryd.ntmps46
  go_wp2
  go_ret
  exact ⟨rfl, rfl⟩
set_option maxRecDepth 100000 in
set_option maxHeartbeats 2000000 in
theorem it_stops (n D : Nat) (X : Nat → Prop) (hn : 1 ≤ n) (l : List (Int × Int)) (Bh : Nat) (A : Option Addr) (cap : Nat) (w : World) (hlen : l.length ≤ 4000000000)
    (hok : ∀ j, j < l.length → blkE (l.getD j (0, 0)).1 (l.getD j (0, 0)).2 = 0)
    (hD : D ≤ w.heap.size) (hX : ∀ k, X k → k < D) (hBh : Bh < D) (hXh : ¬ X Bh)
    (hA : ∀ j, j < l.length → ∃ bl o, A = some ⟨bl, o, none⟩ ∧ bl < D ∧ ¬ X bl ∧ w.cell? ⟨bl, o + j * 2, none⟩ = some (.int .i64 (l.getD j (0, 0)).1) ∧ w.cell? ⟨bl, o + j * 2 + 1, none⟩ = some (.int .i64 (l.getD j (0, 0)).2))
    (hh : w.cell? ⟨Bh, 0, none⟩ = some (.slice A l.length cap)) :
    SeqStopsK Fence.wide n Tryd.prog 51 #[.pointer (some ⟨Bh, 0, none⟩)] (fun x : Fin 256 => #[Value.int .i64 (x.1 : Int)]) (KpT D X)
      (fun ys => ys = frL l) (fun _ => True) (frL l).length w := fun lp J Jx W hW hJ hJx hY h0 => by
  have hKW : KpT D X w W := KpT.ev hW
  have hDW : D ≤ W.heap.size := Nat.le_trans hD hW.size
  have hhW := (hKW.cell (o := 0) (by omega) (.inl hBh) hXh).trans hh
  have HA : Hid (∀ W', KpT D X W W' → ∀ j, j < l.length → ∃ bl o, A = some ⟨bl, o, none⟩ ∧ W'.cell? ⟨bl, o + j * 2, none⟩ = some (.int .i64 (l.getD j (0, 0)).1) ∧ W'.cell? ⟨bl, o + j * 2 + 1, none⟩ = some (.int .i64 (l.getD j (0, 0)).2)) := Lib.hid fun W' k j hj => by
    obtain ⟨bl, o, h1, h2, h3, h4, h5⟩ := hA j hj
    exact ⟨bl, o, h1, ((hKW.trans k).cell (by omega) (.inl h2) h3).trans h4, ((hKW.trans k).cell (by omega) (.inl h2) h3).trans h5⟩
  have HDW := Lib.hid hDW
  have HX := Lib.hid hX
  have HOK := Lib.hid hok
  have HJ := Lib.hid hJ
  have HY := Lib.hid hY
  clear hA hJ hJx hY hKW hh hok hX hDW
  refine callsIn_of_wp Tryd.func51 rfl trivial ?_ rfl
  simp only [Tryd.ntmps51, List.size_toArray, List.length_cons, List.length_nil, Nat.reduceAdd, Nat.reduceSub, Array.replicate_succ, Array.replicate_zero, List.push_toArray, List.append_toArray, List.nil_append, List.cons_append]
  gi_wp2
  gi_loopw [8] (fun i wr => ∃ j : Nat, j ≤ l.length ∧ i = .int .i64 j ∧ J (frL (l.take j)) wr ∧ KpT D X W wr) (fun i _ => l.length - (intOf i).toNat)
  case atStart => exact ⟨0, Nat.zero_le _, rfl, h0, KpT.refl _ _ _⟩
  case round =>
    obtain ⟨j, hj, rfl, hJs, hk⟩ := hrel
    by_cases hlt : j < l.length
    · obtain ⟨bl, o, rfl, c1, c2⟩ := HA.out _ hk j hlt
      have hxo := HOK.out j hlt
      have HTK := Lib.hid (frL_take l j hlt)
      have HTL := Lib.hid (frL_len l j hlt)
      have HJS := Lib.hid hJs
      have HK := Lib.hid hk
      have hlt' : (j : Int) < (l.length : Int) := by omega
      have hj0 : 0 ≤ (j : Int) := by omega
      clear hJs hk
      generalize l.getD j (0, 0) = xo at *
      obtain ⟨x, k⟩ := xo
      simp only at c1 c2 hxo
      obtain ⟨k0, k6, x0, -, xs⟩ := blkE_ok hxo
      obtain ⟨s1, s2⟩ := sz_bd k
      have HSZ := Lib.hid fun W => size_any k W k0 k6
      obtain ⟨z, hz⟩ : ∃ z : Nat, sz k = (z : Int) := ⟨(sz k).toNat, by omega⟩
      have hfb : frB (x, k) = upto (frN x) z := by unfold frB; simp only [hz]; rfl
      rw [hfb] at HTK HTL
      rw [hz] at HSZ xs s1 s2
      clear hxo hfb hz k0 k6
      gi_wp2_with fail
      refine ⟨trivial, (callsIn_wide.2 (HSZ.out _)).mono ?_⟩
      rintro e w2 ⟨rfl, rfl⟩
      have hev := (Ev.refl wr).alloc (.cells #[.int .i64 x, .int .i64 k] 28)
      have HB1 : Hid ((wr.alloc (.cells #[.int .i64 x, .int .i64 k] 28)).heap[wr.heap.size]? = some (.cells #[.int .i64 x, .int .i64 k] 28)) := Lib.hid (World.alloc_heap_new _ _)
      have HBc : Hid ((wr.alloc (.cells #[.int .i64 x, .int .i64 k] 28)).cell? ⟨wr.heap.size, 0, none⟩ = some (.int .i64 x)) := Lib.hid (by simp)
      have HBz : Hid (wr.heap.size < (wr.alloc (.cells #[.int .i64 x, .int .i64 k] 28)).heap.size ∧ ¬ X wr.heap.size) := Lib.hid ⟨by simp, fun h => by have := HX.out _ h; have := HDW.out; have := HK.out.1; omega⟩
      have hJ2 := HJ.out _ wr _ none HJS.out hev.grownBy (fun r e => by cases e)
      have HK2 := Lib.hid (HK.out.trans (KpT.ev (D := D) (X := X) hev))
      have HJ2 := Lib.hid hJ2
      clear hJ2 hev c1 c2
      gi_wp2_with fail
      generalize wr.alloc (.cells #[.int .i64 x, .int .i64 k] 28) = W1 at *
      gi_loopw [15] (fun i wr' => ∃ m : Nat, m ≤ z ∧ i = .int .i64 m ∧ J (frL (l.take j) ++ upto (frN x) m) wr' ∧ KpT D X W1 wr') (fun i _ => z - (intOf i).toNat)
      case atStart => exact ⟨0, Nat.zero_le _, rfl, by simpa [upto] using HJ2.out, KpT.refl _ _ _⟩
      case round =>
        obtain ⟨m, hm, rfl, hJs, hk3⟩ := hrel
        by_cases hmt : m < z
        · have hmt' : (m : Int) < (z : Int) := by omega
          have hc := (hk3.cell (o := 0) HBz.out.1 (.inr ⟨_, HB1.out⟩) HBz.out.2).trans HBc.out
          have hx := frN_val (x := x) (k := m) x0 (by omega)
          have HK3 := Lib.hid hk3
          obtain ⟨fn, tmps, assign, body, hy, hR⟩ := HY.out _ (frN x m) _ hJs (by have := HTL.out; simp [upto_length] at this ⊢; omega)
          have HHR := Lib.hid hR
          simp only [hx] at hy
          clear hk3 hJs hR
          gi_wp2
          refine HHR.out.mono ?_
          rintro e W3 (⟨rfl, hJ3, hk4⟩ | ⟨rfl, hJx3⟩)
          · gi_wp2
            go_roundw
            case rel => exact ⟨m + 1, by omega, by go_num, by rw [upto_succ, ← List.append_assoc]; exact hJ3, HK3.out.trans hk4⟩
            case measure => simp [intOf]; omega
          · gi_wp2
            refine bodyPost_ret (results_none rfl _ _ _) rfl ?_
            exact ⟨⟨_, rfl⟩, .inr ⟨_, trivial, hJx3⟩⟩
        · obtain rfl : m = z := by omega
          have HJF := Lib.hid hJs
          have HKF := Lib.hid hk3
          clear hJs hk3
          gi_wp2
          go_roundw
          case rel => exact ⟨j + 1, by omega, by go_num, by rw [HTK.out]; exact HJF.out, HK2.out.trans HKF.out⟩
          case measure => simp [intOf]; omega
    · obtain rfl : j = l.length := by omega
      rw [List.take_length] at hJs
      gi_wp2
      go_end0
      first
        | exact ⟨⟨_, rfl⟩, .inl ⟨_, rfl, hJs⟩⟩
        | exact ⟨⟨_, rfl⟩, .inl hJs⟩
end Go.Proofs.YtkneonfhikcdkaaDoor
