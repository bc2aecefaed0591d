import Derived.Test.YtpgghbabhgfchaaA2
import Derived.RangeFuncNested
import Derived.RangeFuncBound
import Derived.RangeFuncCalls
import Derived.RangeFuncLeaves
import Derived.RangeFuncBox
import Derived.Shelf.Abstract
import Derived.OwnWalkIn
import Derived.TacticsInMore
import Derived.LoopNIn
import Derived.LoopIn
import Derived.Maps.AppendAt
import Derived.Laws.OwnMore
import Derived.WalkSmall
namespace Go.Proofs.Ytpgghbabhgfchaa
open Go.RowKit Go.Shelf
attribute [local go_sem] Oper.semAt_some
theorem own_weaken {w : World} {base base' : Nat} {e : TypeId} {size : Nat} {v : Value} {n : Nat} {xs : List Value} (h : w.ownsRow base e size v n xs) (hb : base' ≤ base) : w.ownsRow base' e size v n xs := by
  refine ⟨h.1, ?_⟩
  rcases h.2 with h0 | ⟨g, cap, cur, h1, h2, h3⟩
  · exact .inl h0
  · exact .inr ⟨g, cap, cur, h1, by omega, h3⟩
theorem Ev.cell {w W : World} (e : Ev w W) {p : Addr} (h : p.block < w.heap.size) : W.cell? p = w.cell? p := Below.cell e h
/-- whatever lay below D lies as it lay, but for the blocks of X -/
def KpX (D : Nat) (X : Nat → Prop) (A B : World) : Prop := A.heap.size ≤ B.heap.size ∧ ∀ k, k < D → ¬ X k → B.heap[k]? = A.heap[k]?
theorem KpX.refl (D : Nat) (X : Nat → Prop) (A : World) : KpX D X A A := ⟨Nat.le_refl _, fun _ _ _ => rfl⟩
theorem KpX.trans {D : Nat} {X : Nat → Prop} {A B C : World} (h : KpX D X A B) (k : KpX D X B C) : KpX D X A C := ⟨Nat.le_trans h.1 k.1, fun i h1 h2 => (k.2 i h1 h2).trans (h.2 i h1 h2)⟩
theorem KpX.cell {D : Nat} {X : Nat → Prop} {A B : World} (h : KpX D X A B) {b o : Nat} (hb : b < D) (hx : ¬ X b) : B.cell? ⟨b, o, none⟩ = A.cell? ⟨b, o, none⟩ := World.cell?_of_block (a := ⟨b, o, none⟩) (h.2 b hb hx)
theorem KpX.putObj {D : Nat} {X : Nat → Prop} {w : World} (hD : D ≤ w.heap.size) (W : World) (l : Nat) (o o' : Obj) (hl : w.heap.size ≤ l) (h : W.heap[l]? = some o) (_ : o.isCells = false) (_ : o.isWalk = false) : KpX D X W (W.putObj l o') := by
  have hg := grownBy_putObj' W l o'
  exact ⟨hg.size, fun k h1 _ => hg.block k (by have := (Array.getElem?_eq_some_iff.1 h).1; omega) (fun e => by cases e; omega)⟩
theorem KpX.ev {D : Nat} {X : Nat → Prop} {A B : World} (h : Ev A B) (hD : D ≤ A.heap.size) : KpX D X A B := ⟨h.sz, fun k h1 _ => Below.block h k (by omega)⟩
theorem Ev.grownBy {A B : World} (h : Ev A B) : A.grownBy B none := ⟨Below.os h, Below.tape h, Below.output h, Below.size h, fun k hk _ => Below.block h k hk⟩
def upto {α : Type} (f : Nat → α) (k : Nat) : List α := (List.range k).map f
theorem upto_succ {α : Type} (f : Nat → α) (k : Nat) : upto f (k + 1) = upto f k ++ [f k] := by simp [upto, List.range_succ]
theorem upto_length {α : Type} (f : Nat → α) (k : Nat) : (upto f k).length = k := by simp [upto]
/-- 'out = append(out, ..)' where the box lies below D and the rows at or beyond it -/
theorem appX {w W w1 : World} {D B : Nat} {t e : TypeId} {size : Nat} {v v' : Value} {k m : Nat} {xs ys : List Value} {tmp : Obj}
    (hv : Boxed W B t v) (hte : t ≠ e) (hrow : W.ownsRow D e size v k xs) (hD : D ≤ W.heap.size) (hwB : w.heap.size ≤ B) (hwD : w.heap.size ≤ D) (hB : Below w.heap.size w W)
    (hown' : w1.ownsRow D e size v' m ys) (hgrow : (W.alloc tmp).grownBy w1 v.ownBlock) :
    Boxed w1 B t v ∧ Boxed (w1.setCell ⟨B, 0, none⟩ v') B t v' ∧ (w1.setCell ⟨B, 0, none⟩ v').ownsRow D e size v' m ys ∧ KeepsOthers W (w1.setCell ⟨B, 0, none⟩ v') ∧ KpX D (fun k => k = B) W (w1.setCell ⟨B, 0, none⟩ v') ∧ Below w.heap.size w (w1.setCell ⟨B, 0, none⟩ v') := by
  have hv1 : Boxed w1 B t v := (hv.alloc tmp).kept hgrow (hv.not_row hte hrow)
  have hge : ∀ j, v.ownBlock = some j → D ≤ j := by
    intro j ej
    rcases hrow.2 with ⟨rfl, _⟩ | ⟨g, cap, cur, rfl, hb, _, _⟩
    · simp [Value.ownBlock] at ej
    · obtain rfl : g = j := by simpa [Value.ownBlock] using ej
      exact hb
  refine ⟨hv1, hv1.set v', hown'.kept (grownBy_setCell' w1 B v') (.inr (hv1.not_row hte hown').symm), ?_, ?_, ?_⟩
  · refine ((KeepsOthers.alloc W tmp).trans (KeepsOthers.of_grownBy hgrow fun j o ej hj => ?_)).trans (KeepsOthers.setCell _ _ _)
    rcases (hrow.alloc tmp).2 with ⟨rfl, _⟩ | ⟨g, cap, cur, rfl, _, hgb, _⟩
    · simp [Value.ownBlock] at ej
    · obtain rfl : g = j := by simpa [Value.ownBlock] using ej
      rw [hgb] at hj; cases hj; rfl
  · have hs := hgrow.size
    have hs2 := (grownBy_setCell' w1 B v').size
    simp at hs
    refine ⟨by omega, fun j h1 h2 => ?_⟩
    rw [(grownBy_setCell' w1 B v').block j (by omega) (fun e => h2 (by cases e; rfl)), hgrow.block j (by simp; omega) (fun e => by have := hge j e.symm; omega)]
    exact Below.heap_alloc W tmp j (by omega)
  · refine ((hB.alloc hB.size tmp).grown hgrow (by have := hB.size; simp; omega) fun j ej => ?_).setCell (p := ⟨B, 0, none⟩) hwB v'
    have := hge j ej
    omega
/-- spans as cells -/
def flatS : List (Int × Int) → List Value
  | [] => []
  | (f, t) :: r => .int .i64 f :: .int .i64 t :: flatS r
theorem flatS_len (s : List (Int × Int)) : (flatS s).length = s.length * 2 := by
  induction s with
  | nil => rfl
  | cons a s ih => obtain ⟨f, t⟩ := a; simp [flatS, ih]; omega
theorem flatS_app (s r : List (Int × Int)) : flatS (s ++ r) = flatS s ++ flatS r := by
  induction s with
  | nil => rfl
  | cons a s ih => obtain ⟨f, t⟩ := a; simp [flatS, ih]
theorem flatS_set (s : List (Int × Int)) (f t u : Int) : (flatS (s ++ [(f, t)])).set (s.length * 2 + 1) (.int .i64 u) = flatS (s ++ [(f, u)]) := by
  rw [flatS_app, flatS_app, List.set_append_right _ _ (by rw [flatS_len]; omega), flatS_len]
  rw [show s.length * 2 + 1 - s.length * 2 = 1 from by omega]
  rfl
theorem flatS_last (s : List (Int × Int)) (f t : Int) : (flatS (s ++ [(f, t)]))[s.length * 2 + 1]? = some (.int .i64 t) := by
  rw [flatS_app, List.getElem?_append_right (by rw [flatS_len]; omega), flatS_len]
  rw [show s.length * 2 + 1 - s.length * 2 = 1 from by omega]
  rfl
/-- the last span goes on to i -/
def setL (s : List (Int × Int)) (i : Int) : List (Int × Int) := s.dropLast ++ [((s.getLast?.getD (0, 0)).1, i)]
theorem setL_snoc (s : List (Int × Int)) (f t i : Int) : setL (s ++ [(f, t)]) i = s ++ [(f, i)] := by simp [setL]
theorem setL_len (s : List (Int × Int)) (i : Int) (h : s ≠ []) : (setL s i).length = s.length := by
  have : 0 < s.length := List.length_pos_iff.2 h
  simp [setL]; omega
theorem snoc_of {s : List (Int × Int)} (h : s ≠ []) : ∃ r f t, s = r ++ [(f, t)] := by
  obtain ⟨r, a, e⟩ := List.eq_nil_or_concat s |>.resolve_left h
  exact ⟨r, a.1, a.2, by rw [e]; simp⟩
theorem KpX.mono {D : Nat} {X Y : Nat → Prop} {A B : World} (h : KpX D X A B) (hxy : ∀ k, X k → Y k) : KpX D Y A B := ⟨h.1, fun k h1 h2 => h.2 k h1 (fun hx => h2 (hxy k hx))⟩
theorem KpX.setCell {D : Nat} {X : Nat → Prop} {A B : World} (h : KpX D X A B) {p : Addr} (v : Value) (hp : X p.block ∨ D ≤ p.block) : KpX D X A (B.setCell p v) := by
  refine ⟨?_, fun k h1 h2 => ?_⟩
  · have := h.1
    simpa using this
  · rw [Below.heap_setCell _ _ _ _ (fun e => by subst e; rcases hp with hp | hp; exact h2 hp; omega)]
    exact h.2 k h1 h2
theorem info30 : (Try.prog.info? 30).map (fun i => (i.zero, i.size, i.bytes)) = some (some (.agg #[.int .i64 0, .int .i64 0]), 2, 16) := by kernel_rfl
/-- the j-th page of a range -/
def pgN (f j : Nat) : Fin 64 := ⟨(f + j) % 64, Nat.mod_lt _ (by decide)⟩
theorem pgN_val {f j : Nat} (h : f + j < 64) : ((pgN f j).1 : Int) = (f : Int) + j := by unfold pgN; simp only []; omega
theorem pages_any (f t : Int) (w : World) : Calls Try.prog 32 #[rg f t] w fun e w' => e = .returned (.func (.func 33) #[] #[.pointer (some ⟨w.heap.size, 0, none⟩)]) ∧ w' = w.alloc (.cells #[.int .i64 f, .int .i64 t] 30) := by
  go_enter Try.func32, Try.ntmps32
  go_wp2
  go_ret
  exact ⟨rfl, rfl⟩
set_option maxRecDepth 100000 in
set_option maxHeartbeats 2000000 in
theorem it_stops (n D : Nat) (X : Nat → Prop) (hn : 1 ≤ n) (f t : Nat) (hft : f ≤ t) (ht : t < 64) (Bm : Nat) (w : World)
    (hD : D ≤ w.heap.size) (hBm : Bm < D) (hXm : ¬ X Bm) (hm : w.cell? ⟨Bm, 0, none⟩ = some (.int .i64 (f : Int)) ∧ w.cell? ⟨Bm, 1, none⟩ = some (.int .i64 (t : Int))) :
    SeqStopsK Fence.wide n Try.prog 33 #[.pointer (some ⟨Bm, 0, none⟩)] (fun x : Fin 64 => #[Value.int .i64 (x.1 : Int)]) (KpX D X)
      (fun ys => ys = upto (pgN f) (t - f + 1)) (fun _ => True) (t - f + 1) w := fun lp J Jx W hW hJ hJx hY h0 => by
  have hKW : KpX D X w W := KpX.ev hW hD
  have HM : Hid (∀ W', KpX D X W W' → W'.cell? ⟨Bm, 0, none⟩ = some (.int .i64 (f : Int)) ∧ W'.cell? ⟨Bm, 1, none⟩ = some (.int .i64 (t : Int))) := Lib.hid fun W' k => by
    have k' := hKW.trans k
    exact ⟨(k'.cell hBm hXm).trans hm.1, (k'.cell hBm hXm).trans hm.2⟩
  have HJ := Lib.hid hJ
  have HY := Lib.hid hY
  obtain ⟨y0, y1⟩ := HM.out _ (KpX.refl _ _ _)
  clear hm hJ hJx hY hKW
  refine callsIn_of_wp Try.func33 rfl trivial ?_ rfl
  simp only [Try.ntmps33, List.size_toArray, List.length_cons, List.length_nil, Nat.reduceAdd, Nat.reduceSub, Array.replicate_succ, Array.replicate_zero, List.push_toArray, List.append_toArray, List.nil_append, List.cons_append]
  gi_wp2
  gi_loopw [3] (fun i wr => ∃ j : Nat, j ≤ t - f + 1 ∧ i = .int .i64 ((f : Int) + j) ∧ J (upto (pgN f) j) wr ∧ KpX D X W wr) (fun i _ => ((t : Int) + 1 - intOf i).toNat)
  case atStart => exact ⟨0, Nat.zero_le _, by simp, h0, KpX.refl _ _ _⟩
  case round =>
    clear y0 y1
    obtain ⟨j, hj, rfl, hJs, hk⟩ := hrel
    obtain ⟨m0, m1⟩ := HM.out _ hk
    by_cases hlt : j < t - f + 1
    · have hle : (f : Int) + j ≤ t := by omega
      have hx := pgN_val (f := f) (j := j) (by omega)
      have HK := Lib.hid hk
      obtain ⟨fn, tmps, assign, body, hy, hR⟩ := HY.out _ (pgN f j) wr hJs (by rw [upto_length]; exact hlt)
      have HHR := Lib.hid hR
      simp only [hx] at hy
      clear hk hJs hR
      gi_wp2
      refine HHR.out.mono ?_
      rintro e W3 (⟨rfl, hJ3, hk3⟩ | ⟨rfl, hJx3⟩)
      · gi_wp2
        go_roundw
        case rel => exact ⟨j + 1, by omega, by congr 1; (try push_cast); (try omega), by rw [upto_succ]; exact hJ3, HK.out.trans hk3⟩
        case measure => simp [intOf]; omega
      · gi_wp2
        refine bodyPost_ret (results_none rfl _ _ _) rfl ?_
        exact ⟨⟨_, rfl⟩, .inr ⟨_, trivial, hJx3⟩⟩
    · obtain rfl : j = t - f + 1 := by omega
      have hle : ¬ (f : Int) + ((t - f + 1 : Nat) : Int) ≤ t := by omega
      have hcast : ((t - f + 1 : Nat) : Int) = (t : Int) - f + 1 := by omega
      gi_wp2
      go_end0
      first
        | exact ⟨⟨_, rfl⟩, .inl ⟨_, rfl, hJs⟩⟩
        | exact ⟨⟨_, rfl⟩, .inl hJs⟩
/-- one page more -/
def pst (s : List (Int × Int)) (x : Fin 64) : List (Int × Int) :=
  match s.getLast? with
  | none => [((x.1 : Int), (x.1 : Int))]
  | some ft => if ft.2 / 8 = (x.1 : Int) / 8 then setL s x.1 else s ++ [((x.1 : Int), (x.1 : Int))]
def pcF (l : List (Fin 64)) : List (Int × Int) := l.foldl pst []
theorem pcF_snoc (l : List (Fin 64)) (x : Fin 64) : pcF (l ++ [x]) = pst (pcF l) x := by simp [pcF]
theorem pst_bd {s : List (Int × Int)} {x : Fin 64} (h : ∀ y ∈ s, 0 ≤ y.2 ∧ y.2 < 64) : ∀ y ∈ pst s x, 0 ≤ y.2 ∧ y.2 < 64 := by
  have hx := x.2
  intro y hy
  unfold pst at hy
  split at hy
  · simp at hy; subst hy; simp only []; omega
  · split at hy
    · unfold setL at hy
      rcases List.mem_append.1 hy with hy | hy
      · exact h y (List.dropLast_subset _ hy)
      · simp at hy; subst hy; simp only []; omega
    · rcases List.mem_append.1 hy with hy | hy
      · exact h y hy
      · simp at hy; subst hy; simp only []; omega
theorem pst_len (s : List (Int × Int)) (x : Fin 64) : (pst s x).length ≤ s.length + 1 := by
  unfold pst
  split
  · simp
  · split
    · by_cases hs : s = []
      · subst hs; simp [setL]
      · rw [setL_len _ _ hs]; omega
    · simp
theorem foldl_pst (l : List (Fin 64)) (s : List (Int × Int)) (h : ∀ y ∈ s, 0 ≤ y.2 ∧ y.2 < 64) : (∀ y ∈ l.foldl pst s, 0 ≤ y.2 ∧ y.2 < 64) ∧ (l.foldl pst s).length ≤ s.length + l.length := by
  induction l generalizing s with
  | nil => exact ⟨h, by simp⟩
  | cons x l ih =>
    obtain ⟨h1, h2⟩ := ih _ (pst_bd (x := x) h)
    have h3 := pst_len s x
    simp only [List.foldl_cons, List.length_cons]
    exact ⟨h1, by omega⟩
theorem pcF_bd (l : List (Fin 64)) : (∀ y ∈ pcF l, 0 ≤ y.2 ∧ y.2 < 64) ∧ (pcF l).length ≤ l.length := by
  have h := foldl_pst l [] (by simp)
  simpa [pcF] using h
theorem pst_nil (x : Fin 64) : pst [] x = [((x.1 : Int), (x.1 : Int))] := rfl
theorem pst_one (r : List (Int × Int)) (f t : Int) (x : Fin 64) : pst (r ++ [(f, t)]) x = if t / 8 = (x.1 : Int) / 8 then r ++ [(f, (x.1 : Int))] else r ++ [(f, t)] ++ [((x.1 : Int), (x.1 : Int))] := by
  simp [pst, setL_snoc]
/-- what l holds -/
def StP (w : World) (D Bs : Nat) (s : List (Int × Int)) (W : World) : Prop :=
  (∃ v, Boxed W Bs 31 v ∧ W.ownsRow D 30 2 v s.length (flatS s)) ∧ D ≤ W.heap.size ∧ Below w.heap.size w W
theorem stP_from (w : World) (D D' Bs : Nat) (hwD : w.heap.size ≤ D') : OwnFrom D' (fun (pre : List (Fin 64)) W => StP w D Bs (pcF pre) W) := fun s A B row hs hg hr => by
  obtain ⟨⟨v, hv, hrow⟩, hD, hw⟩ := hs
  have hne : ∀ {k : Nat} {t : TypeId} {u : Value}, Boxed A k t u → some k ≠ row := fun {k t u} hb e => by
    obtain ⟨_, o, ho, hc⟩ := hr k e.symm
    rw [show A.heap[k]? = _ from hb] at ho
    cases ho
    cases hc
  refine ⟨⟨v, hv.kept hg (hne hv), hrow.kept hg ?_⟩, Nat.le_trans hD hg.size, ?_⟩
  · rcases hrow.2 with ⟨rfl, _⟩ | ⟨g, cap, cur, rfl, _, hgb, _⟩
    · exact .inl rfl
    · refine .inr fun e' => ?_
      obtain ⟨_, o, ho, hc⟩ := hr g (by simpa [Value.ownBlock] using e'.symm)
      rw [hgb] at ho
      cases ho
      cases hc
  · exact hw.grown hg hw.size (fun k e => by have := (hr k e).1; omega)
end Go.Proofs.Ytpgghbabhgfchaa
