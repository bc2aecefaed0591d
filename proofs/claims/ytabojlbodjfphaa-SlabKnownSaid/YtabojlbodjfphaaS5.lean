import Derived.Test.YtabojlbodjfphaaS4
import Derived.OwnWalk
import Derived.Laws.AppendOwn
import Derived.Laws.OwnMore
namespace Go.Proofs.Ytabojlbodjfphaa
open Go.RowKit Go.Shelf
theorem own_below {w w' : World} {base : Nat} {e : TypeId} {size : Nat} {v : Value} {n : Nat} {xs : List Value} (h : w.ownsRow base e size v n xs) (hb : Below w.heap.size w w') : w'.ownsRow base e size v n xs :=
  h.kept (row := none) ⟨hb.os, hb.tape, hb.output, hb.size, fun i hi _ => hb.block i hi⟩ (by cases hv : v.ownBlock <;> simp)
theorem Ev.own {w w' : World} {base : Nat} {e : TypeId} {size : Nat} {v : Value} {n : Nat} {xs : List Value} (h : Ev w w') (ho : w.ownsRow base e size v n xs) : w'.ownsRow base e size v n xs := own_below ho h
theorem Ev.grown {w W W' : World} {row : Option Nat} (h : Ev w W) (hg : W.grownBy W' row) (hr : ∀ k, row = some k → w.heap.size ≤ k) : Ev w W' := Below.grown h hg h.sz hr
theorem Ev.cell {w W : World} (e : Ev w W) {p : Addr} (h : p.block < w.heap.size) : W.cell? p = w.cell? p := Below.cell e h
theorem one_cell (w : World) (x : Value) (T : TypeId) : ∀ j u, [x][j]? = some u → (w.alloc (.cells #[x] T)).cell? ((⟨w.heap.size, 0, none⟩ : Addr).add j) = some u := by
  intro j u h
  rcases j with _ | j
  · simp at h
    subst h
    simp [Addr.add]
  · simp at h
theorem own_weaken {w : World} {base base' : Nat} {e : TypeId} {size : Nat} {v : Value} {n : Nat} {xs : List Value} (h : w.ownsRow base e size v n xs) (hb : base' ≤ base) : w.ownsRow base' e size v n xs := by
  refine ⟨h.1, ?_⟩
  rcases h.2 with h0 | ⟨g, cap, cur, h1, h2, h3⟩
  · exact .inl h0
  · exact .inr ⟨g, cap, cur, h1, by omega, h3⟩
theorem info3 : (Try.prog.info? 3).map (fun i => (i.zero, i.size, i.bytes)) = some (some (.int .i64 0), 1, 8) := by kernel_rfl
def IV (l : List Int) : List Value := l.map (Value.int .i64)
def OwnI (w : World) (base : Nat) (v : Value) (L : List Int) : Prop := w.ownsRow base 3 1 v L.length (IV L)
/-- The slice at A reads as the numbers l. -/
def RdI (w : World) (A : Option Addr) (l : List Int) : Prop :=
  l.length ≤ 9223372036854775807 ∧ ∀ j, j < l.length → ∃ b o, A = some ⟨b, o, none⟩ ∧ b < w.heap.size ∧ w.cell? ⟨b, o + j, none⟩ = some (.int .i64 (l.getD j 0))
theorem RdI.ev {w w' : World} {A : Option Addr} {l : List Int} (h : RdI w A l) (e : Ev w w') : RdI w' A l := ⟨h.1, fun j hj => by
  obtain ⟨b, o, h1, h2, h3⟩ := h.2 j hj
  have := e.sz
  exact ⟨b, o, h1, by omega, by rw [e.cell (p := ⟨b, o + j, none⟩) h2]; exact h3⟩⟩
theorem RdI.of_own {w : World} {base : Nat} {v : Value} {L : List Int} (h : OwnI w base v L) (hl : L.length ≤ 9223372036854775807) : ∃ A cap, v = .slice A L.length cap ∧ RdI w A L := by
  rcases h.2 with ⟨rfl, h0⟩ | ⟨g, cap, cur, rfl, hbg, hh, hn, hc, hs, ht⟩
  · have e : L = [] := List.eq_nil_of_length_eq_zero h0
    subst e
    exact ⟨none, 0, rfl, by simp, fun j hj => by simp at hj⟩
  · refine ⟨some ⟨g, 0, none⟩, cap, rfl, hl, fun j hj => ⟨g, 0, rfl, (h.lt g rfl).2, ?_⟩⟩
    rw [Nat.zero_add, World.ownsRow.cellAt h j (by omega)]
    unfold IV
    simp [hj]
set_option maxHeartbeats 400000 in
theorem sameI (A B : Option Addr) (c d : Nat) (l : List Int) (w : World) (hx : RdI w A l) (hy : RdI w B l) :
    Calls Try.prog 22 #[.slice A l.length c, .slice B l.length d] w fun e w' => e = .returned (.bool true) ∧ Ev w w' := by
  have hn := hx.1
  have hq : ((l.length : Int) != (l.length : Int)) = false := by simp
  go_enter Try.func22, Try.ntmps22
  go_wp2
  go_loopw [5] (fun i wr => ∃ k m : Nat, k ≤ l.length ∧ i = .int .i64 k ∧ wr = w.drewN m) (fun i _ => l.length - (intOf i).toNat)
  case atStart => exact ⟨0, 0, Nat.zero_le _, rfl, rfl⟩
  case round =>
    obtain ⟨k, m, hk, rfl, rfl⟩ := hrel
    by_cases hlt : k < l.length
    · obtain ⟨b, o, rfl, hb, c1⟩ := hx.2 k hlt
      obtain ⟨b', o', rfl, hb', c1'⟩ := hy.2 k hlt
      generalize l.getD k 0 = x at *
      have hlt' : (k : Int) < (l.length : Int) := by omega
      have hk0 : 0 ≤ (k : Int) := by omega
      clear hx hy
      go_wp2
      go_quiet (fail)
      go_wp2
      go_roundw
      case rel => exact ⟨k + 1, m + nq, by omega, by go_num, rfl⟩
      case measure => simp [intOf]; omega
    · obtain rfl : k = l.length := by omega
      go_wp2
      go_ret
      exact ⟨rfl, below_drewN (Below.refl _ _) _⟩
/-- whatever lay below D lies as it lay, but for the blocks of X -/
def KpX (D : Nat) (X : Nat → Prop) (A B : World) : Prop := A.heap.size ≤ B.heap.size ∧ ∀ k, k < D → ¬ X k → B.heap[k]? = A.heap[k]?
theorem KpX.refl (D : Nat) (X : Nat → Prop) (A : World) : KpX D X A A := ⟨Nat.le_refl _, fun _ _ _ => rfl⟩
theorem KpX.trans {D : Nat} {X : Nat → Prop} {A B C : World} (h : KpX D X A B) (k : KpX D X B C) : KpX D X A C := ⟨Nat.le_trans h.1 k.1, fun i h1 h2 => (k.2 i h1 h2).trans (h.2 i h1 h2)⟩
theorem KpX.cell {D : Nat} {X : Nat → Prop} {A B : World} (h : KpX D X A B) {b o : Nat} (hb : b < D) (hx : ¬ X b) : B.cell? ⟨b, o, none⟩ = A.cell? ⟨b, o, none⟩ := World.cell?_of_block (a := ⟨b, o, none⟩) (h.2 b hb hx)
theorem KpX.putObj {D : Nat} {X : Nat → Prop} {w : World} (hD : D ≤ w.heap.size) (W : World) (l : Nat) (o o' : Obj) (hl : w.heap.size ≤ l) (h : W.heap[l]? = some o) (_ : o.isCells = false) (_ : o.isWalk = false) : KpX D X W (W.putObj l o') := by
  have hg := grownBy_putObj' W l o'
  exact ⟨hg.size, fun k h1 _ => hg.block k (by have := (Array.getElem?_eq_some_iff.1 h).1; omega) (fun e => by cases e; omega)⟩
theorem KpX.ev {D : Nat} {X : Nat → Prop} {A B : World} (h : Ev A B) (hD : D ≤ A.heap.size) : KpX D X A B := ⟨h.sz, fun k h1 _ => Below.block h k (by omega)⟩
theorem Ev.grownBy {A B : World} (h : Ev A B) : A.grownBy B none := ⟨Below.os h, Below.tape h, Below.output h, Below.size h, fun k hk _ => Below.block h k hk⟩
def upto {α : Type} (f : Nat → α) (k : Nat) : List α := (List.range k).map f
theorem upto_succ {α : Type} (f : Nat → α) (k : Nat) : upto f (k + 1) = upto f k ++ [f k] := by simp [upto, List.range_succ]
theorem upto_length {α : Type} (f : Nat → α) (k : Nat) : (upto f k).length = k := by simp [upto]
/-- 'out = append(out, ..)' where the box lies below D and the rows at or beyond it -/
theorem appX {w W w1 : World} {D B : Nat} {t e : TypeId} {size : Nat} {v v' : Value} {k m : Nat} {xs ys : List Value} {tmp : Obj}
    (hv : Boxed W B t v) (hte : t ≠ e) (hrow : W.ownsRow D e size v k xs) (hD : D ≤ W.heap.size) (hwB : w.heap.size ≤ B) (hwD : w.heap.size ≤ D) (hB : Below w.heap.size w W)
    (hown' : w1.ownsRow D e size v' m ys) (hgrow : (W.alloc tmp).grownBy w1 v.ownBlock) :
    Boxed w1 B t v ∧ Boxed (w1.setCell ⟨B, 0, none⟩ v') B t v' ∧ (w1.setCell ⟨B, 0, none⟩ v').ownsRow D e size v' m ys ∧ KeepsOthers W (w1.setCell ⟨B, 0, none⟩ v') ∧ KpX D (fun k => k = B) W (w1.setCell ⟨B, 0, none⟩ v') ∧ Below w.heap.size w (w1.setCell ⟨B, 0, none⟩ v') := by
  have hv1 : Boxed w1 B t v := (hv.alloc tmp).kept hgrow (hv.not_row hte hrow)
  have hge : ∀ j, v.ownBlock = some j → D ≤ j := by
    intro j ej
    rcases hrow.2 with ⟨rfl, _⟩ | ⟨g, cap, cur, rfl, hb, _, _⟩
    · simp [Value.ownBlock] at ej
    · obtain rfl : g = j := by simpa [Value.ownBlock] using ej
      exact hb
  refine ⟨hv1, hv1.set v', hown'.kept (grownBy_setCell' w1 B v') (.inr (hv1.not_row hte hown').symm), ?_, ?_, ?_⟩
  · refine ((KeepsOthers.alloc W tmp).trans (KeepsOthers.of_grownBy hgrow fun j o ej hj => ?_)).trans (KeepsOthers.setCell _ _ _)
    rcases (hrow.alloc tmp).2 with ⟨rfl, _⟩ | ⟨g, cap, cur, rfl, _, hgb, _⟩
    · simp [Value.ownBlock] at ej
    · obtain rfl : g = j := by simpa [Value.ownBlock] using ej
      rw [hgb] at hj; cases hj; rfl
  · have hs := hgrow.size
    have hs2 := (grownBy_setCell' w1 B v').size
    simp at hs
    refine ⟨by omega, fun j h1 h2 => ?_⟩
    rw [(grownBy_setCell' w1 B v').block j (by omega) (fun e => h2 (by cases e; rfl)), hgrow.block j (by simp; omega) (fun e => by have := hge j e.symm; omega)]
    exact Below.heap_alloc W tmp j (by omega)
  · refine ((hB.alloc hB.size tmp).grown hgrow (by have := hB.size; simp; omega) fun j ej => ?_).setCell (p := ⟨B, 0, none⟩) hwB v'
    have := hge j ej
    omega
theorem KpX.mono {D : Nat} {X Y : Nat → Prop} {A B : World} (h : KpX D X A B) (hxy : ∀ k, X k → Y k) : KpX D Y A B := ⟨h.1, fun k h1 h2 => h.2 k h1 (fun hx => h2 (hxy k hx))⟩
theorem KpX.setCell {D : Nat} {X : Nat → Prop} {A B : World} (h : KpX D X A B) {p : Addr} (v : Value) (hp : X p.block ∨ D ≤ p.block) : KpX D X A (B.setCell p v) := by
  refine ⟨?_, fun k h1 h2 => ?_⟩
  · have := h.1
    simpa using this
  · rw [Below.heap_setCell _ _ _ _ (fun e => by subst e; rcases hp with hp | hp; exact h2 hp; omega)]
    exact h.2 k h1 h2

theorem KpX.boxed {D : Nat} {X : Nat → Prop} {A B : World} (h : KpX D X A B) {b : Nat} {t : TypeId} {v : Value} (hb : b < D) (hx : ¬ X b) (hv : Boxed A b t v) : Boxed B b t v := (h.2 b hb hx).trans hv
/-- the places that are used, below k -/
def plsN (u k : Nat) : List Nat := (List.range k).filter fun p => decide (u / 2 ^ p % 2 = 1)
theorem plsN_succ (u k : Nat) : plsN u (k + 1) = plsN u k ++ if u / 2 ^ k % 2 = 1 then [k] else [] := by
  unfold plsN
  rw [List.range_succ, List.filter_append]
  congr 1
  by_cases h : u / 2 ^ k % 2 = 1
  · simp [h]
  · have : ¬ (u / 2 ^ k % 2 = 1) := h
    simp [this]
theorem plsN_len (u k : Nat) : (plsN u k).length ≤ k := by
  have := List.length_filter_le (fun p => decide (u / 2 ^ p % 2 = 1)) (List.range k)
  simpa [plsN] using this
def obK (f : Int) (u k : Nat) : List Int := (plsN u k).map fun p : Nat => f * 8 + (p : Int)
theorem obK_succ (f : Int) (u k : Nat) : obK f u (k + 1) = obK f u k ++ if u / 2 ^ k % 2 = 1 then [f * 8 + (k : Int)] else [] := by
  unfold obK
  rw [plsN_succ, List.map_append]
  congr 1
  split <;> simp
theorem obK_len (f : Int) (u k : Nat) : (obK f u k).length ≤ k := by simpa [obK] using plsN_len u k
/-- the objects of a slab -/
def obs (f : Int) (u : Nat) : List Int := if ckE f = 2 then [] else obK f u 8
theorem BS.grown {W W' : World} {k : Nat} {f : Int} {u : Nat} {row : Option Nat} (h : BS W k f u) (hg : W.grownBy W' row) (hne : row ≠ some k) : BS W' k f u := by
  have hb : W'.heap[k]? = W.heap[k]? := hg.block k h.1 (fun e => hne e.symm)
  obtain ⟨h0, h1, h2, h3, h4⟩ := h
  have hc : ∀ o, W'.cell? ⟨k, o, none⟩ = W.cell? ⟨k, o, none⟩ := fun o => World.cell?_of_block (a := ⟨k, o, none⟩) hb
  have hf : ∀ o, W'.frozen? ⟨k, o, none⟩ = W.frozen? ⟨k, o, none⟩ := fun o => by unfold World.frozen?; simp only []; rw [hb]
  exact ⟨Nat.lt_of_lt_of_le h0 hg.size, by rw [hc, h1], by rw [hc, h2], by rw [hf, h3], by rw [hf, h4]⟩
theorem row_ge {w : World} {base : Nat} {e : TypeId} {size : Nat} {v : Value} {n : Nat} {xs : List Value} (h : w.ownsRow base e size v n xs) : ∀ g, v.ownBlock = some g → base ≤ g := by
  intro g eg
  rcases h.2 with ⟨rfl, _⟩ | ⟨g', cap, cur, rfl, hb, _, _⟩
  · simp [Value.ownBlock] at eg
  · obtain rfl : g' = g := by simpa [Value.ownBlock] using eg
    exact hb
set_option maxHeartbeats 2000000 in
theorem robjects_ok (f : Int) (u : Nat) (w : World) (h : ckE f = 0) (h0 : 0 ≤ f) (h1 : f < 256) (hu : u < 256) : Calls Try.prog 21 #[sl f u] w fun e w' => ∃ v, e = .returned (.tuple #[v, .int .i64 0]) ∧ OwnI w' w.heap.size v (obK f u 8) ∧ Ev w w' := by
  have H1 := Lib.hid fun W => rcheck_any f u W
  rw [h] at H1
  have HB : Hid (BS (w.alloc (slO f u)) w.heap.size f u ∧ Ev w (w.alloc (slO f u))) := Lib.hid ⟨BS.new w f u, (Ev.refl w).alloc _⟩
  have HU : Hid (∀ p b, p < 8 → decide (u / 2 ^ p % 2 = 1) = b → ∀ W, Calls Try.prog 41 #[sl f u, .int .i64 ((p : Nat) : Int)] W fun e w' => e = .returned (.bool b) ∧ Ev W w') := Lib.hid fun p b hp hb W => used_of f u p b hp hb hu W
  obtain ⟨i0, hi0, hz0, hz1, hz2⟩ := info_parts info3
  clear h
  go_enter Try.func21, Try.ntmps21
  go_wp2_with fail
  refine (H1.out _).mono ?_
  rintro e w1 ⟨rfl, hev⟩
  have HB1 := Lib.hid (HB.out.1.ev hev)
  have HE1 := Lib.hid (HB.out.2.step hev)
  clear hev
  go_wp2_with fail
  go_loopw [5, 6] (fun v i wr => ∃ k : Nat, k ≤ 8 ∧ i = .int .i64 k ∧ wr.ownsRow (w.heap.size + 1) 3 1 v (obK f u k).length (IV (obK f u k)) ∧ BS wr w.heap.size f u ∧ Ev w wr) (fun _ i _ => 8 - (intOf i).toNat)
  case atStart => exact ⟨0, by omega, rfl, World.ownsRow_nil _ _ _ _, HB1.out, HE1.out⟩
  case round =>
    obtain ⟨k, hk, rfl, hown, hbs, hev⟩ := hrel
    have HOWN := Lib.hid hown
    have HBS := Lib.hid hbs
    have HEV := Lib.hid hev
    clear hown hbs hev
    obtain ⟨l1, c1, c2, -, -⟩ := HBS.out
    by_cases hlt : k < 8
    · have HS := Lib.hid (obK_succ f u k)
      have hsl := obK_len f u k
      have hx : IntKind.i64.wrap (8 * f) = 8 * f := IntWalk.i64_in _ (by omega)
      by_cases hb : u / 2 ^ k % 2 = 1
      · rw [if_pos hb] at HS
        have HK := Lib.hid (HU.out k true hlt (decide_eq_true hb))
        clear hb
        go_wp2_with fail
        refine (HK.out _).mono ?_
        rintro e w2 ⟨rfl, hev⟩
        have HO2 := Lib.hid (Ev.own hev HOWN.out)
        have HB2 := Lib.hid (HBS.out.ev hev)
        have HE2 := Lib.hid (HEV.out.step hev)
        clear hev l1 c1 c2
        obtain ⟨l1, c1, c2, -, -⟩ := HB2.out
        have H3 : Hid ((obK f u k).length + 1 ≤ maxLen) := Lib.hid (by unfold maxLen; omega)
        have H4 : Hid (((obK f u k).length + 1) * 8 ≤ 140737488355328) := Lib.hid (by omega)
        have H5 : Hid (∀ o, w.heap.size + 1 ≤ (w2.alloc o).heap.size) := Lib.hid (by intro o; have := HE2.out.sz; simp; omega)
        have hc : 8 * f + (k : Int) = f * 8 + k := by omega
        have HC := Lib.hid hc
        clear hc
        go_wp2_with (at_builtin; go_loud (refine wpList_append_own _ rfl _ _ 32 rfl (w.heap.size + 1) 3 i0 (.int .i64 0) 1 8 Try.underlying32 hi0 hz0 hz1 hz2 rfl (by decide) _ (obK f u k).length (IV (obK f u k)) rfl (HO2.out.alloc _) ⟨w2.heap.size, 0, none⟩ 1 1 [.int .i64 (8 * f + (k : Int))] rfl rfl (one_cell _ _ _) (by simp [Value.oneCell']) H3.out H4.out (H5.out _) ?_); intro v1 w4 hown4 hg4 _)
        have hge := row_ge HO2.out
        have HW4 := Lib.hid (Ev.grown (HE2.out.alloc _) hg4 (fun g hg => by have := hge g hg; omega))
        have HB4 := Lib.hid (BS.grown (HB2.out.ev ((Ev.refl _).alloc _)) hg4 (fun e => by have := hge _ e; omega))
        have HOW4 := Lib.hid hown4
        clear hg4 hown4 hge l1 c1 c2
        go_wp2_with fail
        go_roundw
        case rel => exact ⟨k + 1, by omega, by go_num, by rw [HS.out, ← HC.out]; simpa [IV] using HOW4.out, HB4.out, HW4.out⟩
        case measure => simp [intOf]; omega
      · rw [if_neg hb, List.append_nil] at HS
        have HK := Lib.hid (HU.out k false hlt (decide_eq_false hb))
        clear hb
        go_wp2_with fail
        refine (HK.out _).mono ?_
        rintro e w2 ⟨rfl, hev⟩
        have HO2 := Lib.hid (Ev.own hev HOWN.out)
        have HB2 := Lib.hid (HBS.out.ev hev)
        have HE2 := Lib.hid (HEV.out.step hev)
        clear hev
        go_wp2_with fail
        go_roundw
        case rel => exact ⟨k + 1, by omega, by go_num, by rw [HS.out]; exact HO2.out, HB2.out, HE2.out⟩
        case measure => simp [intOf]; omega
    · obtain rfl : k = 8 := by omega
      clear l1 c1 c2
      go_wp2_with fail
      go_ret2
      exact ⟨_, rfl, own_weaken HOWN.out (by omega), HEV.out⟩
end Go.Proofs.Ytabojlbodjfphaa
