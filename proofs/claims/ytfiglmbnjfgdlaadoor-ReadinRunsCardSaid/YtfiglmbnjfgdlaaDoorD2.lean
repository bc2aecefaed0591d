import Derived.Test.YtfiglmbnjfgdlaaDoorD1
import Derived.IntWalk
import Derived.Sort.CutIn
import Derived.OwnWalk
import Derived.Laws.AppendOwn
import Derived.Laws.OwnMore
import Derived.Laws.Rows
import Derived.Deep.OwnRows
import Derived.ArgAppend
import Derived.Lib.EndianBits
namespace Go.Proofs.YtfiglmbnjfgdlaaDoor
open Go.RowKit
theorem Ev.setC {w W : World} (h : Ev w W) {p : Addr} (hp : w.heap.size ≤ p.block) (v : Value) : Ev w (W.setCell p v) := Below.setCell h hp v
theorem own_below {w w' : World} {base : Nat} {e : TypeId} {size : Nat} {v : Value} {n : Nat} {xs : List Value} (h : w.ownsRow base e size v n xs) (hb : Below w.heap.size w w') : w'.ownsRow base e size v n xs :=
  h.kept (row := none) ⟨hb.os, hb.tape, hb.output, hb.size, fun i hi _ => hb.block i hi⟩ (by cases hv : v.ownBlock <;> simp)
theorem Ev.own {w w' : World} {base : Nat} {e : TypeId} {size : Nat} {v : Value} {n : Nat} {xs : List Value} (h : Ev w w') (ho : w.ownsRow base e size v n xs) : w'.ownsRow base e size v n xs := own_below ho h
theorem Ev.grown {w W W' : World} {row : Option Nat} (h : Ev w W) (hg : W.grownBy W' row) (hr : ∀ k, row = some k → w.heap.size ≤ k) : Ev w W' := Below.grown h hg h.sz hr
theorem Ev.cell {w W : World} (e : Ev w W) {p : Addr} (h : p.block < w.heap.size) : W.cell? p = w.cell? p := Below.cell e h
theorem one_cell (w : World) (x : Value) (T : TypeId) : ∀ j u, [x][j]? = some u → (w.alloc (.cells #[x] T)).cell? ((⟨w.heap.size, 0, none⟩ : Addr).add j) = some u := by
  intro j u h
  rcases j with _ | j
  · simp at h
    subst h
    simp [Addr.add]
  · simp at h
theorem own_weaken {w : World} {base base' : Nat} {e : TypeId} {size : Nat} {v : Value} {n : Nat} {xs : List Value} (h : w.ownsRow base e size v n xs) (hb : base' ≤ base) : w.ownsRow base' e size v n xs := by
  refine ⟨h.1, ?_⟩
  rcases h.2 with h0 | ⟨g, cap, cur, h1, h2, h3⟩
  · exact .inl h0
  · exact .inr ⟨g, cap, cur, h1, by omega, h3⟩
theorem info3 : (Tryd.prog.info? 3).map (fun i => (i.zero, i.size, i.bytes)) = some (some (.int .i64 0), 1, 8) := by kernel_rfl
def IV (l : List Int) : List Value := l.map (Value.int .i64)
def OwnI (w : World) (base : Nat) (v : Value) (L : List Int) : Prop := w.ownsRow base 3 1 v L.length (IV L)
/-- The slice at A reads as the numbers l. -/
def RdI (w : World) (A : Option Addr) (l : List Int) : Prop :=
  l.length ≤ 9223372036854775807 ∧ ∀ j, j < l.length → ∃ b o, A = some ⟨b, o, none⟩ ∧ b < w.heap.size ∧ w.cell? ⟨b, o + j, none⟩ = some (.int .i64 (l.getD j 0))
theorem RdI.ev {w w' : World} {A : Option Addr} {l : List Int} (h : RdI w A l) (e : Ev w w') : RdI w' A l := ⟨h.1, fun j hj => by
  obtain ⟨b, o, h1, h2, h3⟩ := h.2 j hj
  have := e.sz
  exact ⟨b, o, h1, by omega, by rw [e.cell (p := ⟨b, o + j, none⟩) h2]; exact h3⟩⟩
theorem RdI.of_own {w : World} {base : Nat} {v : Value} {L : List Int} (h : OwnI w base v L) (hl : L.length ≤ 9223372036854775807) : ∃ A cap, v = .slice A L.length cap ∧ RdI w A L := by
  rcases h.2 with ⟨rfl, h0⟩ | ⟨g, cap, cur, rfl, hbg, hh, hn, hc, hs, ht⟩
  · have e : L = [] := List.eq_nil_of_length_eq_zero h0
    subst e
    exact ⟨none, 0, rfl, by simp, fun j hj => by simp at hj⟩
  · refine ⟨some ⟨g, 0, none⟩, cap, rfl, hl, fun j hj => ⟨g, 0, rfl, (h.lt g rfl).2, ?_⟩⟩
    rw [Nat.zero_add, World.ownsRow.cellAt h j (by omega)]
    unfold IV
    simp [hj]
set_option maxHeartbeats 400000 in
theorem sameI (A B : Option Addr) (c d : Nat) (l : List Int) (w : World) (hx : RdI w A l) (hy : RdI w B l) :
    Calls Tryd.prog 14 #[.slice A l.length c, .slice B l.length d] w fun e w' => e = .returned (.bool true) ∧ Ev w w' := by
  have hn := hx.1
  have hq : ((l.length : Int) != (l.length : Int)) = false := by simp
  go_enter Tryd.func14, Tryd.ntmps14
  go_wp2
  go_loopw [5] (fun i wr => ∃ k m : Nat, k ≤ l.length ∧ i = .int .i64 k ∧ wr = w.drewN m) (fun i _ => l.length - (intOf i).toNat)
  case atStart => exact ⟨0, 0, Nat.zero_le _, rfl, rfl⟩
  case round =>
    obtain ⟨k, m, hk, rfl, rfl⟩ := hrel
    by_cases hlt : k < l.length
    · obtain ⟨b, o, rfl, hb, c1⟩ := hx.2 k hlt
      obtain ⟨b', o', rfl, hb', c1'⟩ := hy.2 k hlt
      generalize l.getD k 0 = x at *
      have hlt' : (k : Int) < (l.length : Int) := by omega
      have hk0 : 0 ≤ (k : Int) := by omega
      clear hx hy
      go_wp2
      go_quiet (fail)
      go_wp2
      go_roundw
      case rel => exact ⟨k + 1, m + nq, by omega, by go_num, rfl⟩
      case measure => simp [intOf]; omega
    · obtain rfl : k = l.length := by omega
      go_wp2
      go_ret
      exact ⟨rfl, below_drewN (Below.refl _ _) _⟩
theorem row_ge {w : World} {base : Nat} {e : TypeId} {size : Nat} {v : Value} {n : Nat} {xs : List Value} (h : w.ownsRow base e size v n xs) : ∀ g, v.ownBlock = some g → base ≤ g := by
  intro g eg
  rcases h.2 with ⟨rfl, _⟩ | ⟨g', cap, cur, rfl, hb, _, _⟩
  · simp [Value.ownBlock] at eg
  · obtain rfl : g' = g := by simpa [Value.ownBlock] using eg
    exact hb

theorem IV_at (l : List Int) (j : Nat) (u : Value) (h : (IV l)[j]? = some u) : j < l.length ∧ u = .int .i64 (l.getD j 0) := by
  unfold IV at h
  rw [List.getElem?_map] at h
  rcases hx : l[j]? with _ | x
  · rw [hx] at h; cases h
  · rw [hx] at h
    have hj : j < l.length := by
      rcases Nat.lt_or_ge j l.length with h1 | h1
      · exact h1
      · rw [List.getElem?_eq_none h1] at hx; cases hx
    refine ⟨hj, ?_⟩
    have : u = .int .i64 x := by simpa using h.symm
    rw [this]
    simp [List.getD, hx]
theorem add_cell (b o j : Nat) : (⟨b, o, none⟩ : Addr).add j = ⟨b, o + j, none⟩ := by
  unfold Addr.add
  by_cases h : j = 0
  · subst h; rfl
  · simp [h]
/-- of an own slice: what reads, and what a nil one is -/
theorem RdI.of_own' {w : World} {base : Nat} {v : Value} {L : List Int} (h : OwnI w base v L) (hl : L.length ≤ 9223372036854775807) : ∃ A cap, v = .slice A L.length cap ∧ RdI w A L ∧ (A = none → L = [] ∧ cap = 0) := by
  rcases h.2 with ⟨rfl, h0⟩ | ⟨g, cap, cur, rfl, hbg, hh, hn, hc, hs, ht⟩
  · have e : L = [] := List.eq_nil_of_length_eq_zero h0
    subst e
    exact ⟨none, 0, rfl, ⟨by simp, fun j hj => by simp at hj⟩, fun _ => ⟨rfl, rfl⟩⟩
  · refine ⟨some ⟨g, 0, none⟩, cap, rfl, ⟨hl, fun j hj => ⟨g, 0, rfl, (h.lt g rfl).2, ?_⟩⟩, fun h => by cases h⟩
    rw [Nat.zero_add, World.ownsRow.cellAt h j (by omega)]
    unfold IV
    simp [hj]
theorem cell_newg (X : World) (c : Array Value) (T : TypeId) (j : Nat) : (X.alloc (.cells c T)).cell? ⟨X.heap.size, j, none⟩ = c[j]? := by
  have h := heap_alloc_new X (.cells c T)
  unfold World.cell?
  simp only []
  rw [h]
  rfl
theorem RdI.lit (X : World) (c : Array Value) (T : TypeId) (l : List Int) (h : c = (l.map (Value.int .i64)).toArray) (hl : l.length ≤ 9223372036854775807) : RdI (X.alloc (.cells c T)) (some ⟨X.heap.size, 0, none⟩) l :=
  ⟨hl, fun j hj => ⟨_, 0, rfl, by simp, by rw [Nat.zero_add, cell_newg, h]; simp [hj]⟩⟩
theorem RdI.lit1 (X : World) (c : Array Value) (T : TypeId) (l : List Int) (o : Obj) (h : c = (l.map (Value.int .i64)).toArray) (hl : l.length ≤ 9223372036854775807) : RdI ((X.alloc (.cells c T)).alloc o) (some ⟨X.heap.size, 0, none⟩) l := (RdI.lit X c T l h hl).ev ((Ev.refl _).alloc o)
theorem nil_own (w : World) (base : Nat) : OwnI w base (.slice none 0 0) [] := ⟨rfl, .inl ⟨rfl, rfl⟩⟩
theorem RdI.nil (w : World) : RdI w none [] := ⟨by simp, fun j hj => by simp at hj⟩
abbrev rd (s f w : Int) : Value := .agg #[.int .i64 s, .int .i64 f, .int .i64 w]
abbrev rdO (s f w : Int) : Obj := .cells #[.int .i64 s, .int .i64 f, .int .i64 w] 23
theorem isF_any (n : Int) (w : World) : Calls Tryd.prog 35 #[.int .i64 n] w fun e w' => e = .returned (.bool (inF n)) ∧ w = w' := by
  unfold inF
  by_cases h : 0 ≤ n
  · go_enter Tryd.func35, Tryd.ntmps35
    go_wp2
    all_goals (go_ret; exact ⟨ret_b (by simp [h]), rfl⟩)
  · go_enter Tryd.func35, Tryd.ntmps35
    go_wp2
    all_goals (go_ret; exact ⟨ret_b (by simp; omega), rfl⟩)
theorem risF_any (n : Int) (w : World) : Calls Tryd.prog 41 #[.int .i64 n] w fun e w' => e = .returned (.bool (inF n)) ∧ w = w' := by
  unfold inF
  by_cases h : 0 ≤ n
  · go_enter Tryd.func41, Tryd.ntmps41
    go_wp2
    all_goals (go_ret; exact ⟨ret_b (by simp [h]), rfl⟩)
  · go_enter Tryd.func41, Tryd.ntmps41
    go_wp2
    all_goals (go_ret; exact ⟨ret_b (by simp; omega), rfl⟩)
set_option maxRecDepth 100000 in
set_option maxHeartbeats 8000000 in
theorem fits_any (s f w : Int) (W : World) : Calls Tryd.prog 36 #[rd s f w] W fun e w' => e = .returned (.bool (fitsV s f w)) ∧ Ev W w' := by
  obtain ⟨b1, h1⟩ : ∃ b, (f == -1) = b := ⟨_, rfl⟩
  obtain ⟨b2, h2⟩ : ∃ b, (w == -1) = b := ⟨_, rfl⟩
  obtain ⟨b3, h3⟩ : ∃ b, (f != w) = b := ⟨_, rfl⟩
  have h1' : (f != -1) = !b1 := by rw [← h1]; rfl
  have h2' : (w != -1) = !b2 := by rw [← h2]; rfl
  have HV : Hid (fitsV s f w = if s = 1 ∨ s = 7 then b1 else if s = 2 then (!b1 && b3) else if s = 4 then (!b2 && b3) else if s = 8 then (b1 && b2) else (!b1 && b2)) := Lib.hid (by
    subst h1 h2 h3
    unfold fitsV
    split
    · rw [Bool.eq_iff_iff]; simp
    · split
      · rw [Bool.eq_iff_iff]; simp
      · split
        · rw [Bool.eq_iff_iff]; simp
        · split
          · rw [Bool.eq_iff_iff]; simp
          · rw [Bool.eq_iff_iff]; simp)
  rcases (show s = 1 ∨ s = 7 ∨ s = 2 ∨ s = 4 ∨ s = 8 ∨ (s ≠ 1 ∧ s ≠ 7 ∧ s ≠ 2 ∧ s ≠ 4 ∧ s ≠ 8) by omega) with rfl | rfl | rfl | rfl | rfl | ⟨s1, s7, s2, s4, s8⟩
  · go_enter Tryd.func36, Tryd.ntmps36
    go_wp2
    go_ret
    exact ⟨by rw [HV.out]; rfl, al1 _ _⟩
  · go_enter Tryd.func36, Tryd.ntmps36
    go_wp2
    go_ret
    exact ⟨by rw [HV.out]; rfl, al1 _ _⟩
  · cases b1
    all_goals
      go_enter Tryd.func36, Tryd.ntmps36
      go_wp2
      go_ret
      exact ⟨by rw [HV.out]; rfl, al1 _ _⟩
  · cases b2
    all_goals
      go_enter Tryd.func36, Tryd.ntmps36
      go_wp2
      go_ret
      exact ⟨by rw [HV.out]; rfl, al1 _ _⟩
  · cases b1
    all_goals
      go_enter Tryd.func36, Tryd.ntmps36
      go_wp2
      go_ret
      exact ⟨by rw [HV.out]; rfl, al1 _ _⟩
  · have HS : Hid (s ≠ 1 ∧ s ≠ 7 ∧ s ≠ 2 ∧ s ≠ 4 ∧ s ≠ 8) := Lib.hid ⟨s1, s7, s2, s4, s8⟩
    have e1 : (s == 1) = false := by simp [s1]
    have e7 : (s == 7) = false := by simp [s7]
    have e2 : (s == 2) = false := by simp [s2]
    have e4 : (s == 4) = false := by simp [s4]
    have e8 : (s == 8) = false := by simp [s8]
    clear s1 s7 s2 s4 s8
    cases b1
    all_goals
      go_enter Tryd.func36, Tryd.ntmps36
      go_wp2
      go_ret
      obtain ⟨s1, s7, s2, s4, s8⟩ := HS.out
      exact ⟨by rw [HV.out, if_neg (by omega), if_neg s2, if_neg s4, if_neg s8]; rfl, al1 _ _⟩
end Go.Proofs.YtfiglmbnjfgdlaaDoor
