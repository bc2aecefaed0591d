import Derived.Test.YtabojlbodjfphaaRB
import Derived.Test.YtabojlbodjfphaaSH
import Derived.RegionTactic
import Derived.ChangeAlike
import Derived.IntWalk
namespace Go.Proofs.Ytabojlbodjfphaa
open Go.RowKit
abbrev sl (f : Int) (u : Nat) : Value := .agg #[.int .i64 f, .int .u8 (u : Int)]
abbrev slO (f : Int) (u : Nat) : Obj := .cells #[.int .i64 f, .int .u8 (u : Int)] 23
def ckE (f : Int) : Int := if 0 ≤ f ∧ f < 256 then 0 else 2
theorem check_any (f : Int) (u : Nat) (w : World) : Calls Try.prog 12 #[sl f u] w fun e w' => e = .returned (.int .i64 (ckE f)) ∧ Ev w w' := by
  have hE := Lib.hid ((Ev.refl w).alloc (slO f u))
  unfold ckE
  by_cases h1 : f < 0
  · rw [if_neg (by omega)]
    go_enter Try.func12, Try.ntmps12
    go_wp2
    go_ret
    exact ⟨rfl, hE.out⟩
  · by_cases h2 : 256 ≤ f
    · rw [if_neg (by omega)]
      go_enter Try.func12, Try.ntmps12
      go_wp2
      go_ret
      exact ⟨rfl, hE.out⟩
    · rw [if_pos (by omega)]
      go_enter Try.func12, Try.ntmps12
      go_wp2
      go_ret
      exact ⟨rfl, hE.out⟩
theorem rcheck_any (f : Int) (u : Nat) (w : World) : Calls Try.prog 13 #[sl f u] w fun e w' => e = .returned (.int .i64 (ckE f)) ∧ Ev w w' := by
  have hE := Lib.hid ((Ev.refl w).alloc (slO f u))
  unfold ckE
  by_cases h1 : f < 0
  · rw [if_neg (by omega)]
    go_enter Try.func13, Try.ntmps13
    go_wp2
    go_ret
    exact ⟨rfl, hE.out⟩
  · by_cases h2 : 256 ≤ f
    · rw [if_neg (by omega)]
      go_enter Try.func13, Try.ntmps13
      go_wp2
      go_ret
      exact ⟨rfl, hE.out⟩
    · rw [if_pos (by omega)]
      go_enter Try.func13, Try.ntmps13
      go_wp2
      go_ret
      exact ⟨rfl, hE.out⟩
def stN (u : Nat) : Int := if u = 0 then 1 else if u = 255 then 3 else 2
theorem of_any (f : Int) (u : Nat) (w : World) : Calls Try.prog 37 #[sl f u] w fun e w' => e = .returned (.int .i64 (stN u)) ∧ Ev w w' := by
  have hE := Lib.hid ((Ev.refl w).alloc (slO f u))
  unfold stN
  by_cases h1 : u = 0
  · subst h1
    go_enter Try.func37, Try.ntmps37
    go_wp2
    go_ret
    exact ⟨rfl, hE.out⟩
  · by_cases h2 : u = 255
    · subst h2
      go_enter Try.func37, Try.ntmps37
      go_wp2
      go_ret
      exact ⟨rfl, hE.out⟩
    · rw [if_neg h1, if_neg h2]
      have e1 : ((u : Int) == 0) = false := by simp; omega
      have e2 : ((u : Int) == 255) = false := by simp; omega
      clear h1 h2
      go_enter Try.func37, Try.ntmps37
      go_wp2
      go_ret
      exact ⟨rfl, hE.out⟩
theorem number_any (f p : Int) (w : World) (h0 : 0 ≤ f) (h1 : f ≤ 256) (h2 : 0 ≤ p) (h3 : p < 9) : Calls Try.prog 40 #[.int .i64 f, .int .i64 p] w fun e w' => e = .returned (.int .i64 (f * 8 + p)) ∧ w = w' := by
  go_enter Try.func40, Try.ntmps40
  go_wp2
  go_ret
  exact ⟨rfl, rfl⟩
def spF (o : Int) : Int := if 0 ≤ o ∧ o < 2048 then o / 8 else 0
def spP (o : Int) : Int := if 0 ≤ o ∧ o < 2048 then o % 8 else 0
def spE (o : Int) : Int := if 0 ≤ o ∧ o < 2048 then 0 else 2
theorem split_any (o : Int) (w : World) : Calls Try.prog 24 #[.int .i64 o] w fun e w' => e = .returned (.tuple #[.int .i64 (spF o), .int .i64 (spP o), .int .i64 (spE o)]) ∧ w = w' := by
  unfold spF spP spE
  have N := Lib.hid fun W => number_any 256 0 W (by omega) (by omega) (by omega) (by omega)
  by_cases h1 : o < 0
  · have h : ¬ (0 ≤ o ∧ o < 2048) := by omega
    rw [if_neg h, if_neg h, if_neg h]
    clear h
    go_enter Try.func24, Try.ntmps24
    go_wp2
    go_ret3
    exact ⟨rfl, rfl⟩
  · by_cases h2 : 2048 ≤ o
    · have h : ¬ (0 ≤ o ∧ o < 2048) := by omega
      rw [if_neg h, if_neg h, if_neg h]
      clear h
      go_enter Try.func24, Try.ntmps24
      go_wp2_with fail
      refine (N.out _).mono ?_
      rintro e w' ⟨rfl, rfl⟩
      go_wp2
      go_ret3
      exact ⟨rfl, rfl⟩
    · have h : 0 ≤ o ∧ o < 2048 := by omega
      rw [if_pos h, if_pos h, if_pos h]
      have q1 : o.tdiv 8 = o / 8 := Int.tdiv_eq_ediv_of_nonneg h.1
      have q2 : o.tmod 8 = o % 8 := Int.tmod_eq_emod_of_nonneg h.1
      clear h
      go_enter Try.func24, Try.ntmps24
      go_wp2_with fail
      refine (N.out _).mono ?_
      rintro e w' ⟨rfl, rfl⟩
      go_wp2
      go_ret3
      exact ⟨ret_3 (by omega) (by omega) rfl, rfl⟩
theorem rsplit_any (o : Int) (w : World) : Calls Try.prog 25 #[.int .i64 o] w fun e w' => e = .returned (.tuple #[.int .i64 (spF o), .int .i64 (spP o), .int .i64 (spE o)]) ∧ w = w' := by
  unfold spF spP spE
  by_cases h : 0 ≤ o ∧ o < 2048
  · rw [if_pos h, if_pos h, if_pos h]
    have q1 : o.tdiv 8 = o / 8 := Int.tdiv_eq_ediv_of_nonneg h.1
    have q2 : o.tmod 8 = o % 8 := Int.tmod_eq_emod_of_nonneg h.1
    obtain ⟨h1, h2⟩ := h
    go_enter Try.func25, Try.ntmps25
    go_wp2
    all_goals first | (exfalso; omega) | (go_ret3; exact ⟨ret_3 (by omega) (by omega) rfl, rfl⟩)
  · rw [if_neg h, if_neg h, if_neg h]
    go_enter Try.func25, Try.ntmps25
    go_wp2
    all_goals first | (exfalso; omega) | (go_ret3; exact ⟨rfl, rfl⟩)
/-- a box with a slab -/
def BS (W : World) (k : Nat) (f : Int) (u : Nat) : Prop := k < W.heap.size ∧ W.cell? ⟨k, 0, none⟩ = some (.int .i64 f) ∧ W.cell? ⟨k, 1, none⟩ = some (.int .u8 (u : Int)) ∧ W.frozen? ⟨k, 0, none⟩ = false ∧ W.frozen? ⟨k, 1, none⟩ = false
theorem BS.new (w : World) (f : Int) (u : Nat) : BS (w.alloc (slO f u)) w.heap.size f u := ⟨by simp, by simp, by simp, by simp, by simp⟩
theorem BS.ev {w W : World} {k : Nat} {f : Int} {u : Nat} (h : BS w k f u) (e : Ev w W) : BS W k f u := by
  obtain ⟨h0, h1, h2, h3, h4⟩ := h
  obtain ⟨c, g⟩ := bc e
  exact ⟨Nat.lt_of_lt_of_le h0 e.sz, by rw [c _ _ h0, h1], by rw [c _ _ h0, h2], by rw [g _ _ h0, h3], by rw [g _ _ h0, h4]⟩
theorem Ev.setC {w W : World} (h : Ev w W) {p : Addr} (hp : w.heap.size ≤ p.block) (v : Value) : Ev w (W.setCell p v) := Below.setCell h hp v
theorem bs2 (w : World) (f g : Int) (u v : Nat) : BS ((w.alloc (slO f u)).alloc (slO g v)) w.heap.size f u ∧ BS ((w.alloc (slO f u)).alloc (slO g v)) (w.heap.size + 1) g v ∧ Ev w ((w.alloc (slO f u)).alloc (slO g v)) := by
  have s1 : (w.alloc (slO f u)).heap.size = w.heap.size + 1 := by simp
  refine ⟨(BS.new w f u).ev ((Ev.refl _).alloc _), ?_, ((Ev.refl _).alloc _).alloc _⟩
  have := BS.new (w.alloc (slO f u)) g v
  rwa [s1] at this
end Go.Proofs.Ytabojlbodjfphaa
