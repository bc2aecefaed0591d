import Derived.Test.YtkifcjjnpahdmaaDoorA6
namespace Go.Proofs.YtkifcjjnpahdmaaDoor
open Go.RowKit
open Go.Deep

/-- a slice that may be copied: nil has no capacity -/
def Nil0 (A : Option Addr) (cap : Nat) : Prop := A = none → cap = 0
/-- the slice lies in a block from B on -/
def From (B : Nat) (A : Option Addr) : Prop := ∀ a, A = some a → B ≤ a.block
theorem from_none (B : Nat) : From B none := fun a h => by cases h
theorem from_some {B g : Nat} (h : B ≤ g) : From B (some ⟨g, 0, none⟩) := fun a e => by rw [← Option.some.inj e]; exact h
theorem nil0_some {a : Addr} (c : Nat) : Nil0 (some a) c := fun e => by cases e
theorem Rd.setCell {w : World} {A : Option Addr} {ws : List Nat} (h : Rd w A ws) {p : Addr} (ha : ∀ a, A = some a → a.block ≠ p.block) (u : Value) : Rd (w.setCell p u) A ws :=
  ⟨h.1, h.2.1, fun j hj => by
    obtain ⟨b, o, rfl, hb, hc⟩ := h.2.2 j hj
    exact ⟨b, o, rfl, by simpa [World.setCell] using hb, by rw [World.cell?_setCell_other w p _ u (fun e => ha _ rfl (by rw [e]))]; exact hc⟩⟩
theorem Rd.of_row {w : World} {g cap : Nat} {ws : List Nat} {len : Nat} (f : Nat → Value) (h : w.rowIs g 61 cap f) (hl : ws.length ≤ cap) (hx : ∀ x ∈ ws, x < 18446744073709551616) (hb : ws.length ≤ 4000000000)
    (hf : ∀ j, j < ws.length → f j = .int .u64 (ws.getD j 0 : Nat)) : Rd w (some ⟨g, 0, none⟩) ws :=
  ⟨hx, hb, fun j hj => ⟨g, 0, rfl, h.lt, by rw [Nat.zero_add, ← hf j hj]; exact h.cell (by omega)⟩⟩
theorem getD_rep (n j : Nat) : (List.replicate n 0).getD j 0 = 0 := by
  rcases Nat.lt_or_ge j n with h | h
  · simp [h]
  · simp [h]

set_option maxHeartbeats 400000 in
theorem new_bad (n : Int) (w : World) (h : n < 0 ∨ 1024 < n) :
    Calls Tryd.prog 14 #[.int .i64 n] w fun e w' => e = .returned (.tuple #[.agg #[.int .i64 0, .slice none 0 0], .int .i64 2]) ∧ Below w.heap.size w w' := by
  rcases Int.lt_or_le n 0 with h0 | h0
  · clear h
    go_enter Tryd.func14, Tryd.ntmps14
    go_wp2
    exact bodyPost_ret (v := .tuple #[.agg #[.int .i64 0, .slice none 0 0], .int .i64 2]) (by simp [results, Tryd.results14, go_sem]) rfl ⟨rfl, (Below.refl _ _).alloc (Nat.le_refl _) _⟩
  · have h1 : 1024 < n := by omega
    clear h
    go_enter Tryd.func14, Tryd.ntmps14
    go_wp2
    exact bodyPost_ret (v := .tuple #[.agg #[.int .i64 0, .slice none 0 0], .int .i64 2]) (by simp [results, Tryd.results14, go_sem]) rfl ⟨rfl, (Below.refl _ _).alloc (Nat.le_refl _) _⟩
set_option maxHeartbeats 400000 in
theorem new_ok (n : Int) (w : World) (h0 : 0 ≤ n) (h1 : n ≤ 1024) :
    Calls Tryd.prog 14 #[.int .i64 n] w fun e w' => ∃ g, e = .returned (.tuple #[.agg #[.int .i64 n, .slice (some ⟨g, 0, none⟩) (nw n) (nw n)], .int .i64 0]) ∧ w.heap.size ≤ g ∧ Rd w' (some ⟨g, 0, none⟩) (List.replicate (nw n) 0) ∧ Below w.heap.size w w' := by
  go_enter Tryd.func14, Tryd.ntmps14
  go_wp2_with fail
  refine (empty_any _ _ (by omega) (by omega)).mono ?_
  rintro e w1 ⟨g, hg, rfl, hrow, hb⟩
  obtain ⟨hc1, hf1⟩ := bc hb
  have hs1 := bsz hb
  have hx0 : w1.cell? ⟨w.heap.size, 0, none⟩ = some (.int .i64 0) := by rw [hc1 _ _ (by simp)]; simp
  have hx1 : w1.cell? ⟨w.heap.size, 1, none⟩ = some (.slice none 0 0) := by rw [hc1 _ _ (by simp)]; simp
  have hz0 : w1.frozen? ⟨w.heap.size, 0, none⟩ = false := by rw [hf1 _ _ (by simp)]; simp
  have hz1 : w1.frozen? ⟨w.heap.size, 1, none⟩ = false := by rw [hf1 _ _ (by simp)]; simp
  clear hc1 hf1
  go_wp2
  have hgs : w.heap.size + 1 ≤ g := by simpa using hg
  refine bodyPost_ret (v := .tuple #[.agg #[.int .i64 n, .slice (some ⟨g, 0, none⟩) (nw n) (nw n)], .int .i64 0]) (by simp [results, Tryd.results14, go_sem, hx0, hx1]) rfl ⟨g, rfl, by omega, ?_, ?_⟩
  · refine Rd.of_row (len := 0) _ ((hrow.setOther (a := ⟨w.heap.size, 0, none⟩) (by simp; omega) _).setOther (a := ⟨w.heap.size, 1, none⟩) (by simp; omega) _) (by simp) (by simp) (by simp; unfold nw; omega) fun j _ => by rw [getD_rep]; rfl
  · exact ((((Below.refl _ _).alloc (Nat.le_refl _) _).trans (hb.mono (by simp))).setCell (by simp) _).setCell (by simp) _
/-- New's answer. -/
def newE (n : Int) : Int := if n < 0 ∨ 1024 < n then 2 else 0
def newN (n : Int) : Int := if n < 0 ∨ 1024 < n then 0 else n
def newW (n : Int) : List Nat := if n < 0 ∨ 1024 < n then [] else List.replicate (nw n) 0
/-- What is returned is a set and an error; nothing that was there has turned. -/
def RetS (w : World) (n : Int) (ws : List Nat) (er : Int) (e : Ending) (w' : World) : Prop :=
  ∃ A cap, e = .returned (.tuple #[.agg #[.int .i64 n, .slice A ws.length cap], .int .i64 er]) ∧ Nil0 A cap ∧ From w.heap.size A ∧ Rd w' A ws ∧ Below w.heap.size w w'
theorem new_any (n : Int) (w : World) : Calls Tryd.prog 14 #[.int .i64 n] w (RetS w (newN n) (newW n) (newE n)) := by
  unfold newE newN newW
  by_cases h : n < 0 ∨ 1024 < n
  · rw [if_pos h, if_pos h, if_pos h]
    exact (new_bad n w h).mono fun e w' ⟨he, hb⟩ => ⟨none, 0, he, fun _ => rfl, from_none _, Rd.zero, hb⟩
  · rw [if_neg h, if_neg h, if_neg h]
    exact (new_ok n w (by omega) (by omega)).mono fun e w' ⟨g, he, hg, hr, hb⟩ => ⟨some ⟨g, 0, none⟩, nw n, by rw [he]; simp, nil0_some _, from_some hg, hr, hb⟩
end Go.Proofs.YtkifcjjnpahdmaaDoor
