import Derived.Test.YtpgghbabhgfchaaA4
import Derived.RegionTactic
import Derived.ChangeAlike
namespace Go.Proofs.Ytpgghbabhgfchaa
open Go.RowKit Go.Shelf
/-- The slice at A reads as the spans l. -/
def RdP (w : World) (A : Option Addr) (l : List (Int × Int)) : Prop :=
  l.length ≤ 9223372036854775807 ∧ ∀ j, j < l.length → ∃ b o, A = some ⟨b, o, none⟩ ∧ b < w.heap.size ∧ w.cell? ⟨b, o + j * 2, none⟩ = some (.int .i64 (l.getD j (0, 0)).1) ∧ w.cell? ⟨b, o + j * 2 + 1, none⟩ = some (.int .i64 (l.getD j (0, 0)).2)
theorem RdP.ev {w w' : World} {A : Option Addr} {l : List (Int × Int)} (h : RdP w A l) (e : Ev w w') : RdP w' A l := ⟨h.1, fun j hj => by
  obtain ⟨b, o, h1, h2, h3, h4⟩ := h.2 j hj
  have := e.sz
  exact ⟨b, o, h1, by omega, by rw [e.cell (p := ⟨b, o + j * 2, none⟩) h2]; exact h3, by rw [e.cell (p := ⟨b, o + j * 2 + 1, none⟩) h2]; exact h4⟩⟩
set_option maxHeartbeats 400000 in
theorem sameP (A B : Option Addr) (c d : Nat) (l : List (Int × Int)) (w : World) (hx : RdP w A l) (hy : RdP w B l) :
    Calls Try.prog 21 #[.slice A l.length c, .slice B l.length d] w fun e w' => e = .returned (.bool true) ∧ Ev w w' := by
  have hn := hx.1
  have hq : ((l.length : Int) != (l.length : Int)) = false := by simp
  go_enter Try.func21, Try.ntmps21
  go_wp2
  go_loopw [5] (fun i wr => ∃ k m : Nat, k ≤ l.length ∧ i = .int .i64 k ∧ wr = w.drewN m) (fun i _ => l.length - (intOf i).toNat)
  case atStart => exact ⟨0, 0, Nat.zero_le _, rfl, rfl⟩
  case round =>
    obtain ⟨k, m, hk, rfl, rfl⟩ := hrel
    by_cases hlt : k < l.length
    · obtain ⟨b, o, rfl, hb, c1, d1⟩ := hx.2 k hlt
      obtain ⟨b', o', rfl, hb', c1', d1'⟩ := hy.2 k hlt
      generalize (l.getD k (0, 0)).1 = x at *
      generalize (l.getD k (0, 0)).2 = y at *
      have hlt' : (k : Int) < (l.length : Int) := by omega
      have hk0 : 0 ≤ (k : Int) := by omega
      clear hx hy
      go_wp2
      go_quiet (fail)
      go_wp2
      go_roundw
      case rel => exact ⟨k + 1, m + nq, by omega, by go_num, rfl⟩
      case measure => simp [intOf]; omega
    · obtain rfl : k = l.length := by omega
      go_wp2
      go_ret
      exact ⟨rfl, below_drewN (Below.refl _ _) _⟩
theorem RdP.of_own {w : World} {base : Nat} {v : Value} {L : List (Int × Int)} (h : OwnP w base v L) (hl : L.length ≤ 9223372036854775807) : ∃ A cap, v = .slice A L.length cap ∧ RdP w A L := by
  have hf : ∀ (L : List (Int × Int)) j, j < L.length → (flatS L)[j * 2]? = some (.int .i64 (L.getD j (0, 0)).1) ∧ (flatS L)[j * 2 + 1]? = some (.int .i64 (L.getD j (0, 0)).2) := by
    intro L
    induction L with
    | nil => intro j hj; simp at hj
    | cons x L ih =>
      obtain ⟨f, t⟩ := x
      intro j hj
      rcases j with _ | j
      · simp [flatS]
      · have := ih j (by simpa using hj)
        rw [show (j + 1) * 2 = j * 2 + 2 from by omega]
        simpa [flatS] using this
  rcases h.2 with ⟨rfl, h0⟩ | ⟨g, cap, cur, rfl, hbg, hh, hn, hc, hs, ht⟩
  · have e : L = [] := List.eq_nil_of_length_eq_zero h0
    subst e
    exact ⟨none, 0, rfl, by simp, fun j hj => by simp at hj⟩
  · refine ⟨some ⟨g, 0, none⟩, cap, rfl, hl, fun j hj => ⟨g, 0, rfl, (h.lt g rfl).2, ?_, ?_⟩⟩
    · rw [Nat.zero_add, World.ownsRow.cellAt h (j * 2) (by omega)]
      exact (hf L j hj).1
    · rw [Nat.zero_add, World.ownsRow.cellAt h (j * 2 + 1) (by omega)]
      exact (hf L j hj).2
theorem cell_new (X : World) (c : Array Value) (T : TypeId) (j : Nat) : (X.alloc (.cells c T)).cell? ⟨X.heap.size, j, none⟩ = c[j]? := by
  have h := heap_alloc_new X (.cells c T)
  unfold World.cell?
  simp only []
  rw [h]
  rfl
theorem flatS_get (L : List (Int × Int)) : ∀ j, j < L.length → (flatS L)[j * 2]? = some (.int .i64 (L.getD j (0, 0)).1) ∧ (flatS L)[j * 2 + 1]? = some (.int .i64 (L.getD j (0, 0)).2) := by
  induction L with
  | nil => intro j hj; simp at hj
  | cons x L ih =>
    obtain ⟨f, t⟩ := x
    intro j hj
    rcases j with _ | j
    · simp [flatS]
    · have := ih j (by simpa using hj)
      rw [show (j + 1) * 2 = j * 2 + 2 from by omega]
      simpa [flatS] using this
theorem RdP.lit (X : World) (c : Array Value) (T : TypeId) (l : List (Int × Int)) (h : c = (flatS l).toArray) (hl : l.length ≤ 9223372036854775807) : RdP (X.alloc (.cells c T)) (some ⟨X.heap.size, 0, none⟩) l :=
  ⟨hl, fun j hj => ⟨_, 0, rfl, by simp, by rw [Nat.zero_add, cell_new, h]; simpa using (flatS_get l j hj).1, by rw [Nat.zero_add, cell_new, h]; simpa using (flatS_get l j hj).2⟩⟩

theorem pc520 : pcF (upto (pgN 5) (20 - 5 + 1)) = [(5, 7), (8, 15), (16, 20)] := by decide +kernel
theorem same3 (w4 X W : World) (A : Option Addr) (c : Nat) (hr : RdP w4 A [(5, 7), (8, 15), (16, 20)]) (e : Ev w4 X) (hW : W = X.alloc (.cells #[.int .i64 5, .int .i64 7, .int .i64 8, .int .i64 15, .int .i64 16, .int .i64 20] 30)) :
    Calls Try.prog 21 #[.slice A 3 c, .slice (some ⟨X.heap.size, 0, none⟩) 3 3] W fun e w' => e = .returned (.bool true) ∧ Ev w4 w' := by
  subst hW
  have h := sameP A (some ⟨X.heap.size, 0, none⟩) c 3 [(5, 7), (8, 15), (16, 20)] _ (hr.ev (e.alloc _)) (RdP.lit X #[.int .i64 5, .int .i64 7, .int .i64 8, .int .i64 15, .int .i64 16, .int .i64 20] 30 _ rfl (by simp))
  exact h.mono fun _ _ hh => ⟨hh.1, (e.alloc _).step hh.2⟩
set_option maxHeartbeats 2000000 in
theorem awake_any (w : World) : Calls Try.prog 16 #[] w fun e w' => e = .returned (.bool true) ∧ Ev w w' := by
  have H1 : Hid (Calls Try.prog 8 #[.int .i64 13] w fun e w' => e = .returned (.tuple #[.int .i64 1, .int .i64 5, .int .i64 0]) ∧ w = w') := Lib.hid (leaf_any 13 w)
  have H2 : Hid (Calls Try.prog 17 #[rg 5 20] w fun e w' => ∃ A cap, e = .returned (.tuple #[.slice A 3 cap, .int .i64 0]) ∧ RdP w' A [(5, 7), (8, 15), (16, 20)] ∧ Ev w w') := Lib.hid <| (Pieces_ok 5 20 (by omega) (by omega) w).mono fun _ _ ⟨v, h1, h2, h3⟩ => by
    rw [pc520] at h2
    obtain ⟨A, cap, rfl, hr⟩ := RdP.of_own h2 (by simp)
    exact ⟨A, cap, h1, hr, h3⟩
  go_enter Try.func16, Try.ntmps16
  go_wp2_with fail
  refine H1.out.mono ?_
  rintro e w' ⟨rfl, rfl⟩
  go_wp2_with fail
  refine H2.out.mono ?_
  rintro e w2 ⟨A, cap, rfl, hr, hev⟩
  have HS := Lib.hid fun W => same3 w2 w2 W A cap hr (Ev.refl _)
  have HE := Lib.hid hev
  clear hr hev H1 H2
  go_wp2_with fail
  refine (HS.out _ rfl).mono ?_
  rintro e w3 ⟨rfl, hev⟩
  have HF := HE.out.step hev
  clear hev
  go_wp2_with fail
  go_ret
  exact ⟨rfl, HF⟩
end Go.Proofs.Ytpgghbabhgfchaa
