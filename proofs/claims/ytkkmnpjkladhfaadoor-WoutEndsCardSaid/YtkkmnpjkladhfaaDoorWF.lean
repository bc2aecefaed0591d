import Derived.Test.YtkkmnpjkladhfaaDoorWD
namespace Go.Proofs.YtkkmnpjkladhfaaDoor
open Go.RowKit

/-- the variable 'claim' lies in its place -/
def Tab (w : World) : Prop := w.cell? ⟨0, 0, none⟩ = some (.int .i64 4) ∧ w.cell? ⟨0, 1, none⟩ = some (.int .i64 3)
theorem Tab.ev {w w' : World} (h : Tab w) (h0 : 0 < w.heap.size) (e : Ev w w') : Tab w' := by
  obtain ⟨c, _⟩ := bc e
  exact ⟨(c _ _ h0).trans h.1, (c _ _ h0).trans h.2⟩
theorem rd2 (X : World) (a b c d : Int) : RdE (X.alloc (.cells #[.int .i64 a, .int .i64 b, .int .i64 c, .int .i64 d] 25)) (some ⟨X.heap.size, 0, none⟩) [(a, b), (c, d)] := by
  refine ⟨by simp, fun j hj => ⟨_, 0, rfl, by simp, ?_⟩⟩
  rcases (show j = 0 ∨ j = 1 by simp at hj; omega) with rfl | rfl <;> simp
theorem rd3 (X : World) (a b c d e f : Int) : RdE (X.alloc (.cells #[.int .i64 a, .int .i64 b, .int .i64 c, .int .i64 d, .int .i64 e, .int .i64 f] 25)) (some ⟨X.heap.size, 0, none⟩) [(a, b), (c, d), (e, f)] := by
  refine ⟨by simp, fun j hj => ⟨_, 0, rfl, by simp, ?_⟩⟩
  rcases (show j = 0 ∨ j = 1 ∨ j = 2 by simp at hj; omega) with rfl | rfl | rfl <;> simp
theorem runs2 (w0 X W : World) (e : Ev w0 X) (hW : W = X.alloc (.cells #[.int .i64 3, .int .i64 0, .int .i64 6, .int .i64 0] 25)) : Calls Tryd.prog 28 #[.int .i64 2, .slice (some ⟨X.heap.size, 0, none⟩) 2 2] W fun e w' => e = .returned (.tuple #[wt 4 2 0, .int .i64 2, .int .i64 0]) ∧ Ev w0 w' := by
  subst hW
  exact evN (e.alloc _) (lrun_any 2 _ 2 [(3, 0), (6, 0)] _ (rd2 X 3 0 6 0) (by omega) (by omega))
theorem runs3 (w0 X W : World) (e : Ev w0 X) (hW : W = X.alloc (.cells #[.int .i64 3, .int .i64 0, .int .i64 4, .int .i64 3, .int .i64 6, .int .i64 0] 25)) : Calls Tryd.prog 28 #[.int .i64 2, .slice (some ⟨X.heap.size, 0, none⟩) 3 3] W fun e w' => e = .returned (.tuple #[wt 5 1 0, .int .i64 3, .int .i64 0]) ∧ Ev w0 w' := by
  subst hW
  exact evN (e.alloc _) (lrun_any 2 _ 3 [(3, 0), (4, 3), (6, 0)] _ (rd3 X 3 0 4 3 6 0) (by omega) (by omega))
theorem runs3b (w0 X W : World) (e : Ev w0 X) (hW : W = (X.alloc (.cells #[.int .i64 3, .int .i64 0, .int .i64 4, .int .i64 3, .int .i64 6, .int .i64 0] 25)).alloc (.cells #[.int .i64 0, .int .i64 0, .int .i64 0] 23)) :
    Calls Tryd.prog 28 #[.int .i64 2, .slice (some ⟨X.heap.size, 0, none⟩) 3 3] W fun e w' => e = .returned (.tuple #[wt 5 1 0, .int .i64 3, .int .i64 0]) ∧ Ev w0 w' ∧ Bx3 w' (X.heap.size + 1) 0 0 0 ∧ w0.heap.size ≤ X.heap.size + 1 ∧ X.heap.size + 1 < w'.heap.size := by
  subst hW
  have hx := Bx3.new (X.alloc (.cells #[.int .i64 3, .int .i64 0, .int .i64 4, .int .i64 3, .int .i64 6, .int .i64 0] 25)) 0 0 0 23
  simp only [World.size_alloc] at hx
  refine (lrun_any 2 _ 3 [(3, 0), (4, 3), (6, 0)] _ ((rd3 X 3 0 4 3 6 0).ev ((Ev.refl _).alloc _)) (by omega) (by omega)).mono fun e' w' hh => ⟨hh.1, ((e.alloc _).alloc _).step hh.2, hx.ev (by simp) hh.2, ?_, ?_⟩
  · have := Below.size e
    omega
  · have := Below.size hh.2
    simp at this
    omega
theorem rd3b (X : World) (o : Obj) : RdE ((X.alloc o).alloc (.cells #[.int .i64 3, .int .i64 0, .int .i64 4, .int .i64 3, .int .i64 6, .int .i64 0] 25)) (some ⟨X.heap.size + 1, 0, none⟩) [(3, 0), (4, 3), (6, 0)] := by
  have h := rd3 (X.alloc o) 3 0 4 3 6 0
  rwa [World.size_alloc] at h
theorem drew_sz (X : World) : X.drew.heap.size = X.heap.size := rfl
/-- what a call leaves of a box that was laid before -/
def KeepB (w0 W w' : World) : Prop := ∀ b, w0.heap.size ≤ b → b < W.heap.size → Bx3 W b 0 0 0 → Bx3 w' b 0 0 0 ∧ w0.heap.size ≤ b ∧ b < w'.heap.size
theorem keepB {w0 W w' : World} (e : Ev W w') : KeepB w0 W w' := fun b h1 h2 h3 => ⟨h3.ev h2 e, h1, by have := Below.size e; omega⟩
theorem newB (w0 X : World) (e : Ev w0 X) (w' : World) (h : KeepB w0 (X.alloc (.cells #[.int .i64 0, .int .i64 0, .int .i64 0] 23)) w') : Bx3 w' X.heap.size 0 0 0 ∧ w0.heap.size ≤ X.heap.size ∧ X.heap.size < w'.heap.size :=
  h _ (Below.size e) (by simp) (Bx3.new _ _ _ _ _)
theorem newB2 (w0 X : World) (o : Obj) (e : Ev w0 X) (w' : World) (h : KeepB w0 ((X.alloc (.cells #[.int .i64 0, .int .i64 0, .int .i64 0] 23)).alloc o) w') : Bx3 w' X.heap.size 0 0 0 ∧ w0.heap.size ≤ X.heap.size ∧ X.heap.size < w'.heap.size :=
  h _ (Below.size e) (by simp; omega) ((Bx3.new _ _ _ _ _).ev (by simp) ((Ev.refl _).alloc _))
theorem oldB (w0 a W w' : World) (b : Nat) (q : Bx3 a b 0 0 0 ∧ w0.heap.size ≤ b ∧ b < a.heap.size) (e : Ev a W) (h : KeepB w0 W w') : Bx3 w' b 0 0 0 ∧ w0.heap.size ≤ b ∧ b < w'.heap.size :=
  h b q.2.1 (Nat.lt_of_lt_of_le q.2.2 (Below.size e)) (q.1.ev q.2.2 e)
theorem runsG (w0 W : World) (g : Nat) (e : Ev w0 W) (hr : RdE W (some ⟨g, 0, none⟩) [(3, 0), (4, 3), (6, 0)]) :
    Calls Tryd.prog 28 #[.int .i64 2, .slice (some ⟨g, 0, none⟩) 3 3] W fun e w' => e = .returned (.tuple #[wt 5 1 0, .int .i64 3, .int .i64 0]) ∧ Ev w0 w' ∧ KeepB w0 W w' :=
  (lrun_any 2 _ 3 [(3, 0), (4, 3), (6, 0)] W hr (by omega) (by omega)).mono fun _ _ hh => ⟨hh.1, e.step hh.2, keepB hh.2⟩
theorem setB (w0 W : World) (b : Nat) (h : Bx3 W b 0 0 0) (hle : w0.heap.size ≤ b) (e : Ev w0 W) : ∃ Z, Z = (((W.setCell ⟨b, 0, none⟩ (.int .i64 5)).setCell ⟨b, 1, none⟩ (.int .i64 1)).setCell ⟨b, 2, none⟩ (.int .i64 0)) ∧ Bx3 Z b 5 1 0 ∧ Ev w0 Z :=
  ⟨_, rfl, h.setC 5 1 0, ((e.setC (by simp only []; omega) _).setC (by simp only []; omega) _).setC (by simp only []; omega) _⟩
theorem allocB (w0 W : World) (e : Ev w0 W) : ∃ Z, Z = W.alloc (.cells #[.int .i64 5, .int .i64 1, .int .i64 0] 23) ∧ Bx3 Z W.heap.size 5 1 0 ∧ Ev w0 Z :=
  ⟨_, rfl, Bx3.new _ _ _ _ _, e.alloc _⟩
set_option maxHeartbeats 10000000 in
theorem awake_any (w : World) (hT : Tab w) (h0 : 0 < w.heap.size) : Calls Tryd.prog 17 #[] w fun e w' => e = .returned (.bool true) ∧ Ev w w' := by
  have H1 : Hid (∀ k W, Ev w W → Calls Tryd.prog 29 #[.int .i64 k] W fun e w' => e = .returned (ev k 0) ∧ Ev w w') := Lib.hid fun k W e => evN e (ev_any k W)
  have H2 := Lib.hid (runs2 w)
  have H3 := Lib.hid (runs3 w)
  have HT : Hid (∀ W, Ev w W → Tab W ∧ Ev w W) := Lib.hid fun W e => ⟨hT.ev h0 e, e⟩
  clear hT
  go_enter Tryd.func17, Tryd.ntmps17
  go_wp2_with fail
  refine (H1.out _ _ (Ev.refl _)).mono ?_
  rintro e w1 ⟨rfl, hev⟩
  go_wp2_with fail
  refine (H1.out _ _ hev).mono ?_
  clear hev
  rintro e w2' ⟨rfl, hev⟩
  go_wp2_with fail
  refine (H2.out _ _ hev rfl).mono ?_
  clear hev
  rintro e w3' ⟨rfl, hev⟩
  go_wp2_with fail
  clear H1 H2 H3
  have hb : Bx3 (w3'.alloc (.cells #[.int .i64 4, .int .i64 2, .int .i64 0] 23)) w3'.heap.size 4 2 0 := Bx3.new _ _ _ _ _
  have hzz : w3'.heap.size < (w3'.alloc (.cells #[.int .i64 4, .int .i64 2, .int .i64 0] 23)).heap.size := by simp
  have hev4 := hev.alloc (.cells #[.int .i64 4, .int .i64 2, .int .i64 0] 23)
  generalize w3'.alloc (.cells #[.int .i64 4, .int .i64 2, .int .i64 0] 23) = w4 at *
  have HS : Hid (∀ W, Ev w4 W → ((W.cell? ⟨0, 0, none⟩ = some (.int .i64 4) ∧ W.cell? ⟨0, 1, none⟩ = some (.int .i64 3)) ∧ W.cell? ⟨w3'.heap.size, 0, none⟩ = some (.int .i64 4) ∧ W.cell? ⟨w3'.heap.size, 1, none⟩ = some (.int .i64 2) ∧ W.cell? ⟨w3'.heap.size, 2, none⟩ = some (.int .i64 0)) ∧ Ev w4 W) := Lib.hid fun W e =>
    ⟨⟨(HT.out _ (hev4.step e)).1, (hb.ev hzz e).1⟩, e⟩
  have H1 : Hid (∀ k W, Ev w4 W → Calls Tryd.prog 29 #[.int .i64 k] W fun e w' => e = .returned (ev k 0) ∧ Ev w4 w' ∧ KeepB w4 W w') := Lib.hid fun k W e => (ev_any k W).mono fun _ _ hh => ⟨hh.1, e.step hh.2, keepB hh.2⟩
  have H3 := Lib.hid (runsG w4)
  have HE := Lib.hid hev4
  clear hev hb hzz hev4 HT
  have hev := Ev.refl w4
  go_region_held3 (fun w' => ((w'.cell? ⟨0, 0, none⟩ = some (.int .i64 4) ∧ w'.cell? ⟨0, 1, none⟩ = some (.int .i64 3)) ∧ w'.cell? ⟨w3'.heap.size, 0, none⟩ = some (.int .i64 4) ∧ w'.cell? ⟨w3'.heap.size, 1, none⟩ = some (.int .i64 2) ∧ w'.cell? ⟨w3'.heap.size, 2, none⟩ = some (.int .i64 0)) ∧ Ev w4 w')
    (first | (refine HS.out _ ?_; repeat (first | (with_reducible assumption) | (with_reducible refine Ev.drew ?_) | (with_reducible refine Ev.alloc ?_ _) | (with_reducible refine Ev.setC ?_ (by first | (with_reducible assumption) | (simp only []; with_reducible assumption) | (have := Ev.sz hev; simp <;> omega)) _))))
    (first | (go_at_call 29; refine (H1.out _ _ (by repeat (first | (with_reducible assumption) | (with_reducible refine Ev.drew ?_) | (with_reducible refine Ev.alloc ?_ _)))).mono ?_; rintro e w' ⟨rfl, hev2, hk⟩; (first | (with_reducible have Q := Lib.hid (newB _ _ (by repeat (first | (with_reducible assumption) | (with_reducible refine Ev.drew ?_) | (with_reducible refine Ev.alloc ?_ _))) _ hk)) | (with_reducible have Q := Lib.hid (newB2 _ _ _ (by repeat (first | (with_reducible assumption) | (with_reducible refine Ev.drew ?_) | (with_reducible refine Ev.alloc ?_ _))) _ hk)) | (with_reducible have Q := Lib.hid (oldB _ _ _ _ _ Q.out (by repeat (first | (with_reducible exact Ev.refl _) | (with_reducible refine Ev.drew ?_) | (with_reducible refine Ev.alloc ?_ _))) hk)) | skip); clear hk; (try (obtain ⟨⟨⟨n0, n1, n2⟩, m0, m1, m2⟩, hle, hlt⟩ := Q.out; (try simp only [World.size_alloc, drew_sz] at n0 n1 n2 m0 m1 m2 hle hlt))); clear hev; have hev := hev2; clear hev2) | (go_at_call 28; refine (H3.out _ _ (by repeat (first | (with_reducible assumption) | (with_reducible refine Ev.drew ?_) | (with_reducible refine Ev.alloc ?_ _))) (by first | (with_reducible exact rd3 _ _ _ _ _ _ _) | (with_reducible exact rd3b _ _) | (with_reducible exact (rd3 _ _ _ _ _ _ _).ev ((Ev.refl _).alloc _)))).mono ?_; rintro e w' ⟨rfl, hev2, hk⟩; (first | (with_reducible have Q := Lib.hid (newB _ _ (by repeat (first | (with_reducible assumption) | (with_reducible refine Ev.drew ?_) | (with_reducible refine Ev.alloc ?_ _))) _ hk)) | (with_reducible have Q := Lib.hid (newB2 _ _ _ (by repeat (first | (with_reducible assumption) | (with_reducible refine Ev.drew ?_) | (with_reducible refine Ev.alloc ?_ _))) _ hk)) | (with_reducible have Q := Lib.hid (oldB _ _ _ _ _ Q.out (by repeat (first | (with_reducible exact Ev.refl _) | (with_reducible refine Ev.drew ?_) | (with_reducible refine Ev.alloc ?_ _))) hk)) | skip); clear hk; (try (obtain ⟨⟨⟨n0, n1, n2⟩, m0, m1, m2⟩, hle, hlt⟩ := Q.out; (try simp only [World.size_alloc, drew_sz] at n0 n1 n2 m0 m1 m2 hle hlt))); clear hev; have hev := hev2; clear hev2))
  all_goals
    first
      | (have P := setB w4 _ _ ⟨⟨n0, n1, n2⟩, m0, m1, m2⟩ hle hev)
      | (have P := allocB w4 _ hev)
    obtain ⟨Z, hZ, ⟨⟨y0, y1, y2⟩, -⟩, hz⟩ := P
    obtain ⟨⟨-, a0, a1, a2⟩, -⟩ := HS.out _ hz
    rw [← hZ]
    clear hZ hev
    go_wp2_with fail
    go_ret
    exact ⟨rfl, HE.out.step hz⟩
end Go.Proofs.YtkkmnpjkladhfaaDoor
