import Derived.Test.YtkifcjjnpahdmaaDoorF7
import Derived.Deep.CutRange
namespace Go.Proofs.YtkifcjjnpahdmaaDoor
open Go.RowKit
open Go.Deep

theorem Ev.alloc {w0 W : World} (h : Ev w0 W) (o : Obj) : Ev w0 (W.alloc o) := Below.alloc h (Below.size h) o
theorem Ev.set {w0 W : World} (h : Ev w0 W) {p : Addr} (hp : w0.heap.size ≤ p.block) (v : Value) : Ev w0 (W.setCell p v) := Below.setCell h hp v

/-- a box of two cells that may be written -/
def Bx (W : World) (b : Nat) (u v : Value) : Prop := W.cell? ⟨b, 0, none⟩ = some u ∧ W.cell? ⟨b, 1, none⟩ = some v ∧ W.frozen? ⟨b, 0, none⟩ = false ∧ W.frozen? ⟨b, 1, none⟩ = false ∧ b < W.heap.size
theorem Bx.below {W W' : World} {b : Nat} {u v : Value} (h : Bx W b u v) (hb : Below W.heap.size W W') : Bx W' b u v := by
  obtain ⟨h1, h2, h3, h4, h5⟩ := h
  obtain ⟨hc, hf⟩ := bc hb
  exact ⟨(hc _ _ h5).trans h1, (hc _ _ h5).trans h2, (hf _ _ h5).trans h3, (hf _ _ h5).trans h4, Nat.lt_of_lt_of_le h5 (bsz hb)⟩
theorem Bx.new (W : World) (u v : Value) (t : TypeId) : Bx (W.alloc (.cells #[u, v] t)) W.heap.size u v := ⟨by simp, by simp, by simp, by simp, by simp⟩
theorem Bx.alloc {W : World} {b : Nat} {u v : Value} (h : Bx W b u v) (o : Obj) : Bx (W.alloc o) b u v := h.below ((Below.refl _ _).alloc (Nat.le_refl _) o)
theorem one1 {X W' : World} {u v : Value} {t : TypeId} (h : Below (X.alloc (.cells #[u, v] t)).heap.size (X.alloc (.cells #[u, v] t)) W') : Bx W' X.heap.size u v := (Bx.new X u v t).below h
theorem two2 {X W' : World} {u v u' v' : Value} {t t' : TypeId} (h : Below ((X.alloc (.cells #[u, v] t)).alloc (.cells #[u', v'] t')).heap.size ((X.alloc (.cells #[u, v] t)).alloc (.cells #[u', v'] t')) W') : Bx W' X.heap.size u v ∧ Bx W' (X.heap.size + 1) u' v' :=
  ⟨((Bx.new X u v t).alloc _).below h, by have := (Bx.new (X.alloc (.cells #[u, v] t)) u' v' t').below h; simpa using this⟩
theorem one1d {X W' : World} {u v : Value} {t : TypeId} (h : Below (X.drew.alloc (.cells #[u, v] t)).heap.size (X.drew.alloc (.cells #[u, v] t)) W') : Bx W' X.heap.size u v ∧ X.heap.size + 1 ≤ W'.heap.size := ⟨one1 (X := X.drew) h, by have := bsz h; simpa using this⟩
theorem two2d {X W' : World} {u v u' v' : Value} {t t' : TypeId} (h : Below ((X.drew.alloc (.cells #[u, v] t)).alloc (.cells #[u', v'] t')).heap.size ((X.drew.alloc (.cells #[u, v] t)).alloc (.cells #[u', v'] t')) W') : (Bx W' X.heap.size u v ∧ Bx W' (X.heap.size + 1) u' v') ∧ X.heap.size + 2 ≤ W'.heap.size := ⟨two2 (X := X.drew) h, by have := bsz h; simpa using this⟩
theorem sz0 {X W' : World} (h : Below X.heap.size X W') : X.heap.size ≤ W'.heap.size := bsz h
theorem szA {X W' : World} {o : Obj} (h : Below (X.alloc o).heap.size (X.alloc o) W') : X.heap.size + 1 ≤ W'.heap.size := by have := bsz h; simpa using this
theorem szB {X W' : World} {o o' : Obj} (h : Below ((X.alloc o).alloc o').heap.size ((X.alloc o).alloc o') W') : X.heap.size + 2 ≤ W'.heap.size := by have := bsz h; simpa using this
theorem via0 {W W' : World} {b : Nat} {u v : Value} (h : Bx W b u v) (hb : Below W.heap.size W W') : Bx W' b u v := h.below hb
theorem via1 {W W' : World} {b : Nat} {u v : Value} {o : Obj} (h : Bx W b u v) (hb : Below (W.alloc o).heap.size (W.alloc o) W') : Bx W' b u v := (h.alloc o).below hb

theorem Rd.lt_or {W : World} {A : Option Addr} {ws : List Nat} (h : Rd W A ws) : ws = [] ∨ ∀ a, A = some a → a.block < W.heap.size := by
  rcases ws with _ | ⟨x, l⟩
  · exact .inl rfl
  · obtain ⟨b, o, hA, hb, _⟩ := h.2.2 0 (by simp)
    exact .inr fun a ha => by rw [hA] at ha; injection ha with ha; rw [← ha]; exact hb
theorem Rd.set' {W : World} {A : Option Addr} {ws : List Nat} (h : Rd W A ws) {p : Addr} (hp : ws = [] ∨ ∀ a, A = some a → a.block ≠ p.block) (v : Value) : Rd (W.setCell p v) A ws := by
  rcases hp with rfl | hp
  · exact ⟨h.1, h.2.1, fun k hk => by cases hk⟩
  · exact h.setCell hp v

set_option maxRecDepth 100000 in
set_option maxHeartbeats 4000000 in
theorem combs_small (n m : Int) (A B : Option Addr) (c d : Nat) (xs ys : List Nat) (op : Int) (w : World) (hx : Rd w A xs) (hy : Rd w B ys) (hnx : Nil0 A c) (hny : Nil0 B d) (hlx : xs.length ≤ 40) (hly : ys.length ≤ 40) (hT : Tab w) (hz0 : 0 < w.heap.size) :
    Calls Tryd.prog 5 #[.agg #[.int .i64 n, .slice A xs.length c], .agg #[.int .i64 m, .slice B ys.length d], .int .i64 op] w fun e w' => e = .returned (.bool true) ∧ Below w.heap.size w w' := by
  have hlq : ¬ (40 : Int) < (xs.length : Int) := by omega
  have hlq2 : ¬ (40 : Int) < (ys.length : Int) := by omega
  go_enter Tryd.func5, Tryd.ntmps5
  go_upto_region 3 with fail
  have E1 : Below (w.heap.size + 2) ((w.alloc (.cells #[.int .i64 n, .slice A xs.length c] 24)).alloc (.cells #[.int .i64 m, .slice B ys.length d] 24)) ((w.alloc (.cells #[.int .i64 n, .slice A xs.length c] 24)).alloc (.cells #[.int .i64 m, .slice B ys.length d] 24)) := Below.refl _ _
  obtain ⟨ax0, ax1, ay0, ay1, _, _⟩ := box22 E1
  have hbW : Below w.heap.size w ((w.alloc (.cells #[.int .i64 n, .slice A xs.length c] 24)).alloc (.cells #[.int .i64 m, .slice B ys.length d] 24)) := ((Below.refl _ _).alloc (Nat.le_refl _) _).alloc (by simp) _
  have hs2 : ((w.alloc (.cells #[.int .i64 n, .slice A xs.length c] 24)).alloc (.cells #[.int .i64 m, .slice B ys.length d] 24)).heap.size = w.heap.size + 2 := by simp
  clear E1
  generalize (w.alloc (.cells #[.int .i64 n, .slice A xs.length c] 24)).alloc (.cells #[.int .i64 m, .slice B ys.length d] 24) = w2 at *
  have hs2' : w.heap.size + 2 ≤ w2.heap.size := by omega
  clear hs2
  have hev : Ev w2 w2 := Ev.refl w2
  have N1 : ∀ W, Ev w2 W → Calls Tryd.prog 13 #[.agg #[.int .i64 n, .slice A xs.length c]] W fun e w' => ∃ A' cap', e = .returned (.agg #[.int .i64 n, .slice A' xs.length cap']) ∧ Nil0 A' cap' ∧ From W.heap.size A' ∧ Rd w' A' xs ∧ Below W.heap.size W w' ∧ Ev w2 w' := fun W h => (ownBits_any n A c xs W ((hx.below hbW).below h) (by omega) hnx).mono fun e w' ⟨A', c', he, h1, h2, h3, hb⟩ => ⟨A', c', he, h1, h2, h3, hb, Ev.step h hb⟩
  have N2 : ∀ W, Ev w2 W → Calls Tryd.prog 13 #[.agg #[.int .i64 m, .slice B ys.length d]] W fun e w' => ∃ A' cap', e = .returned (.agg #[.int .i64 m, .slice A' ys.length cap']) ∧ Nil0 A' cap' ∧ From W.heap.size A' ∧ Rd w' A' ys ∧ Below W.heap.size W w' ∧ Ev w2 w' := fun W h => (ownBits_any m B d ys W ((hy.below hbW).below h) (by omega) hny).mono fun e w' ⟨A', c', he, h1, h2, h3, hb⟩ => ⟨A', c', he, h1, h2, h3, hb, Ev.step h hb⟩
  have HY : Hid (∀ W, Ev w2 W → (W.cell? ⟨w.heap.size, 0, none⟩ = some (.int .i64 n) ∧ W.cell? ⟨w.heap.size, 1, none⟩ = some (.slice A xs.length c) ∧ W.cell? ⟨w.heap.size + 1, 0, none⟩ = some (.int .i64 m) ∧ W.cell? ⟨w.heap.size + 1, 1, none⟩ = some (.slice B ys.length d)) ∧ Ev w2 W) := Lib.hid fun W h => by
    obtain ⟨hc, _⟩ := bc h
    rw [hc _ _ (by omega), hc _ _ (by omega), hc _ _ (by omega), hc _ _ (by omega)]
    exact ⟨⟨ax0, ax1, ay0, ay1⟩, h⟩
  have HN1 := Lib.hid N1
  have HN2 := Lib.hid N2
  clear N1 N2 hlq hlq2 ax0 ax1 ay0 ay1
  go_cut [7, 8] from 24 to 27 (fun p7 p8 wx => ∃ b7 b8 A1 c1 A2 c2, p7 = .pointer (some ⟨b7, 0, none⟩) ∧ p8 = .pointer (some ⟨b8, 0, none⟩) ∧ Bx wx b7 (.int .i64 n) (.slice A1 xs.length c1) ∧ Bx wx b8 (.int .i64 m) (.slice A2 ys.length c2) ∧ Rd wx A1 xs ∧ Rd wx A2 ys ∧ Ev w2 wx)
  case first =>
    go_region_held3 (fun w' => (w'.cell? ⟨w.heap.size, 0, none⟩ = some (.int .i64 n) ∧ w'.cell? ⟨w.heap.size, 1, none⟩ = some (.slice A xs.length c) ∧ w'.cell? ⟨w.heap.size + 1, 0, none⟩ = some (.int .i64 m) ∧ w'.cell? ⟨w.heap.size + 1, 1, none⟩ = some (.slice B ys.length d)) ∧ Ev w2 w')
      (first | (refine HY.out _ ?_; repeat (first | assumption | refine Ev.drew ?_ | refine Ev.alloc ?_ _ | refine Ev.set ?_ (by simp <;> omega) _)))
      (first | (go_at_call 13; refine (HN1.out _ (by repeat (first | assumption | refine Ev.drew ?_ | refine Ev.alloc ?_ _))).mono ?_; rintro e w3 ⟨A1, c1, rfl, _, F1, R1, hb3, hev3⟩; clear HN1; have L1 := Rd.lt_or R1; (first | (have Q0 := two2d hb3; have Q := Q0.1; have s3 := Q0.2; clear Q0) | (have Q0 := one1d hb3; have Q := Q0.1; have s3 := Q0.2; clear Q0) | (have s3 := bsz hev3))) | (go_at_call 13; refine (HN2.out _ (by repeat (first | assumption | refine Ev.drew ?_ | refine Ev.alloc ?_ _))).mono ?_; rintro e w4 ⟨A2, c2, rfl, _, F2, R2, hb4, hev4⟩; have L2 := Rd.lt_or R2; (first | (have R3 := ((R1.alloc _).alloc _).below hb4) | (have R3 := (R1.alloc _).below hb4) | (have R3 := R1.below hb4)); (first | (have P := two2 hb4) | (have P := one1 hb4) | skip); (first | (have T := And.intro (via0 Q.1 hb4) (via0 Q.2 hb4)) | (have T := via0 Q hb4) | (have T := via1 Q hb4) | skip); (first | (have s4 := szB hb4) | (have s4 := szA hb4) | (have s4 := sz0 hb4)); (try obtain ⟨⟨_, _, _, _, _⟩, ⟨_, _, _, _, _⟩⟩ := P); (try obtain ⟨_, _, _, _, _⟩ := P); (try obtain ⟨⟨_, _, _, _, _⟩, ⟨_, _, _, _, _⟩⟩ := T); (try obtain ⟨_, _, _, _, _⟩ := T)))
    all_goals
      go_wp2_with fail
      go_meet
      have hdr : ∀ X : World, X.drew.heap.size = X.heap.size := fun _ => rfl
      refine ⟨_, _, A1, c1, A2, c2, rfl, rfl, ?_, ?_, ?_, ?_, ?_⟩
      · refine ⟨?_, ?_, ?_, ?_, ?_⟩ <;> first | (go_simp; done) | (go_simp; omega)
      · refine ⟨?_, ?_, ?_, ?_, ?_⟩ <;> first | (go_simp; done) | (go_simp; omega)
      · repeat (first | with_reducible exact R3 | with_reducible refine Rd.alloc ?_ _ | with_reducible refine Rd.set' ?_ ?_ _)
        all_goals (rcases L1 with h | h; exact .inl h; exact .inr fun a ha => by have h1 := h a ha; have h2 := F1 a ha; simp at h1 h2 ⊢; omega)
      · repeat (first | with_reducible exact R2 | with_reducible refine Rd.alloc ?_ _ | with_reducible refine Rd.set' ?_ ?_ _)
        all_goals (rcases L2 with h | h; exact .inl h; exact .inr fun a ha => by have h1 := h a ha; have h2 := F2 a ha; simp at h1 h2 ⊢; omega)
      · repeat (first | with_reducible exact hev4 | with_reducible refine Ev.drew ?_ | with_reducible refine Ev.alloc ?_ _ | with_reducible refine Ev.set ?_ ?_ _)
        all_goals (simp <;> omega)
  case rest =>
    obtain ⟨b7, b8, A1, c1, A2, c2, rfl, rfl, X7, X8, R1, R2, hevx⟩ := hcut
    clear HN1 HN2
    obtain ⟨x0, x1, g1, g2, lt7⟩ := X7
    obtain ⟨y0, y1, g3, g4, lt8⟩ := X8
    have HX7 := Lib.hid (show Bx wc b7 (.int .i64 n) (.slice A1 xs.length c1) from ⟨x0, x1, g1, g2, lt7⟩)
    have HX8 := Lib.hid (show Bx wc b8 (.int .i64 m) (.slice A2 ys.length c2) from ⟨y0, y1, g3, g4, lt8⟩)
    go_wp2_with fail
    refine (comb_any n m A1 A2 c1 c2 xs ys op _ R1 R2).mono ?_
    rintro e w5 ⟨A4, c4, rfl, _, _, R4, hb5⟩
    have hs5 := bsz hb5
    have ev5 := Ev.step hevx hb5
    obtain ⟨⟨a0, a1, a2, a3⟩, _⟩ := HY.out _ ev5
    have lw : w.heap.size < w5.heap.size := by have := bsz ev5; omega
    have lw1 : w.heap.size + 1 < w5.heap.size := by have := bsz ev5; omega
    generalize hnn : combN n m xs ys op = nn at *
    generalize hnws : combW n m xs ys op = nws at *
    generalize hce : combE n m xs ys op = ce at *
    have hr := fun W hx hy => rcomb_any n m A B c d xs ys op W hx hy
    rw [hnn, hnws, hce] at hr
    have HR := Lib.hid hr
    clear hnn hnws hce hr x0 x1 y0 y1
    go_wp2_with fail
    have ev5b := Ev.alloc ev5 (.cells #[.int .i64 nn, .slice A4 nws.length c4] 24)
    refine (HR.out _ ((hx.below hbW).below ev5b) ((hy.below hbW).below ev5b)).mono ?_
    rintro e w6 ⟨A5, c5, rfl, _, _, R5, hb6⟩
    have hs6 : w5.heap.size + 1 ≤ w6.heap.size := by have := bsz hb6; simpa using this
    have ev6 := Ev.step ev5b hb6
    clear a0 a1 a2 a3 HR
    have P5 := box2 (sz1 hb6)
    have P5a := P5.1
    have P5b := P5.2
    have lt5 : w5.heap.size < w6.heap.size := by omega
    clear P5
    go_wp2_with fail
    have B5 := box2 ((sz1 hb6).alloc hs6 (.cells #[.int .i64 nn, .slice A5 nws.length c5] 24))
    have B6 := box2 (refl1 w6 (.cells #[.int .i64 nn, .slice A5 nws.length c5] 24))
    have hs7 : w6.heap.size < (w6.alloc (.cells #[.int .i64 nn, .slice A5 nws.length c5] 24)).heap.size := by simp
    have ev7 := Ev.alloc ev6 (.cells #[.int .i64 nn, .slice A5 nws.length c5] 24)
    have hev57 : Ev wc (w6.alloc (.cells #[.int .i64 nn, .slice A5 nws.length c5] 24)) := ((hb5.alloc hs5 _).trans (hb6.mono (by simp; omega))).alloc (by omega) _
    have RX := ((R4.alloc (.cells #[.int .i64 nn, .slice A4 nws.length c4] 24)).below hb6).alloc (.cells #[.int .i64 nn, .slice A5 nws.length c5] 24)
    have RY := R5.alloc (.cells #[.int .i64 nn, .slice A5 nws.length c5] 24)
    have bx7 := HX7.out.below hev57
    have bx8 := HX8.out.below hev57
    clear hb6 hb5 P5a P5b
    generalize w6.alloc (.cells #[.int .i64 nn, .slice A5 nws.length c5] 24) = w0 at *
    obtain ⟨⟨a0, a1, a2, a3⟩, _⟩ := HY.out _ ev7
    have l70 := bx7.2.2.2.2
    have l80 := bx8.2.2.2.2
    have s20 := bsz ev7
    have FX : ∀ W, Ev w0 W → W.cell? ⟨w.heap.size, 0, none⟩ = some (.int .i64 n) ∧ W.cell? ⟨w.heap.size, 1, none⟩ = some (.slice A xs.length c) ∧ W.cell? ⟨w.heap.size + 1, 0, none⟩ = some (.int .i64 m) ∧ W.cell? ⟨w.heap.size + 1, 1, none⟩ = some (.slice B ys.length d) ∧ W.cell? ⟨b7, 0, none⟩ = some (.int .i64 n) ∧ W.cell? ⟨b7, 1, none⟩ = some (.slice A1 xs.length c1) ∧ W.cell? ⟨b8, 0, none⟩ = some (.int .i64 m) ∧ W.cell? ⟨b8, 1, none⟩ = some (.slice A2 ys.length c2) := by
      intro W h
      obtain ⟨hc, _⟩ := bc h
      rw [hc _ _ (by omega), hc _ _ (by omega), hc _ _ (by omega), hc _ _ (by omega), hc _ _ l70, hc _ _ l70, hc _ _ l80, hc _ _ l80]
      exact ⟨a0, a1, a2, a3, bx7.1, bx7.2.1, bx8.1, bx8.2.1⟩
    have hbF : Below w.heap.size w w0 := hbW.trans (Below.mono ev7 (by omega))
    have RA := hx.below hbF
    have RB := hy.below hbF
    have R1' := R1.below hev57
    have R2' := R2.below hev57
    have hT0 := hT.below hz0 hbF
    have C16 : ∀ W, Ev w0 W → Calls Tryd.prog 16 #[.agg #[.int .i64 nn, .slice A4 nws.length c4], .agg #[.int .i64 nn, .slice A5 nws.length c5]] W fun e w' => e = .returned (.bool true) ∧ Ev w0 w' := fun W h => by
      have q := sameB_any nn nn A4 A5 c4 c5 nws nws W (RX.below h) (RY.below h)
      rw [decide_eq_true ⟨rfl, rfl⟩] at q
      exact ev_call h q
    have C16b : ∀ W, Ev w0 W → Calls Tryd.prog 16 #[.agg #[.int .i64 n, .slice A1 xs.length c1], .agg #[.int .i64 n, .slice A xs.length c]] W fun e w' => e = .returned (.bool true) ∧ Ev w0 w' := fun W h => by
      have q := sameB_any n n A1 A c1 c xs xs W (R1'.below h) (RA.below h)
      rw [decide_eq_true ⟨rfl, rfl⟩] at q
      exact ev_call h q
    have C16c : ∀ W, Ev w0 W → Calls Tryd.prog 16 #[.agg #[.int .i64 m, .slice A2 ys.length c2], .agg #[.int .i64 m, .slice B ys.length d]] W fun e w' => e = .returned (.bool true) ∧ Ev w0 w' := fun W h => by
      have q := sameB_any m m A2 B c2 d ys ys W (R2'.below h) (RB.below h)
      rw [decide_eq_true ⟨rfl, rfl⟩] at q
      exact ev_call h q
    have C12 : ∀ W, Ev w0 W → Calls Tryd.prog 12 #[] W fun e w' => e = .returned (.bool true) ∧ Ev w0 w' := fun W h => ev_call h (awake_any W (hT0.below (by omega) h) (Nat.lt_of_lt_of_le (by omega) (Below.size h)))
    have HFX := Lib.hid FX
    have H16 := Lib.hid C16
    have H16b := Lib.hid C16b
    have H16c := Lib.hid C16c
    have H12 := Lib.hid C12
    have hbWH := Lib.hid hbF
    have hev0 := Ev.refl w0
    clear FX C16 C16b C16c C12 hbF RA RB R1' R2' RX RY R1 R2 R4 R5 hT0 bx7 bx8 B5 B6 a0 a1 a2 a3 ev7 ev6 ev5 ev5b hev57 HY hevx
    refine (H16.out _ hev0).mono ?_
    rintro e W2 ⟨rfl, hv2⟩
    obtain ⟨_, _, _, _, _, _, _, _⟩ := HFX.out _ hv2
    go_wp2_with fail
    refine (H16b.out _ hv2).mono ?_
    rintro e W3 ⟨rfl, hv3⟩
    obtain ⟨_, _, _, _, _, _, _, _⟩ := HFX.out _ hv3
    go_wp2_with fail
    refine (H16c.out _ hv3).mono ?_
    rintro e W6 ⟨rfl, hv6⟩
    go_wp2_with fail
    refine (H12.out _ hv6).mono ?_
    rintro e W7 ⟨rfl, hv7⟩
    go_wp2
    go_ret
    exact ⟨rfl, hbWH.out.trans (Below.mono hv7 (Below.size hbWH.out))⟩
end Go.Proofs.YtkifcjjnpahdmaaDoor
