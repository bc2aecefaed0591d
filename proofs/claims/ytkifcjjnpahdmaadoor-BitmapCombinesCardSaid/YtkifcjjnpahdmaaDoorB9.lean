import Derived.Test.YtkifcjjnpahdmaaDoorB8
namespace Go.Proofs.YtkifcjjnpahdmaaDoor
open Go.RowKit
open Go.Deep

/-- W is w0 with new blocks alone -/
def Ev (w0 W : World) : Prop := Below w0.heap.size w0 W
theorem Ev.refl (w0 : World) : Ev w0 w0 := Below.refl _ _
theorem Ev.drew {w0 W : World} (h : Ev w0 W) : Ev w0 W.drew := Below.drew h
theorem Ev.step {w0 W W' : World} (h : Ev w0 W) (hb : Below W.heap.size W W') : Ev w0 W' := Below.trans h (hb.mono (Below.size h))
theorem ev_call {P : Program} {f : FuncId} {args : Array Value} {w0 W : World} {v : Value} (h : Ev w0 W) (c : Calls P f args W fun e w' => e = .returned v ∧ Below W.heap.size W w') :
    Calls P f args W fun e w' => e = .returned v ∧ Ev w0 w' := c.mono fun _ _ hh => ⟨hh.1, h.step hh.2⟩

/-- on through a new block and a call -/
theorem nxt {B : Nat} {W a b : World} {o : Obj} (h : Below B W a) (hB : B ≤ a.heap.size) (hb : Below (a.alloc o).heap.size (a.alloc o) b) : Below B W b :=
  (h.alloc hB o).trans (hb.mono (by simp; omega))
theorem box2 {a W : World} {u v : Value} {t : TypeId} (h : Below (a.heap.size + 1) (a.alloc (.cells #[u, v] t)) W) : W.cell? ⟨a.heap.size, 0, none⟩ = some u ∧ W.cell? ⟨a.heap.size, 1, none⟩ = some v :=
  ⟨(h.cell (p := ⟨a.heap.size, 0, none⟩) (by simp only []; omega)).trans (by simp), (h.cell (p := ⟨a.heap.size, 1, none⟩) (by simp only []; omega)).trans (by simp)⟩
theorem sz1 {a b : World} {o : Obj} (h : Below (a.alloc o).heap.size (a.alloc o) b) : Below (a.heap.size + 1) (a.alloc o) b := by simpa using h
theorem refl1 (a : World) (o : Obj) : Below (a.heap.size + 1) (a.alloc o) (a.alloc o) := Below.refl _ _

set_option maxHeartbeats 400000 in
theorem checks_big (n : Int) (A : Option Addr) (cap len : Nat) (f t : Int) (inn : Bool) (w : World) (hl : 40 < len) (hlm : len ≤ 9223372036854775807) (hT : Tab w) (hz0 : 0 < w.heap.size) :
    Calls Tryd.prog 3 #[.agg #[.int .i64 n, .slice A len cap], .int .i64 f, .int .i64 t, .bool inn] w fun e w' => e = .returned (.bool true) ∧ Below w.heap.size w w' := by
  have hc := awake_any _ (hT.alloc hz0 (.cells #[.int .i64 n, .slice A len cap] 24)) (by simp)
  have HC := Lib.hid hc
  have hl' : (40 : Int) < (len : Int) := by omega
  clear hc
  go_enter Tryd.func3, Tryd.ntmps3
  go_wp2_with fail
  refine HC.out.mono ?_
  rintro e w1 ⟨rfl, hb⟩
  go_wp2
  go_ret
  exact ⟨rfl, ((Below.refl _ _).alloc (Nat.le_refl _) _).trans (hb.mono (by simp))⟩

set_option maxRecDepth 100000 in
set_option maxHeartbeats 1000000 in
theorem checks_small (n : Int) (A : Option Addr) (cap : Nat) (ws : List Nat) (f t : Int) (inn : Bool) (w : World) (hr : Rd w A ws) (hnil : Nil0 A cap) (hl : ws.length ≤ 40) (hT : Tab w) (hz0 : 0 < w.heap.size) :
    Calls Tryd.prog 3 #[.agg #[.int .i64 n, .slice A ws.length cap], .int .i64 f, .int .i64 t, .bool inn] w fun e w' => e = .returned (.bool true) ∧ Below w.heap.size w w' := by
  have hr0 := hr.alloc (.cells #[.int .i64 n, .slice A ws.length cap] 24)
  have hc := ownBits_any n A cap ws _ hr0 (by omega) hnil
  have HC := Lib.hid hc
  have hlq : ¬ (40 : Int) < (ws.length : Int) := by omega
  clear hc
  go_enter Tryd.func3, Tryd.ntmps3
  go_wp2_with fail
  refine HC.out.mono ?_
  rintro e w1 ⟨A1, c1, rfl, _, hF1, hR1, hb1⟩
  clear HC
  have hs1 : w.heap.size + 1 ≤ w1.heap.size := by have := bsz hb1; simpa using this
  have E1 : Below (w.heap.size + 1) (w.alloc (.cells #[.int .i64 n, .slice A ws.length cap] 24)) w1 := by simpa using hb1
  clear hb1
  go_wp2_with fail
  refine (new_any f _).mono ?_
  rintro e w2 ⟨A2, c2, rfl, _, hF2, hR2, hb2⟩
  have hs2 : w1.heap.size + 1 ≤ w2.heap.size := by have := bsz hb2; simpa using this
  go_wp2_with fail
  refine (rnew_any f _).mono ?_
  rintro e w3 ⟨A3, c3, rfl, _, hF3, hR3, hb3⟩
  have hs3 : w2.heap.size + 1 ≤ w3.heap.size := by have := bsz hb3; simpa using this
  go_wp2_with fail
  have hbW : Below w.heap.size w (w3.alloc (.cells #[.int .i64 (newN f), .slice A3 (newW f).length c3] 24)) :=
    (nxt (nxt (((Below.refl _ _).alloc (Nat.le_refl _) _).trans (E1.mono (by omega))) (by omega) hb2) (by omega) hb3).alloc (by omega) _
  have B4 := box2 ((nxt (nxt E1 (by omega) hb2) (by omega) hb3).alloc (by omega) (.cells #[.int .i64 (newN f), .slice A3 (newW f).length c3] 24))
  have B9 := box2 ((nxt (sz1 hb2) (by omega) hb3).alloc (by omega) (.cells #[.int .i64 (newN f), .slice A3 (newW f).length c3] 24))
  have B10 := box2 ((sz1 hb3).alloc (by omega) (.cells #[.int .i64 (newN f), .slice A3 (newW f).length c3] 24))
  have B12 := box2 (refl1 w3 (.cells #[.int .i64 (newN f), .slice A3 (newW f).length c3] 24))
  have hRb : Rd (w3.alloc (.cells #[.int .i64 (newN f), .slice A3 (newW f).length c3] 24)) A ws := hr.below hbW
  have hRh : Rd (w3.alloc (.cells #[.int .i64 (newN f), .slice A3 (newW f).length c3] 24)) A1 ws := ((((hR1.alloc _).below hb2).alloc _).below hb3).alloc _
  have hRx : Rd (w3.alloc (.cells #[.int .i64 (newN f), .slice A3 (newW f).length c3] 24)) A2 (newW f) := ((hR2.alloc _).below hb3).alloc _
  have hRy : Rd (w3.alloc (.cells #[.int .i64 (newN f), .slice A3 (newW f).length c3] 24)) A3 (newW f) := hR3.alloc _
  have hT0 := hT.below hz0 hbW
  have hs4 : w3.heap.size < (w3.alloc (.cells #[.int .i64 (newN f), .slice A3 (newW f).length c3] 24)).heap.size := by simp
  clear hr hr0 hR1 hR2 hR3 hb2 hb3 E1 hF1 hF2 hF3 hT
  generalize w3.alloc (.cells #[.int .i64 (newN f), .slice A3 (newW f).length c3] 24) = w0 at *
  have FX : ∀ W, Ev w0 W → (W.cell? ⟨w.heap.size, 0, none⟩ = some (.int .i64 n) ∧ W.cell? ⟨w.heap.size, 1, none⟩ = some (.slice A ws.length cap) ∧ W.cell? ⟨w1.heap.size, 0, none⟩ = some (.int .i64 n) ∧ W.cell? ⟨w1.heap.size, 1, none⟩ = some (.slice A1 ws.length c1) ∧
      W.cell? ⟨w2.heap.size, 0, none⟩ = some (.int .i64 (newN f)) ∧ W.cell? ⟨w2.heap.size, 1, none⟩ = some (.slice A2 (newW f).length c2) ∧ W.cell? ⟨w3.heap.size, 0, none⟩ = some (.int .i64 (newN f)) ∧ W.cell? ⟨w3.heap.size, 1, none⟩ = some (.slice A3 (newW f).length c3)) ∧ Ev w0 W := by
    intro W h
    obtain ⟨hc, _⟩ := bc h
    rw [hc _ _ (by omega), hc _ _ (by omega), hc _ _ (by omega), hc _ _ (by omega), hc _ _ (by omega), hc _ _ (by omega), hc _ _ (by omega), hc _ _ (by omega)]
    exact ⟨⟨B4.1, B4.2, B9.1, B9.2, B10.1, B10.2, B12.1, B12.2⟩, h⟩
  have C16 : ∀ W, Ev w0 W → Calls Tryd.prog 16 #[.agg #[.int .i64 (newN f), .slice A2 (newW f).length c2], .agg #[.int .i64 (newN f), .slice A3 (newW f).length c3]] W fun e w' => e = .returned (.bool true) ∧ Ev w0 w' := fun W h => by
    have c := sameB_any (newN f) (newN f) A2 A3 c2 c3 (newW f) (newW f) W (hRx.below h) (hRy.below h)
    rw [decide_eq_true ⟨rfl, rfl⟩] at c
    exact ev_call h c
  have C16b : ∀ W, Ev w0 W → Calls Tryd.prog 16 #[.agg #[.int .i64 n, .slice A1 ws.length c1], .agg #[.int .i64 n, .slice A ws.length cap]] W fun e w' => e = .returned (.bool true) ∧ Ev w0 w' := fun W h => by
    have c := sameB_any n n A1 A c1 cap ws ws W (hRh.below h) (hRb.below h)
    rw [decide_eq_true ⟨rfl, rfl⟩] at c
    exact ev_call h c
  have C17 : ∀ W, Ev w0 W → Calls Tryd.prog 17 #[.agg #[.int .i64 n, .slice A1 ws.length c1]] W fun e w' => e = .returned (.int .i64 (chkI n ws)) ∧ Ev w0 w' := fun W h => ev_call h (check_any n A1 c1 ws W (hRh.below h))
  have C18 : ∀ W, Ev w0 W → Calls Tryd.prog 18 #[.agg #[.int .i64 n, .slice A ws.length cap]] W fun e w' => e = .returned (.int .i64 (chkI n ws)) ∧ Ev w0 w' := fun W h => ev_call h (rcheck_any n A cap ws W (hRb.below h))
  have C19 : ∀ W, Ev w0 W → Calls Tryd.prog 19 #[.agg #[.int .i64 n, .slice A1 ws.length c1], .int .i64 f] W fun e w' => e = .returned (.tuple #[.bool (hasVal n ws f), .int .i64 (hasErr n ws f)]) ∧ Ev w0 w' := fun W h => ev_call h (has_any n A1 c1 ws f W (hRh.below h))
  have C20 : ∀ W, Ev w0 W → Calls Tryd.prog 20 #[.agg #[.int .i64 n, .slice A ws.length cap], .int .i64 f] W fun e w' => e = .returned (.tuple #[.bool (hasVal n ws f), .int .i64 (hasErr n ws f)]) ∧ Ev w0 w' := fun W h => ev_call h (rHas_any n A cap ws f W (hRb.below h))
  have C21 : ∀ W, Ev w0 W → Calls Tryd.prog 21 #[.agg #[.int .i64 n, .slice A1 ws.length c1], .int .i64 f, .int .i64 t] W fun e w' => e = .returned (.tuple #[.int .i64 (cntVal n ws f t), .int .i64 (chpI n ws f t)]) ∧ Ev w0 w' := fun W h => ev_call h (count_any n A1 c1 ws f t W (hRh.below h))
  have C22 : ∀ W, Ev w0 W → Calls Tryd.prog 22 #[.agg #[.int .i64 n, .slice A ws.length cap], .int .i64 f, .int .i64 t] W fun e w' => e = .returned (.tuple #[.int .i64 (cntVal n ws f t), .int .i64 (chpI n ws f t)]) ∧ Ev w0 w' := fun W h => ev_call h (rcount_any n A cap ws f t W (hRb.below h))
  have C23 : ∀ W, Ev w0 W → Calls Tryd.prog 23 #[.agg #[.int .i64 n, .slice A1 ws.length c1], .int .i64 f, .bool inn] W fun e w' => e = .returned (.tuple #[.int .i64 (nxVal n ws f inn), .int .i64 (nxErr n ws f inn)]) ∧ Ev w0 w' := fun W h => ev_call h (nx_any n A1 c1 ws f inn W (hRh.below h) (hT0.below (by omega) h) (Nat.lt_of_lt_of_le (by omega) (Below.size h)))
  have C24 : ∀ W, Ev w0 W → Calls Tryd.prog 24 #[.agg #[.int .i64 n, .slice A ws.length cap], .int .i64 f, .bool inn] W fun e w' => e = .returned (.tuple #[.int .i64 (nxVal n ws f inn), .int .i64 (nxErr n ws f inn)]) ∧ Ev w0 w' := fun W h => ev_call h (rnx_any n A cap ws f inn W (hRb.below h))
  have C12 : ∀ W, Ev w0 W → Calls Tryd.prog 12 #[] W fun e w' => e = .returned (.bool true) ∧ Ev w0 w' := fun W h => ev_call h (awake_any W (hT0.below (by omega) h) (Nat.lt_of_lt_of_le (by omega) (Below.size h)))
  have HFX := Lib.hid FX
  have H16 := Lib.hid C16
  have H16b := Lib.hid C16b
  have H17 := Lib.hid C17
  have H18 := Lib.hid C18
  have H19 := Lib.hid C19
  have H20 := Lib.hid C20
  have H21 := Lib.hid C21
  have H22 := Lib.hid C22
  have H23 := Lib.hid C23
  have H24 := Lib.hid C24
  have H12 := Lib.hid C12
  clear FX C16 C16b C17 C18 C19 C20 C21 C22 C23 C24 C12 B4 B9 B10 B12 hRb hRh hRx hRy hT0
  have hev := Ev.refl w0
  have hbWH := Lib.hid hbW
  generalize newE f = ne at *
  generalize newN f = nn at *
  generalize newW f = nws at *
  generalize chkI n ws = v17 at *
  generalize hasVal n ws f = v19 at *
  generalize hasErr n ws f = e19 at *
  generalize cntVal n ws f t = v21 at *
  generalize chpI n ws f t = e21 at *
  generalize nxVal n ws f inn = v23 at *
  generalize nxErr n ws f inn = e23 at *
  clear hbW
  go_region_held3 (fun w' => (w'.cell? ⟨w.heap.size, 0, none⟩ = some (.int .i64 n) ∧ w'.cell? ⟨w.heap.size, 1, none⟩ = some (.slice A ws.length cap) ∧ w'.cell? ⟨w1.heap.size, 0, none⟩ = some (.int .i64 n) ∧ w'.cell? ⟨w1.heap.size, 1, none⟩ = some (.slice A1 ws.length c1) ∧
      w'.cell? ⟨w2.heap.size, 0, none⟩ = some (.int .i64 nn) ∧ w'.cell? ⟨w2.heap.size, 1, none⟩ = some (.slice A2 nws.length c2) ∧ w'.cell? ⟨w3.heap.size, 0, none⟩ = some (.int .i64 nn) ∧ w'.cell? ⟨w3.heap.size, 1, none⟩ = some (.slice A3 nws.length c3)) ∧ Ev w0 w')
    (first | exact HFX.out _ (by assumption) | exact HFX.out _ (Ev.drew (by assumption)))
    (first | (go_at_call 16; refine (H16.out _ (by first | assumption | exact Ev.drew (by assumption))).mono ?_; rintro e w' ⟨rfl, hev'⟩) | (go_at_call 17; refine (H17.out _ (by first | assumption | exact Ev.drew (by assumption))).mono ?_; rintro e w' ⟨rfl, hev'⟩) | (go_at_call 18; refine (H18.out _ (by first | assumption | exact Ev.drew (by assumption))).mono ?_; rintro e w' ⟨rfl, hev'⟩))
  clear hev
  obtain ⟨⟨a, b, c, d, _, _, _, _⟩, _⟩ := HFX.out _ hev'
  go_wp2_with fail
  refine (H19.out _ hev').mono ?_
  rintro e W0 ⟨rfl, hv0⟩
  obtain ⟨⟨a0, b0, c0, d0, _, _, _, _⟩, _⟩ := HFX.out _ hv0
  go_wp2_with fail
  refine (H20.out _ hv0).mono ?_
  rintro e W1 ⟨rfl, hv1⟩
  obtain ⟨⟨a1, b1, c1, d1, _, _, _, _⟩, _⟩ := HFX.out _ hv1
  go_wp2_with fail
  refine (H21.out _ hv1).mono ?_
  rintro e W2 ⟨rfl, hv2⟩
  obtain ⟨⟨a2, b2, c2, d2, _, _, _, _⟩, _⟩ := HFX.out _ hv2
  go_wp2_with fail
  refine (H22.out _ hv2).mono ?_
  rintro e W3 ⟨rfl, hv3⟩
  obtain ⟨⟨a3, b3, c3, d3, _, _, _, _⟩, _⟩ := HFX.out _ hv3
  go_wp2_with fail
  refine (H23.out _ hv3).mono ?_
  rintro e W4 ⟨rfl, hv4⟩
  obtain ⟨⟨a4, b4, c4, d4, _, _, _, _⟩, _⟩ := HFX.out _ hv4
  go_wp2_with fail
  refine (H24.out _ hv4).mono ?_
  rintro e W5 ⟨rfl, hv5⟩
  obtain ⟨⟨a5, b5, c5, d5, _, _, _, _⟩, _⟩ := HFX.out _ hv5
  go_wp2_with fail
  refine (H16b.out _ hv5).mono ?_
  rintro e W6 ⟨rfl, hv6⟩
  go_wp2_with fail
  refine (H12.out _ hv6).mono ?_
  rintro e W7 ⟨rfl, hv7⟩
  go_wp2
  go_ret
  exact ⟨rfl, hbWH.out.trans (Below.mono hv7 (Below.size hbWH.out))⟩
end Go.Proofs.YtkifcjjnpahdmaaDoor
