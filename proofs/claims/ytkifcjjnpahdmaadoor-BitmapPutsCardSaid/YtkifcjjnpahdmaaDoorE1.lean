import Derived.Test.YtkifcjjnpahdmaaDoorD4
namespace Go.Proofs.YtkifcjjnpahdmaaDoor
open Go.RowKit
open Go.Deep

set_option maxHeartbeats 400000 in
theorem puts_big (n : Int) (A : Option Addr) (cap len : Nat) (f t : Int) (inn : Bool) (w : World) (hl : 40 < len) (hlm : len ≤ 9223372036854775807) (hT : Tab w) (hz0 : 0 < w.heap.size) :
    Calls Tryd.prog 4 #[.agg #[.int .i64 n, .slice A len cap], .int .i64 f, .int .i64 t, .bool inn] w fun e w' => e = .returned (.bool true) ∧ Below w.heap.size w w' := by
  have hc := awake_any _ (hT.alloc hz0 (.cells #[.int .i64 n, .slice A len cap] 24)) (by simp)
  have HC := Lib.hid hc
  have hl' : (40 : Int) < (len : Int) := by omega
  clear hc
  go_enter Tryd.func4, Tryd.ntmps4
  go_wp2_with fail
  refine HC.out.mono ?_
  rintro e w1 ⟨rfl, hb⟩
  go_wp2
  go_ret
  exact ⟨rfl, ((Below.refl _ _).alloc (Nat.le_refl _) _).trans (hb.mono (by simp))⟩

set_option maxRecDepth 100000 in
set_option maxHeartbeats 1000000 in
theorem puts_small (n : Int) (A : Option Addr) (cap : Nat) (ws : List Nat) (f t : Int) (inn : Bool) (w : World) (hr : Rd w A ws) (hnil : Nil0 A cap) (hl : ws.length ≤ 40) (hT : Tab w) (hz0 : 0 < w.heap.size) :
    Calls Tryd.prog 4 #[.agg #[.int .i64 n, .slice A ws.length cap], .int .i64 f, .int .i64 t, .bool inn] w fun e w' => e = .returned (.bool true) ∧ Below w.heap.size w w' := by
  have hr0 := hr.alloc (.cells #[.int .i64 n, .slice A ws.length cap] 24)
  have hc := ownBits_any n A cap ws _ hr0 (by omega) hnil
  have HC := Lib.hid hc
  have hlq : ¬ (40 : Int) < (ws.length : Int) := by omega
  clear hc
  go_enter Tryd.func4, Tryd.ntmps4
  go_wp2_with fail
  refine HC.out.mono ?_
  rintro e w1 ⟨A1, c1, rfl, _, hF1, hR1, hb1⟩
  clear HC
  have hs1 : w.heap.size + 1 ≤ w1.heap.size := by have := bsz hb1; simpa using this
  have E1 : Below (w.heap.size + 1) (w.alloc (.cells #[.int .i64 n, .slice A ws.length cap] 24)) w1 := by simpa using hb1
  clear hb1
  go_wp2_with fail
  refine (put_any n A1 c1 ws f t inn _ (hR1.alloc _)).mono ?_
  rintro e w2 ⟨A2, c2, rfl, _, hF2, hR2, hb2⟩
  have hs2 : w1.heap.size + 1 ≤ w2.heap.size := by have := bsz hb2; simpa using this
  have E2 : Below (w.heap.size + 1) (w.alloc (.cells #[.int .i64 n, .slice A ws.length cap] 24)) w2 := nxt E1 (by omega) hb2
  have hbW2 : Below w.heap.size w w2 := ((Below.refl _ _).alloc (Nat.le_refl _) _).trans (E2.mono (by omega))
  have B4 := box2 E2
  have B4a := B4.1
  have B4b := B4.2
  generalize hnn : putN n ws f t = nn at *
  generalize hnws : putWs n ws f t inn = nws at *
  have lt2 : w.heap.size < w2.heap.size := by omega
  go_wp2_with fail
  have hp := rput_any n A cap ws f t inn (w2.alloc (.cells #[.int .i64 nn, .slice A2 nws.length c2] 24)) ((hr.below hbW2).alloc _)
  rw [hnn, hnws] at hp
  clear hnn hnws
  refine hp.mono ?_
  rintro e w3 ⟨A3, c3, rfl, _, hF3, hR3, hb3⟩
  have hs3 : w2.heap.size + 1 ≤ w3.heap.size := by have := bsz hb3; simpa using this
  clear hp B4 B4a B4b
  have hbW3 : Below w.heap.size w w3 := nxt hbW2 (by omega) hb3
  have P4 := box2 (nxt E2 (by omega) hb3)
  have P9 := box2 (nxt (sz1 hb2) (by omega) hb3)
  have P10 := box2 (sz1 hb3)
  have P4a := P4.1
  have P4b := P4.2
  have P9a := P9.1
  have P9b := P9.2
  have lt3 : w.heap.size < w3.heap.size := by omega
  have lt4 : w1.heap.size < w3.heap.size := by omega
  have lt5 : w2.heap.size < w3.heap.size := by omega
  go_wp2_with fail
  have B4 := box2 ((nxt E2 (by omega) hb3).alloc (by omega) (.cells #[.int .i64 nn, .slice A3 nws.length c3] 24))
  have B9 := box2 ((nxt (sz1 hb2) (by omega) hb3).alloc (by omega) (.cells #[.int .i64 nn, .slice A3 nws.length c3] 24))
  have B10 := box2 ((sz1 hb3).alloc (by omega) (.cells #[.int .i64 nn, .slice A3 nws.length c3] 24))
  have B12 := box2 (refl1 w3 (.cells #[.int .i64 nn, .slice A3 nws.length c3] 24))
  have hbW : Below w.heap.size w (w3.alloc (.cells #[.int .i64 nn, .slice A3 nws.length c3] 24)) := hbW3.alloc (by omega) _
  have hRb : Rd (w3.alloc (.cells #[.int .i64 nn, .slice A3 nws.length c3] 24)) A ws := hr.below hbW
  have hRh : Rd (w3.alloc (.cells #[.int .i64 nn, .slice A3 nws.length c3] 24)) A1 ws := ((((hR1.alloc _).below hb2).alloc _).below hb3).alloc _
  have hRx : Rd (w3.alloc (.cells #[.int .i64 nn, .slice A3 nws.length c3] 24)) A2 nws := ((hR2.alloc _).below hb3).alloc _
  have hRy : Rd (w3.alloc (.cells #[.int .i64 nn, .slice A3 nws.length c3] 24)) A3 nws := hR3.alloc _
  have hT0 := hT.below hz0 hbW
  have hs4 : w3.heap.size < (w3.alloc (.cells #[.int .i64 nn, .slice A3 nws.length c3] 24)).heap.size := by simp
  clear hr hr0 hR1 hR2 hR3 hb2 hb3 E1 E2 hF1 hF2 hF3 hT P4 P9 P10 P4a P4b P9a P9b hbW2 hbW3
  generalize w3.alloc (.cells #[.int .i64 nn, .slice A3 nws.length c3] 24) = w0 at *
  have FX : ∀ W, Ev w0 W → W.cell? ⟨w.heap.size, 0, none⟩ = some (.int .i64 n) ∧ W.cell? ⟨w.heap.size, 1, none⟩ = some (.slice A ws.length cap) ∧ W.cell? ⟨w1.heap.size, 0, none⟩ = some (.int .i64 n) ∧ W.cell? ⟨w1.heap.size, 1, none⟩ = some (.slice A1 ws.length c1) ∧
      W.cell? ⟨w2.heap.size, 0, none⟩ = some (.int .i64 nn) ∧ W.cell? ⟨w2.heap.size, 1, none⟩ = some (.slice A2 nws.length c2) ∧ W.cell? ⟨w3.heap.size, 0, none⟩ = some (.int .i64 nn) ∧ W.cell? ⟨w3.heap.size, 1, none⟩ = some (.slice A3 nws.length c3) := by
    intro W h
    obtain ⟨hc, _⟩ := bc h
    rw [hc _ _ (by omega), hc _ _ (by omega), hc _ _ (by omega), hc _ _ (by omega), hc _ _ (by omega), hc _ _ (by omega), hc _ _ (by omega), hc _ _ (by omega)]
    exact ⟨B4.1, B4.2, B9.1, B9.2, B10.1, B10.2, B12.1, B12.2⟩
  have C16 : ∀ W, Ev w0 W → Calls Tryd.prog 16 #[.agg #[.int .i64 nn, .slice A2 nws.length c2], .agg #[.int .i64 nn, .slice A3 nws.length c3]] W fun e w' => e = .returned (.bool true) ∧ Ev w0 w' := fun W h => by
    have c := sameB_any nn nn A2 A3 c2 c3 nws nws W (hRx.below h) (hRy.below h)
    rw [decide_eq_true ⟨rfl, rfl⟩] at c
    exact ev_call h c
  have C16b : ∀ W, Ev w0 W → Calls Tryd.prog 16 #[.agg #[.int .i64 n, .slice A1 ws.length c1], .agg #[.int .i64 n, .slice A ws.length cap]] W fun e w' => e = .returned (.bool true) ∧ Ev w0 w' := fun W h => by
    have c := sameB_any n n A1 A c1 cap ws ws W (hRh.below h) (hRb.below h)
    rw [decide_eq_true ⟨rfl, rfl⟩] at c
    exact ev_call h c
  have C27 : ∀ W, Ev w0 W → Calls Tryd.prog 27 #[.agg #[.int .i64 n, .slice A1 ws.length c1], .int .i64 f, .int .i64 t, .bool inn] W fun e w' => e = .returned (.tuple #[.int .i64 (runVal n ws f t inn), .int .i64 (runErr n ws f t inn)]) ∧ Ev w0 w' := fun W h => ev_call h (run_any n A1 c1 ws f t inn W (hRh.below h) (hT0.below (by omega) h) (Nat.lt_of_lt_of_le (by omega) (Below.size h)))
  have C28 : ∀ W, Ev w0 W → Calls Tryd.prog 28 #[.agg #[.int .i64 n, .slice A ws.length cap], .int .i64 f, .int .i64 t, .bool inn] W fun e w' => e = .returned (.tuple #[.int .i64 (runVal n ws f t inn), .int .i64 (runErr n ws f t inn)]) ∧ Ev w0 w' := fun W h => ev_call h (rrun_any n A cap ws f t inn W (hRb.below h))
  have C12 : ∀ W, Ev w0 W → Calls Tryd.prog 12 #[] W fun e w' => e = .returned (.bool true) ∧ Ev w0 w' := fun W h => ev_call h (awake_any W (hT0.below (by omega) h) (Nat.lt_of_lt_of_le (by omega) (Below.size h)))
  have HFX := Lib.hid FX
  have H16 := Lib.hid C16
  have H16b := Lib.hid C16b
  have H27 := Lib.hid C27
  have H28 := Lib.hid C28
  have H12 := Lib.hid C12
  clear FX C16 C16b C27 C28 C12 B4 B9 B10 B12 hRb hRh hRx hRy hT0
  have hev := Ev.refl w0
  have hbWH := Lib.hid hbW
  clear hbW
  generalize runVal n ws f t inn = v27 at *
  generalize runErr n ws f t inn = e27 at *
  generalize chpI n ws f t = ep at *
  refine (H27.out _ hev).mono ?_
  rintro e W0 ⟨rfl, hv0⟩
  obtain ⟨a0, b0, c0, d0, _, _, _, _⟩ := HFX.out _ hv0
  go_wp2_with fail
  refine (H28.out _ hv0).mono ?_
  rintro e W1 ⟨rfl, hv1⟩
  obtain ⟨a1, b1, cc1, d1, x1, y1, z1, u1⟩ := HFX.out _ hv1
  go_wp2_with fail
  refine (H16.out _ hv1).mono ?_
  rintro e W2 ⟨rfl, hv2⟩
  obtain ⟨a2, b2, cc2, d2, _, _, _, _⟩ := HFX.out _ hv2
  go_wp2_with fail
  refine (H16b.out _ hv2).mono ?_
  rintro e W6 ⟨rfl, hv6⟩
  go_wp2_with fail
  refine (H12.out _ hv6).mono ?_
  rintro e W7 ⟨rfl, hv7⟩
  go_wp2
  go_ret
  exact ⟨rfl, hbWH.out.trans (Below.mono hv7 (Below.size hbWH.out))⟩
theorem puts_any (n : Int) (A : Option Addr) (len cap : Nat) (f t : Int) (inn : Bool) (w : World) (hnil : Nil0 A cap) (hlm : len ≤ 9223372036854775807) (hws : len ≤ 4000000000 → ∃ ws : List Nat, ws.length = len ∧ Rd w A ws) (hT : Tab w) (hz0 : 0 < w.heap.size) :
    Calls Tryd.prog 4 #[.agg #[.int .i64 n, .slice A len cap], .int .i64 f, .int .i64 t, .bool inn] w fun e w' => e = .returned (.bool true) ∧ Below w.heap.size w w' := by
  rcases Nat.lt_or_ge 40 len with h | h
  · exact puts_big n A cap len f t inn w h hlm hT hz0
  · obtain ⟨ws, rfl, hr⟩ := hws (by omega)
    exact puts_small n A cap ws f t inn w hr hnil h hT hz0
end Go.Proofs.YtkifcjjnpahdmaaDoor
