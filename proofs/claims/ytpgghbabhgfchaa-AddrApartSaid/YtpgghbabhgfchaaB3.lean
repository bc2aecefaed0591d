import Derived.Test.YtpgghbabhgfchaaB2
namespace Go.Proofs.Ytpgghbabhgfchaa
open Go.RowKit
def RdI (w : World) (A : Option Addr) (l : List Int) : Prop :=
  l.length ≤ 9223372036854775807 ∧ ∀ j, j < l.length → ∃ b o, A = some ⟨b, o, none⟩ ∧ b < w.heap.size ∧ w.cell? ⟨b, o + j, none⟩ = some (.int .i64 (l.getD j 0))
theorem RdI.ev {w w' : World} {A : Option Addr} {l : List Int} (h : RdI w A l) (e : Ev w w') : RdI w' A l := ⟨h.1, fun j hj => by
  obtain ⟨b, o, h1, h2, h3⟩ := h.2 j hj
  have := e.sz
  exact ⟨b, o, h1, by omega, by rw [e.cell (p := ⟨b, o + j, none⟩) h2]; exact h3⟩⟩
theorem RdI.of_own {w : World} {base : Nat} {v : Value} {L : List Int} (h : OwnI w base v L) (hl : L.length ≤ 9223372036854775807) : ∃ A cap, v = .slice A L.length cap ∧ RdI w A L := by
  rcases h.2 with ⟨rfl, h0⟩ | ⟨g, cap, cur, rfl, hbg, hh, hn, hc, hs, ht⟩
  · have e : L = [] := List.eq_nil_of_length_eq_zero h0
    subst e
    exact ⟨none, 0, rfl, by simp, fun j hj => by simp at hj⟩
  · refine ⟨some ⟨g, 0, none⟩, cap, rfl, hl, fun j hj => ⟨g, 0, rfl, (h.lt g rfl).2, ?_⟩⟩
    rw [Nat.zero_add, World.ownsRow.cellAt h j (by omega)]
    unfold IV
    simp [hj]

theorem RdP.pick {W : World} {b o : Nat} {l : List (Int × Int)} (h : RdP W (some ⟨b, o, none⟩) l) (j : Nat) (hj : j < l.length) : W.cell? ⟨b, o + j * 2, none⟩ = some (.int .i64 (l.getD j (0, 0)).1) ∧ W.cell? ⟨b, o + j * 2 + 1, none⟩ = some (.int .i64 (l.getD j (0, 0)).2) := by
  obtain ⟨b', o', h1, -, h3, h4⟩ := h.2 j hj
  injection h1 with h1
  injection h1 with e1 e2
  subst e1 e2
  exact ⟨h3, h4⟩
theorem RdI.pick {W : World} {b o : Nat} {l : List Int} (h : RdI W (some ⟨b, o, none⟩) l) (j : Nat) (hj : j < l.length) : W.cell? ⟨b, o + j, none⟩ = some (.int .i64 (l.getD j 0)) := by
  obtain ⟨b', o', h1, -, h3⟩ := h.2 j hj
  injection h1 with h1
  injection h1 with e1 e2
  subst e1 e2
  exact h3
theorem leaf_ok (p c : Int) (w : World) (h : 0 ≤ p ∧ p < 64) (hc : p / 8 = c) : Calls Try.prog 8 #[.int .i64 p] w fun e w' => e = .returned (.tuple #[.int .i64 c, .int .i64 (p % 8), .int .i64 0]) ∧ w = w' := by
  have hh := leaf_any p w
  unfold lfA lfB lfE at hh
  rw [if_pos h, if_pos h, if_pos h, hc] at hh
  exact hh
set_option maxRecDepth 100000 in
set_option maxHeartbeats 8000000 in
theorem apart_law (n : Int) (w : World) : Calls Try.prog 6 #[.int .i64 n] w fun e w' => e = .returned (.bool true) ∧ Ev w w' := by
  have HM := Lib.hid (made_any n w)
  have AW := Lib.hid awake_any
  go_enter Try.func6, Try.ntmps6
  go_wp2_with fail
  refine HM.out.mono ?_
  rintro e w1 ⟨f0, t0, rfl, hft, hev⟩
  obtain ⟨f, rfl⟩ := Int.eq_ofNat_of_zero_le hft.1
  obtain ⟨t, rfl⟩ := Int.eq_ofNat_of_zero_le (show 0 ≤ t0 by omega)
  have hft1 : f ≤ t := by omega
  have ht : t < 64 := by omega
  obtain ⟨hap, -⟩ := apart_ok f t hft1 ht
  have HX0 : Hid (∀ W, Ev (w1.alloc (.cells #[.int .i64 (f : Int), .int .i64 (t : Int)] 30)) W → W.cell? ⟨w1.heap.size, 0, none⟩ = some (.int .i64 (f : Int)) ∧ W.cell? ⟨w1.heap.size, 1, none⟩ = some (.int .i64 (t : Int))) := Lib.hid fun W e => ⟨by rw [e.cell (by simp)]; simp, by rw [e.cell (by simp)]; simp⟩
  have HE : Hid (∀ W, Ev (w1.alloc (.cells #[.int .i64 (f : Int), .int .i64 (t : Int)] 30)) W → Ev w W) := Lib.hid fun W e => (hev.alloc _).step e
  have HPC : Hid (∀ W, Calls Try.prog 17 #[rg f t] W fun e w' => ∃ v, e = .returned (.tuple #[v, .int .i64 0]) ∧ OwnP w' W.heap.size v (pcF (pgs f t)) ∧ Ev W w') := Lib.hid fun W => Pieces_ok f t hft1 ht W
  have HCV := Lib.hid (cover_one f t hft1 ht)
  obtain ⟨a1, a2, a3, a4, a5, a6⟩ := apart_at hap
  generalize pcF (pgs f t) = P at *
  generalize cvK (mkS (pgs f t)) 8 = C at *
  obtain ⟨M, hM⟩ : ∃ M, P.length = M + 1 := ⟨P.length - 1, by omega⟩
  have HL1 := Lib.hid hM
  have HL2 := Lib.hid (a1.symm.trans hM)
  have HM7 : M ≤ 7 := by omega
  rw [hM, Nat.add_sub_cancel] at a5
  have A4 := Lib.hid a4
  have A5 := Lib.hid a5
  have A6 := Lib.hid a6
  clear hev hap hft HM a1 a2 a3 a4 a5 a6 hM
  go_wp2_with fail
  refine (HPC.out _).mono ?_
  rintro e w2 ⟨v, rfl, ho, hev⟩
  obtain ⟨A, cap, rfl, hr⟩ := RdP.of_own ho (by rw [HL1.out]; omega)
  obtain ⟨b, o, rfl, -, -⟩ := hr.2 0 (by rw [HL1.out]; omega)
  rw [HL1.out]
  have HR2 := Lib.hid hr
  have HE2 := Lib.hid hev
  obtain ⟨x0, x1⟩ := HX0.out _ hev
  clear ho hev hr
  go_wp2_with fail
  refine (HCV.out _ _ (by simp) (by simp) (by simp)).mono ?_
  rintro e w3 ⟨v, rfl, ho, hev⟩
  obtain ⟨A2, cap2, rfl, hi⟩ := RdI.of_own ho (by rw [HL2.out]; omega)
  obtain ⟨b2, o2, rfl, -, -⟩ := hi.2 0 (by rw [HL2.out]; omega)
  rw [HL2.out]
  have hev3 := ((Ev.refl w2).alloc (.cells #[.int .i64 (f : Int), .int .i64 (t : Int)] 30)).step hev
  have HR3 := Lib.hid (HR2.out.ev hev3)
  have HI3 := Lib.hid hi
  have HE3 := Lib.hid (HE2.out.step hev3)
  clear x0 x1 ho hev hi hev3 HR2 HE2
  obtain ⟨x0, x1⟩ := HX0.out _ HE3.out
  have p0 := (HR3.out.pick 0 (by rw [HL1.out]; omega)).1
  have p1 := (HR3.out.pick M (by rw [HL1.out]; omega)).2
  rw [A4.out, Nat.zero_mul, Nat.add_zero] at p0
  rw [A5.out] at p1
  have nm : ((M : Int) + 1 == 0) = false := by simp; omega
  have nn : ((M : Int) + 1 != (M : Int) + 1) = false := by simp
  have nf : ((f : Int) != (f : Int)) = false := by simp
  have nt : ((t : Int) != (t : Int)) = false := by simp
  have m0 : 0 ≤ (M : Int) := by omega
  have m1 : (M : Int) < (M : Int) + 1 := by omega
  have m2 : 0 < (M : Int) + 1 := by omega
  go_wp2_with fail
  go_quiet (fail)
  go_wp2_with fail
  clear x0 x1 p0 p1 nm nn nf nt m0 m1 m2
  go_loopw [8] (fun i wr => ∃ j : Nat, j ≤ M + 1 ∧ i = .int .i64 j ∧ Ev w3 wr) (fun i _ => M + 1 - (intOf i).toNat)
  case atStart => exact ⟨0, Nat.zero_le _, rfl, by repeat (first | exact Ev.refl _ | apply Ev.drewN | apply Ev.drew)⟩
  case round =>
    obtain ⟨j, hj, rfl, hev⟩ := hrel
    have HEV := Lib.hid hev
    by_cases hlt : j < M + 1
    · obtain ⟨h1, h2, h3, h4, h5, h6⟩ := A6.out j (by rw [HL1.out]; exact hlt)
      obtain ⟨c1, c2⟩ := (HR3.out.ev hev).pick j (by rw [HL1.out]; exact hlt)
      have d1 := (HI3.out.ev hev).pick j (by rw [HL2.out]; exact hlt)
      have hrp := HR3.out.ev hev
      generalize hga : (P.getD j (0, 0)).1 = a at *
      generalize (P.getD j (0, 0)).2 = e' at *
      generalize C.getD j 0 = c at *
      have LA := Lib.hid fun W => leaf_ok a c W (by omega) h4
      have LB := Lib.hid fun W => leaf_ok e' c W (by omega) h5
      have hab : decide (e' < a) = false := by simp; omega
      have hab2 : ¬ e' < a := by omega
      have ncc : (c != c) = false := by simp
      have hlt' : (j : Int) < (M : Int) + 1 := by omega
      have hj0 : 0 ≤ (j : Int) := by omega
      by_cases hz : j = 0
      · subst hz
        rw [Nat.zero_mul, Nat.add_zero] at c1 c2
        rw [Nat.add_zero] at d1
        have hlt' : 0 < (M : Int) + 1 := by omega
        clear hga hrp h1 h2 h3 h4 h5 h6 hev hj0 hj hlt
        go_wp2_with fail
        refine (LA.out _).mono ?_
        rintro e w' ⟨rfl, rfl⟩
        go_wp2_with fail
        refine (LB.out _).mono ?_
        rintro e w' ⟨rfl, rfl⟩
        go_wp2_with fail
        go_quiet (fail)
        go_wp2_with fail
        go_roundw
        case rel => exact ⟨1, by omega, by first | rfl | go_num, by repeat (first | exact HEV.out | apply Ev.drewN | apply Ev.drew)⟩
        case measure => simp [intOf] <;> omega
      · replace h6 := h6.resolve_left hz
        · obtain ⟨i, hi⟩ : ∃ i, j = i + 1 := ⟨j - 1, by omega⟩
          have k2 := (hrp.pick i (by rw [HL1.out]; omega)).2
          rw [show j - 1 = i from by omega] at h6
          have hb := A6.out i (by rw [HL1.out]; omega)
          generalize (P.getD i (0, 0)).2 = x at *
          have hx : 0 ≤ x ∧ x < 64 := by omega
          obtain ⟨hx0, hx1⟩ := hx
          have hjp : 0 < (j : Int) := by omega
          have hjn : 0 < j := by omega
          have hji : (j : Int) - 1 = (i : Int) := by omega
          have hi0 : 0 ≤ (i : Int) := by omega
          have hi1 : (i : Int) < (M : Int) + 1 := by omega
          have nax : (a != x + 1) = false := by simpa using h6
          have hw1 : IntKind.i64.wrap ((j : Int) - 1) = (i : Int) := by rw [hji]; exact IntWalk.i64_in _ (by omega)
          have hw2 : IntKind.i64.wrap (i : Int) = (i : Int) := IntWalk.i64_in _ (by omega)
          have hw3 : IntKind.i64.wrap (x + 1) = x + 1 := IntWalk.i64_in _ (by omega)
          have hi2 : (i : Int) ≤ 8 := by omega
          clear h6
          clear hga hrp h1 h2 h3 h4 h5 hev hb hi hz
          go_wp2_with fail
          refine (LA.out _).mono ?_
          rintro e w' ⟨rfl, rfl⟩
          go_wp2_with fail
          refine (LB.out _).mono ?_
          rintro e w' ⟨rfl, rfl⟩
          go_wp2_with fail
          go_quiet (fail)
          go_wp2_with fail
          go_roundw
          case rel => exact ⟨j + 1, by omega, by go_num, by repeat (first | exact HEV.out | apply Ev.drewN | apply Ev.drew)⟩
          case measure => simp [intOf]; omega
    · obtain rfl : j = M + 1 := by omega
      have hge : ¬ (((M + 1 : Nat) : Int) < (M : Int) + 1) := by omega
      clear hev
      go_wp2_with fail
      refine (AW.out _).mono ?_
      rintro e w5 ⟨rfl, hev⟩
      have HF := (HE.out _ (HE3.out.step HEV.out)).step hev
      clear hev
      go_wp2_with fail
      go_ret
      exact ⟨rfl, HF⟩
end Go.Proofs.Ytpgghbabhgfchaa
