import Derived.Test.YtnlbkaabhnkkfaaPL
namespace Go.Proofs.Ytnlbkaabhnkkfaa
open Go.RowKit
set_option maxRecDepth 100000 in
set_option maxHeartbeats 4000000 in
theorem more_b (n x y lo hi : Int) (w : World) (hn : -9223372036854775808 ≤ n) (hn2 : n ≤ 9223372036854775807)
    (HX : Hid (∀ W, Calls Try.prog 34 #[.int .i64 x, .int .i64 40] W fun e w' => e = .returned (.int .i64 hi) ∧ W = w')) (HY : Hid (∀ W, Calls Try.prog 34 #[.int .i64 y, .int .i64 40] W fun e w' => e = .returned (.int .i64 lo) ∧ W = w'))
    (hlh : lo ≤ hi) (hl0 : 0 ≤ lo) (hh0 : hi < 40) (hxy : lo < hi) : Calls Try.prog 7 #[.int .i64 n, .int .i64 x, .int .i64 y] w fun e w' => e = .returned (.bool true) ∧ Ev w w' := by
  have HM := Lib.hid (made_any n w hn hn2)
  have AW := Lib.hid awake_any
  go_enter Try.func7, Try.ntmps7
  go_wp2_with fail
  refine HM.out.mono ?_
  rintro e w1 ⟨a, b, c, rfl, ⟨a0, ab, bc', c2⟩, hev⟩
  have HE1 := Lib.hid (hev.alloc (mb a b c))
  have HB : Hid (∀ W, Ev (w1.alloc (mb a b c)) W → W.cell? ⟨w1.heap.size, 0, none⟩ = some (.int .i64 a) ∧ W.cell? ⟨w1.heap.size, 1, none⟩ = some (.int .i64 b) ∧ W.cell? ⟨w1.heap.size, 2, none⟩ = some (.int .i64 c)) := Lib.hid fun W e => by refine ⟨?_, ?_, ?_⟩ <;> (rw [e.cell (by simp)]; simp)
  have hv : 0 ≤ a ∧ a < b ∧ b < c ∧ c ≤ 256 := ⟨a0, ab, bc', by omega⟩
  have HL1 := Lib.hid fun W => Level_good a b c lo W hv ⟨by omega, by omega⟩
  have HL2 := Lib.hid fun W => Level_good a b c hi W hv ⟨by omega, by omega⟩
  have hle := lv_mono (x := lo) (y := hi) ab bc' hlh
  have HN1 := Lib.hid fun aw W => Next_good a b c lo aw W hv ⟨by omega, by omega⟩
  have HN2 := Lib.hid fun aw W => Next_good a b c hi aw W hv ⟨by omega, by omega⟩
  have HMS := Lib.hid fun aw W => Missing_good a b c lo aw W hv ⟨by omega, by omega⟩
  have HNX := Lib.hid fun aw z W hz => Next_good a b c z aw W hv hz
  generalize lvV a b c lo = p1 at *
  generalize lvV a b c hi = p2 at *
  have hcl : c ≤ 256 := by omega
  clear hev hv
  go_wp2_with fail
  refine (HX.out _).mono ?_
  rintro e w' ⟨rfl, rfl⟩
  go_wp2_with fail
  refine (HY.out _).mono ?_
  rintro e w' ⟨rfl, rfl⟩
  go_wp2_with fail
  · refine (HL1.out _).mono ?_
    rintro e w2 ⟨rfl, hev⟩
    obtain ⟨x0, x1, x2⟩ := HB.out _ hev
    have HE := Lib.hid hev
    clear hev
    go_wp2_with fail
    refine (HL2.out _).mono ?_
    clear x0 x1 x2
    rintro e w3 ⟨rfl, hev⟩
    have HE := Lib.hid (HE.out.step hev)
    clear hev
    go_wp2_with fail
    go_loopw [16] (fun i wr => ∃ k : Nat, k ≤ 2 ∧ i = .int .i64 k ∧ Ev (w1.alloc (mb a b c)) wr) (fun i _ => 2 - (intOf i).toNat)
    case atStart => exact ⟨0, by omega, rfl, HE.out⟩
    case round =>
      obtain ⟨k, hk, rfl, hev⟩ := hrel
      obtain ⟨x0, x1, x2⟩ := HB.out _ hev
      have HEV := Lib.hid hev
      clear hev
      by_cases hk2 : k < 2
      · obtain ⟨aw, haw, hb⟩ : ∃ aw : Bool, ((k : Int) == 1) = aw ∧ (k = 0 ∨ k = 1) := ⟨_, rfl, by omega⟩
        have HA1 := HN1.out aw
        have HA2 := HN2.out aw
        have HA3 := HMS.out aw
        have hnm := nx_more (b := b) (c := c) (aw := aw) bc' hlh
        have hnl := nx_lt (b := b) (c := c) (x := lo) (aw := aw) bc'
        have hk2' : (k : Int) < 2 := by omega
        have hk0 : 0 ≤ (k : Int) := by omega
        cases hlw : nxV b c aw lo with
        | false =>
          have hmo : nxV b c aw hi = false := by
            cases h : nxV b c aw hi
            · rfl
            · exact absurd (hnm h) (by simp [hlw])
          rw [hlw] at HA1 HA3
          rw [hmo] at HA2
          rw [if_neg (by simp)] at HA3
          have HB1 := Lib.hid HA1
          have HB2 := Lib.hid HA2
          have HB3 := Lib.hid HA3
          clear HA1 HA2 HA3 hnm hnl hlw hmo
          go_wp2_with fail
          refine (HB1.out _).mono ?_
          clear x0 x1 x2
          rintro e w4 ⟨rfl, hev⟩
          have HEV := Lib.hid (HEV.out.step hev)
          obtain ⟨x0, x1, x2⟩ := HB.out _ HEV.out
          clear hev
          go_wp2_with fail
          refine (HB2.out _).mono ?_
          clear x0 x1 x2
          rintro e w5 ⟨rfl, hev⟩
          have HEV := Lib.hid (HEV.out.step hev)
          obtain ⟨x0, x1, x2⟩ := HB.out _ HEV.out
          clear hev
          go_wp2_with fail
          refine (HB3.out _).mono ?_
          clear x0 x1 x2
          rintro e w6 ⟨rfl, hev⟩
          have HEV := Lib.hid (HEV.out.step hev)
          obtain ⟨x0, x1, x2⟩ := HB.out _ HEV.out
          clear hev
          have g1 : 0 ≤ c := by omega
          go_wp2_with fail
          go_roundw
          case rel => exact ⟨k + 1, by omega, by go_num, HEV.out⟩
          case measure => simp [intOf]; omega
        | true =>
          have hlc := hnl hlw
          rw [hlw] at HA1 HA3
          rw [if_pos rfl] at HA3
          obtain ⟨ms, hms, m1, m2⟩ : ∃ ms, c - lo = ms ∧ 1 ≤ ms ∧ ms ≤ c := ⟨_, rfl, by omega, by omega⟩
          rw [hms] at HA3
          have HC1 : Hid (∀ W, Calls Try.prog 13 #[mk a b c, .bool true, .int .i64 (lo + ms)] W fun e w' => e = .returned (.tuple #[.bool false, .int .i64 0]) ∧ Ev W w') := Lib.hid fun W => by
            have h := HNX.out true (lo + ms) W ⟨by omega, by omega⟩
            have e : nxV b c true (lo + ms) = false := by unfold nxV; simp; omega
            rwa [e] at h
          have HC2 : Hid (∀ W, Calls Try.prog 13 #[mk a b c, .bool true, .int .i64 (lo + ms - 1)] W fun e w' => e = .returned (.tuple #[.bool true, .int .i64 0]) ∧ Ev W w') := Lib.hid fun W => by
            have h := HNX.out true (lo + ms - 1) W ⟨by omega, by omega⟩
            have e : nxV b c true (lo + ms - 1) = true := by unfold nxV; simp; omega
            rwa [e] at h
          have gz : (ms == 0) = false := by simp; omega
          have HB1 := Lib.hid HA1
          have HB3 := Lib.hid HA3
          have hms2 : ms ≤ 256 := by omega
          clear HA1 HA3 hnm hnl hlw hms hlc
          cases hmo : nxV b c aw hi
          all_goals
            rw [hmo] at HA2
            have HB2 := Lib.hid HA2
            clear HA2 hmo
            go_wp2_with fail
            refine (HB1.out _).mono ?_
            clear x0 x1 x2
            rintro e w4 ⟨rfl, hev⟩
            have HEV := Lib.hid (HEV.out.step hev)
            obtain ⟨x0, x1, x2⟩ := HB.out _ HEV.out
            clear hev
            go_wp2_with fail
            refine (HB2.out _).mono ?_
            clear x0 x1 x2
            rintro e w5 ⟨rfl, hev⟩
            have HEV := Lib.hid (HEV.out.step hev)
            obtain ⟨x0, x1, x2⟩ := HB.out _ HEV.out
            clear hev
            go_wp2_with fail
            refine (HB3.out _).mono ?_
            clear x0 x1 x2
            rintro e w6 ⟨rfl, hev⟩
            have HEV := Lib.hid (HEV.out.step hev)
            obtain ⟨x0, x1, x2⟩ := HB.out _ HEV.out
            clear hev
            go_wp2_with fail
            refine (HC1.out _).mono ?_
            clear x0 x1 x2
            rintro e w7 ⟨rfl, hev⟩
            have HEV := Lib.hid (HEV.out.step hev)
            obtain ⟨x0, x1, x2⟩ := HB.out _ HEV.out
            clear hev
            go_wp2_with fail
            refine (HC2.out _).mono ?_
            clear x0 x1 x2
            rintro e w8 ⟨rfl, hev⟩
            have HEV := Lib.hid (HEV.out.step hev)
            obtain ⟨x0, x1, x2⟩ := HB.out _ HEV.out
            clear hev
            go_wp2_with fail
            go_roundw
            case rel => exact ⟨k + 1, by omega, by go_num, HEV.out⟩
            case measure => simp [intOf]; omega
      · obtain rfl : k = 2 := by omega
        go_wp2_with fail
        refine (AW.out _).mono ?_
        clear x0 x1 x2
        rintro e w9 ⟨rfl, hev⟩
        have HF := Lib.hid (HE1.out.step (HEV.out.step hev))
        clear hev
        go_wp2_with fail
        go_ret
        exact ⟨rfl, HF.out⟩
end Go.Proofs.Ytnlbkaabhnkkfaa
