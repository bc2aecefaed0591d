import Derived.Test.YtabojlbodjfphaaM1
namespace Go.Proofs.Ytabojlbodjfphaa
open Go.RowKit Go.Shelf
set_option maxRecDepth 100000 in
set_option maxHeartbeats 4000000 in
/-- the list up to m is valid; there it ends, or the slab m has an error -/
theorem rclist_any (A : Option Addr) (c m : Nat) (L : List Sl) (w : World) (hr : RdS w A L) (hm : m ≤ L.length) (hz : ∀ j, j < m → erK L j = 0) (E : Int) (hE : (m = L.length ∧ E = 0) ∨ (m < L.length ∧ E = erK L m ∧ E ≠ 0)) :
    Calls Try.prog 27 #[.slice A L.length c] w fun e w' => e = .returned (.tuple #[.int .i64 E, .int .i64 (if E = 0 then 0 else (m : Int))]) ∧ Ev w w' := by
  have H1 : Hid (∀ f u W, Calls Try.prog 13 #[sl f u] W fun e w' => e = .returned (.int .i64 (ckE f)) ∧ Ev W w') := Lib.hid rcheck_any
  have HR := Lib.hid hr
  have HZ := Lib.hid hz
  have HEE := Lib.hid hE
  have hn := hr.1
  clear hr hz hE
  go_enter Try.func27, Try.ntmps27
  go_wp2
  go_loopw [4] (fun i wr => ∃ k : Nat, k ≤ m ∧ i = .int .i64 k ∧ Ev w wr) (fun i _ => m - (intOf i).toNat)
  case atStart => exact ⟨0, by omega, rfl, Ev.refl w⟩
  case round =>
    obtain ⟨k, hk, rfl, hev⟩ := hrel
    have HEV := Lib.hid hev
    clear hev
    by_cases hlt : k < L.length
    · obtain ⟨hu, b, o, rfl, hb, c1, c2⟩ := (HR.out.ev HEV.out).2 k hlt
      have hlt' : (k : Int) < (L.length : Int) := by omega
      have hk0 : 0 ≤ (k : Int) := by omega
      have hfr : fr L k = (L.getD k (0, 0)).1 := rfl
      have hus : us L k = (L.getD k (0, 0)).2 := rfl
      rw [← hfr] at c1
      rw [← hus] at c2 hu
      clear hfr hus
      have HER : Hid (erK L k = if ckE (fr L k) = 2 then 2 else if us L k = 0 then 9 else if 0 < k ∧ fr L k ≤ fr L (k - 1) then 8 else 0) := Lib.hid rfl
      have HC := Lib.hid (⟨c1, c2⟩ : wr.cell? ⟨b, o + k * 2, none⟩ = _ ∧ wr.cell? ⟨b, o + k * 2 + 1, none⟩ = _)
      obtain ⟨f, hf⟩ : ∃ f, fr L k = f := ⟨_, rfl⟩
      obtain ⟨u, hu'⟩ : ∃ u, us L k = u := ⟨_, rfl⟩
      rw [hf, hu'] at HER
      rw [hf] at c1
      rw [hu'] at c2 hu
      have HF := Lib.hid hf
      clear hf hu'
      have HE := Lib.hid HEV.out
      have HC2 : Hid (∀ W, Ev wr W → W.cell? ⟨b, o + k * 2, none⟩ = some (.int .i64 f) ∧ W.cell? ⟨b, o + k * 2 + 1, none⟩ = some (.int .u8 (u : Int))) := Lib.hid fun W e => ⟨by rw [e.cell (p := ⟨b, o + k * 2, none⟩) hb]; exact c1, by rw [e.cell (p := ⟨b, o + k * 2 + 1, none⟩) hb]; exact c2⟩
      have HR2 := Lib.hid (HR.out.ev HE.out)
      rcases ckE_cases f with ⟨hc, -⟩ | ⟨hc, -, -⟩
      · have HK := Lib.hid (H1.out f u)
        rw [hc] at HK HER
        rw [if_pos rfl] at HER
        have hkm : k = m ∧ E = 2 := by
          rcases Nat.lt_or_ge k m with h | h
          · have := HZ.out k h; rw [HER.out] at this; omega
          · rcases HEE.out with ⟨h1, h2⟩ | ⟨h1, h2, h3⟩
            · omega
            · obtain rfl : k = m := by omega
              exact ⟨rfl, h2.trans HER.out⟩
        obtain ⟨rfl, rfl⟩ := hkm
        clear hc
        go_wp2_with fail
        refine (HK.out _).mono ?_
        rintro e w1 ⟨rfl, hev⟩
        have hE := HE.out.step hev
        clear c1 c2 hev
        go_wp2_with fail
        go_ret2
        exact ⟨rfl, hE⟩
      · have HK := Lib.hid (H1.out f u)
        rw [hc] at HK HER
        rw [if_neg (by decide)] at HER
        clear hc
        go_wp2_with fail
        refine (HK.out _).mono ?_
        rintro e w1 ⟨rfl, hev⟩
        have HE := Lib.hid (HE.out.step hev)
        have HR2 := Lib.hid (HR2.out.ev hev)
        clear c1 c2
        obtain ⟨c1, c2⟩ := HC2.out _ hev
        clear hev
        rcases Nat.eq_zero_or_pos u with hu0 | hu0
        · rw [if_pos hu0] at HER
          have hkm : k = m ∧ E = 9 := by
            rcases Nat.lt_or_ge k m with h | h
            · have := HZ.out k h; rw [HER.out] at this; omega
            · rcases HEE.out with ⟨h1, h2⟩ | ⟨h1, h2, h3⟩
              · omega
              · obtain rfl : k = m := by omega
                exact ⟨rfl, h2.trans HER.out⟩
          obtain ⟨rfl, rfl⟩ := hkm
          have hE := HE.out
          subst hu0
          go_wp2_with fail
          go_ret2
          exact ⟨rfl, hE⟩
        · rw [if_neg (by omega)] at HER
          have hs : ((u : Int) == 0) = false := by simp; omega
          clear hu0
          rcases Nat.eq_zero_or_pos k with hk0' | hkp
          · have hkm : 0 < m := by
              rw [if_neg (by omega)] at HER
              rcases Nat.lt_or_ge k m with h | h
              · omega
              · rcases HEE.out with ⟨h1, h2⟩ | ⟨h1, h2, h3⟩
                · omega
                · obtain rfl : k = m := by omega
                  exact absurd (h2.trans HER.out) h3
            subst hk0'
            go_wp2_with fail
            go_quiet (fail)
            go_wp2_with fail
            go_roundw
            case rel => exact ⟨0 + 1, by omega, by go_num, HE.out.drewN _⟩
            case measure => simp [intOf]; omega
          · obtain ⟨q, rfl⟩ : ∃ q, k = q + 1 := ⟨k - 1, by omega⟩
            obtain ⟨-, b', o', hbo, hb', c1', c2'⟩ := HR2.out.2 q (by omega)
            obtain ⟨rfl, rfl⟩ : b = b' ∧ o = o' := by simpa using hbo
            have hg : fr L q = (L.getD q (0, 0)).1 := rfl
            rw [← hg] at c1'
            clear hg hbo
            rw [show q + 1 - 1 = q from rfl] at HER
            generalize fr L q = g at *
            have i1 : IntKind.i64.wrap ((q : Int) + 1 - 1) = (q : Int) := by rw [show (q : Int) + 1 - 1 = q from by omega]; exact IntWalk.i64_in _ (by omega)
            have i2 : (0 : Int) < (q : Int) + 1 := by omega
            have i3 : 0 ≤ (q : Int) := by omega
            have i4 : (q : Int) < (L.length : Int) := by omega
            by_cases hfg : f ≤ g
            · rw [if_pos ⟨by omega, hfg⟩] at HER
              have hkm : q + 1 = m ∧ E = 8 := by
                rcases Nat.lt_or_ge (q + 1) m with h | h
                · have := HZ.out _ h; rw [HER.out] at this; omega
                · rcases HEE.out with ⟨h1, h2⟩ | ⟨h1, h2, h3⟩
                  · omega
                  · obtain rfl : q + 1 = m := by omega
                    exact ⟨rfl, h2.trans HER.out⟩
              obtain ⟨rfl, rfl⟩ := hkm
              go_wp2_with fail
              go_quiet (fail)
              have hE := HE.out.drewN nq
              go_wp2_with fail
              go_ret2
              exact ⟨rfl, hE⟩
            · rw [if_neg (fun h => hfg h.2)] at HER
              have hfg' : g < f := by omega
              have hkm : q + 1 < m := by
                rcases Nat.lt_or_ge (q + 1) m with h | h
                · omega
                · rcases HEE.out with ⟨h1, h2⟩ | ⟨h1, h2, h3⟩
                  · omega
                  · obtain rfl : q + 1 = m := by omega
                    exact absurd (h2.trans HER.out) h3
              clear hfg
              go_wp2_with fail
              go_quiet (fail)
              go_wp2_with fail
              go_roundw
              case rel => exact ⟨q + 1 + 1, by omega, by go_num, HE.out.drewN _⟩
              case measure => simp [intOf]; omega
    · obtain rfl : k = m := by omega
      obtain ⟨hml, rfl⟩ : k = L.length ∧ E = 0 := by rcases HEE.out with ⟨h1, h2⟩ | ⟨h1, h2, h3⟩ <;> first | exact ⟨h1, h2⟩ | omega
      have hlt' : ¬ (k : Int) < (L.length : Int) := by omega
      have hE := HEV.out
      clear hml
      go_wp2_with fail
      go_ret2
      exact ⟨rfl, hE⟩
end Go.Proofs.Ytabojlbodjfphaa
