import Derived.Test.YtdkfedbjbcaajaaDoorRF
namespace Go.Proofs.YtdkfedbjbcaajaaDoor
open Go.RowKit
def PC (f : Nat) (s : ByteArray) (l : List Int) (er a : Int) (w : World) : Prop :=
  Calls Tryd.prog f #[.string s] w fun e w' => ∃ v, e = .returned (.tuple #[v, fl er a]) ∧ OwnI w' w.heap.size v l ∧ Ev w w'
theorem pc_of {f : Nat} {s : ByteArray} (h : ∀ w, Calls Tryd.prog f #[.string s] w fun e w' => (∃ v, (goodTo s s.size ∧ e = .returned (.tuple #[v, .agg #[.int .i64 0, .int .i64 0]]) ∧ OwnI w' w.heap.size v (rolesOf s s.size)) ∨ (∃ i : Nat, i < s.size ∧ goodTo s i ∧ roleV (at' s i) < 0 ∧ e = .returned (.tuple #[v, .agg #[.int .i64 3, .int .i64 i]]) ∧ v = .slice none 0 0)) ∧ Ev w w') :
    (goodTo s s.size → ∀ w, PC f s (rolesOf s s.size) 0 0 w) ∧ (∀ i, i < s.size → goodTo s i → roleV (at' s i) < 0 → ∀ w, PC f s [] 3 (i : Int) w) := by
  refine ⟨fun hg w => (h w).mono fun e w' hh => ?_, fun i hi hg hn w => (h w).mono fun e w' hh => ?_⟩
  · obtain ⟨⟨v, h1 | ⟨i, hi, _, hn, _⟩⟩, hev⟩ := hh
    · exact ⟨v, h1.2.1, h1.2.2, hev⟩
    · have := hg i hi; omega
  · obtain ⟨⟨v, h1 | ⟨j, hj, hgj, hnj, he, rfl⟩⟩, hev⟩ := hh
    · have := h1.1 i hi; omega
    · have e : j = i := by
        rcases Nat.lt_trichotomy j i with h | h | h
        · have := hg j h; omega
        · exact h
        · have := hgj i h; omega
      subst e
      exact ⟨_, he, nil_own _ _, hev⟩
theorem first_bad (s : ByteArray) (n : Nat) : goodTo s n ∨ ∃ i, i < n ∧ goodTo s i ∧ roleV (at' s i) < 0 := by
  induction n with
  | zero => exact .inl fun j hj => by omega
  | succ n ih =>
    rcases ih with h | ⟨i, hi, h⟩
    · by_cases hn : 0 ≤ roleV (at' s n)
      · exact .inl fun j hj => by
          rcases Nat.lt_or_ge j n with h2 | h2
          · exact h j h2
          · obtain rfl : j = n := by omega
            exact hn
      · exact .inr ⟨n, by omega, h, by omega⟩
    · exact .inr ⟨i, by omega, h⟩
theorem parses_u (s : ByteArray) (hs : s.size ≤ 300) : ∃ l er a, l.length ≤ 300 ∧ (∀ w, PC 31 s l er a w) ∧ (∀ w, PC 32 s l er a w) := by
  by_cases hl : 256 < s.size
  · exact ⟨[], 4, 256, by simp, fun w => (parse_long s w hl (by omega)).mono fun e w' hh => ⟨_, hh.1, nil_own _ _, hh.2⟩, fun w => (rparse_long s w hl (by omega)).mono fun e w' hh => ⟨_, hh.1, nil_own _ _, hh.2⟩⟩
  · have h1 := pc_of (f := 31) (s := s) fun w => parse_any s w (by omega)
    have h2 := pc_of (f := 32) (s := s) fun w => rparse_any s w (by omega)
    rcases first_bad s s.size with hg | ⟨i, hi, hg, hn⟩
    · exact ⟨_, 0, 0, by rw [rolesOf_len]; omega, h1.1 hg, h2.1 hg⟩
    · exact ⟨[], 3, i, by simp, h1.2 i hi hg hn, h2.2 i hi hg hn⟩
set_option maxRecDepth 100000 in
set_option maxHeartbeats 4000000 in
theorem parses_law (s : ByteArray) (w : World) (hT : Tab w) : Calls Tryd.prog 6 #[.string s] w fun e w' => e = .returned (.bool true) ∧ Ev w w' := by
  by_cases hs : s.size ≤ 300
  · have hs' : (s.size : Int) ≤ 300 := by omega
    obtain ⟨l, er, a, hl, H1, H2⟩ := parses_u s hs
    have C1 := Lib.hid (H1 w)
    have C2 := Lib.hid H2
    unfold PC at C1 C2
    have HTT := Lib.hid hT
    have HF : Hid (∀ e a W, Sem.run Tryd.prog (Op.equalIn 10000 47 (fl e a) (fl e a)) W = .ok true W) := Lib.hid fun e a W => by rw [eq47]; simp
    clear H1 H2 hT
    go_enter Tryd.func6, Tryd.ntmps6
    go_wp2_with fail
    refine C1.out.mono ?_
    rintro e w1 ⟨v, rfl, hown, hev⟩
    obtain ⟨A, c, rfl, hr⟩ := RdI.of_own hown (by omega)
    have HR1 := Lib.hid (hr.ev (Ev.alloc (Ev.refl w1) (.cells #[.int .i64 er, .int .i64 a] 47)))
    have HE1 := Lib.hid (hev.alloc (.cells #[.int .i64 er, .int .i64 a] 47))
    have HB1 := Lib.hid (box2_new w1 er a 47)
    have HS1 : Hid (w1.heap.size < (w1.alloc (.cells #[.int .i64 er, .int .i64 a] 47)).heap.size) := Lib.hid (by simp)
    clear hr hev hown
    go_upto_region 4 with fail
    generalize (w1.alloc (.cells #[.int .i64 er, .int .i64 a] 47)) = W1 at *
    go_wp2_with fail
    refine (C2.out _).mono ?_
    rintro e w2 ⟨v, rfl, hown, hev⟩
    obtain ⟨A2, c2, rfl, hr⟩ := RdI.of_own hown (by omega)
    have HR2 := Lib.hid (hr.ev (Ev.alloc (Ev.refl w2) (.cells #[.int .i64 er, .int .i64 a] 47)))
    have HE2 := Lib.hid (hev.alloc (.cells #[.int .i64 er, .int .i64 a] 47))
    have HB2 := Lib.hid (box2_new w2 er a 47)
    have HS2 : Hid (w2.heap.size < (w2.alloc (.cells #[.int .i64 er, .int .i64 a] 47)).heap.size) := Lib.hid (by simp)
    clear hr hev hown
    go_upto_region 5 with fail
    generalize (w2.alloc (.cells #[.int .i64 er, .int .i64 a] 47)) = W2 at *
    go_wp2_with fail
    refine (sameI A A2 c c2 l W2 (HR1.out.ev HE2.out) HR2.out).mono ?_
    rintro e w3 ⟨rfl, hev⟩
    have HE3 := Lib.hid hev
    clear hev
    obtain ⟨c0, c1⟩ := HB1.out.ev HS1.out (HE2.out.step HE3.out)
    obtain ⟨d0, d1⟩ := HB2.out.ev HS2.out HE3.out
    have hf := HF.out
    have HEE := Lib.hid ((HE1.out.step HE2.out).step HE3.out)
    go_wp2_with fail
    clear hf
    refine (awake_any w3 (HTT.out.ev HEE.out)).mono ?_
    rintro e w4 ⟨rfl, hev⟩
    have HE4 := Lib.hid (HEE.out.step hev)
    clear hev
    go_wp2_with fail
    go_ret
    exact ⟨rfl, HE4.out⟩
  · have hs' : (300 : Int) < (s.size : Int) := by omega
    have C := Lib.hid (awake_any w hT)
    go_enter Tryd.func6, Tryd.ntmps6
    go_wp2_with fail
    refine C.out.mono ?_
    rintro e w4 ⟨rfl, hev⟩
    go_wp2_with fail
    go_ret
    exact ⟨rfl, hev⟩
end Go.Proofs.YtdkfedbjbcaajaaDoor
