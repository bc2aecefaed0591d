import Derived.Test.YtabojlbodjfphaaL5
namespace Go.Proofs.Ytabojlbodjfphaa
open Go.RowKit Go.Shelf
set_option maxHeartbeats 1000000 in
theorem has_no (A : Option Addr) (c : Nat) (l : List Int) (n : Int) (w : World) (hr : RdI w A l) (h : ∀ j, j < l.length → l.getD j 0 ≠ n) : Calls Try.prog 35 #[.slice A l.length c, .int .i64 n] w fun e w' => e = .returned (.bool false) ∧ Ev w w' := by
  have HR := Lib.hid hr
  have HN := Lib.hid h
  have hn := hr.1
  clear hr h
  go_enter Try.func35, Try.ntmps35
  go_wp2_with fail
  go_loopw [5] (fun i wr => ∃ k : Nat, k ≤ l.length ∧ i = .int .i64 k ∧ Ev w wr) (fun i _ => l.length - (intOf i).toNat)
  case atStart => exact ⟨0, by omega, rfl, Ev.refl w⟩
  case round =>
    obtain ⟨k, hk, rfl, hev⟩ := hrel
    have HEV := Lib.hid hev
    clear hev
    by_cases hlt : k < l.length
    · obtain ⟨b, o, rfl, hb, c1⟩ := (HR.out.ev HEV.out).2 k hlt
      have hne : (l.getD k 0 == n) = false := by simpa using HN.out k hlt
      generalize l.getD k 0 = x at *
      have hlt' : (k : Int) < (l.length : Int) := by omega
      have hk0 : 0 ≤ (k : Int) := by omega
      go_wp2_with fail
      go_roundw
      case rel => exact ⟨k + 1, by omega, by go_num, HEV.out⟩
      case measure => simp [intOf]; omega
    · obtain rfl : k = l.length := by omega
      go_wp2_with fail
      go_ret
      exact ⟨rfl, HEV.out⟩
set_option maxHeartbeats 1000000 in
theorem has_yes (A : Option Addr) (c m : Nat) (l : List Int) (n : Int) (w : World) (hr : RdI w A l) (hm : m < l.length) (h : ∀ j, j < m → l.getD j 0 ≠ n) (he : l.getD m 0 = n) : Calls Try.prog 35 #[.slice A l.length c, .int .i64 n] w fun e w' => e = .returned (.bool true) ∧ Ev w w' := by
  have HR := Lib.hid hr
  have HN := Lib.hid h
  have HEE := Lib.hid he
  have hn := hr.1
  clear hr h he
  go_enter Try.func35, Try.ntmps35
  go_wp2_with fail
  go_loopw [5] (fun i wr => ∃ k : Nat, k ≤ m ∧ i = .int .i64 k ∧ Ev w wr) (fun i _ => l.length - (intOf i).toNat)
  case atStart => exact ⟨0, by omega, rfl, Ev.refl w⟩
  case round =>
    obtain ⟨k, hk, rfl, hev⟩ := hrel
    have HEV := Lib.hid hev
    clear hev
    have hltl : k < l.length := by omega
    obtain ⟨b, o, rfl, hb, c1⟩ := (HR.out.ev HEV.out).2 k hltl
    have hlt' : (k : Int) < (l.length : Int) := by omega
    have hk0 : 0 ≤ (k : Int) := by omega
    by_cases hlt : k < m
    · have hne : (l.getD k 0 == n) = false := by simpa using HN.out k hlt
      generalize l.getD k 0 = x at *
      go_wp2_with fail
      go_roundw
      case rel => exact ⟨k + 1, by omega, by go_num, HEV.out⟩
      case measure => simp [intOf]; omega
    · obtain rfl : k = m := by omega
      have hne : (n == n) = true := by simp
      rw [HEE.out] at c1
      go_wp2_with fail
      go_ret
      exact ⟨rfl, HEV.out⟩
theorem has_in (A : Option Addr) (c : Nat) (l : List Int) (n : Int) (w : World) (hr : RdI w A l) (h : n ∈ l) : Calls Try.prog 35 #[.slice A l.length c, .int .i64 n] w fun e w' => e = .returned (.bool true) ∧ Ev w w' := by
  rcases first_bad (fun j => if l.getD j 0 = n then 1 else 0) l.length with h0 | ⟨k, h1, h2, h3⟩
  · obtain ⟨j, hj, e⟩ := List.getElem_of_mem h
    have := h0 j hj
    simp [List.getD, hj, e] at this
  · exact has_yes A c k l n w hr h1 (fun j hj e => by have := h3 j hj; rw [if_pos e] at this; omega) (by
      by_cases e : l.getD k 0 = n
      · exact e
      · exact absurd (if_neg e) h2)
theorem has_out (A : Option Addr) (c : Nat) (l : List Int) (n : Int) (w : World) (hr : RdI w A l) (h : n ∉ l) : Calls Try.prog 35 #[.slice A l.length c, .int .i64 n] w fun e w' => e = .returned (.bool false) ∧ Ev w w' :=
  has_no A c l n w hr (fun j hj e => h (by rw [← e]; simp [List.getD, hj]))
theorem lowF : ∀ u : Fin 256, u.1 ≠ 0 → (plsN u.1 8).head? = some (tz u.1) ∧ tz u.1 < 8 ∧ u.1 / 2 ^ tz u.1 % 2 = 1 ∧ lo (u.1 - 2 ^ tz u.1) = 0 ∧ nx (u.1 - 2 ^ tz u.1) < 256 ∧ u.1 - 2 ^ tz u.1 < 255 ∧ (tz u.1 = 0 → nx (u.1 - 2 ^ tz u.1) = u.1) := by decide +kernel
theorem highF : ∀ u : Fin 256, u.1 < 255 → cn (nx u.1) = cn u.1 + 1 ∧ (plsN u.1 8).contains (lo u.1) = false ∧ (plsN (nx u.1) 8).contains (lo u.1) = true ∧ (plsN u.1 8).all (fun p => (plsN (nx u.1) 8).contains p) = true ∧ nx u.1 / 2 ^ lo u.1 % 2 = 1 ∧ nx u.1 - 2 ^ lo u.1 = u.1 := by decide +kernel
theorem ob_mem (f : Int) (u p : Nat) : (f * 8 + (p : Int)) ∈ obK f u 8 ↔ p ∈ plsN u 8 := by
  unfold obK
  constructor
  · intro h
    obtain ⟨q, hq, e⟩ := List.mem_map.1 h
    obtain rfl : q = p := by omega
    exact hq
  · intro h
    exact List.mem_map.2 ⟨p, h, rfl⟩
theorem free_ok {f : Int} {u p : Nat} (h0 : 0 ≤ f) (h1 : f < 256) (hp : p < 8) (hb : u / 2 ^ p % 2 = 1) : frV f u (f * 8 + (p : Int)) = .tuple #[sl f (u - 2 ^ p), .int .i64 0] := by
  have e1 : spE (f * 8 + (p : Int)) = 0 := if_pos (by omega)
  have e2 : spF (f * 8 + (p : Int)) = f := by unfold spF; rw [if_pos (by omega)]; omega
  have e3 : spP (f * 8 + (p : Int)) = p := by unfold spP; rw [if_pos (by omega)]; omega
  have e4 : frE f u (f * 8 + (p : Int)) = 0 := by
    unfold frE
    rw [show ckE f = 0 from if_pos ⟨h0, h1⟩, e1, e2, e3, Int.toNat_natCast, hb]
    simp
  unfold frV
  rw [e4, if_pos rfl, e3, Int.toNat_natCast]
set_option maxHeartbeats 1000000 in
theorem made_any (n : Int) (w : World) (hn0 : -9223372036854775808 ≤ n) (hn1 : n ≤ 9223372036854775807) : Calls Try.prog 34 #[.int .i64 n] w fun e w' => ∃ (f : Int) (u : Nat), e = .returned (sl f u) ∧ (0 ≤ f ∧ f < 256 ∧ u < 256) ∧ Ev w w' := by
  have M1 := Lib.hid fun W => mod_any (n.tdiv 256) 256 W (by omega) (by omega)
  have M2 := Lib.hid fun W => mod_any n 256 W (by omega) (by omega)
  have h1 : 0 ≤ n % 256 ∧ n % 256 < 256 := ⟨Int.emod_nonneg _ (by omega), Int.emod_lt_of_pos _ (by omega)⟩
  have h2 : 0 ≤ n.tdiv 256 % 256 ∧ n.tdiv 256 % 256 < 256 := ⟨Int.emod_nonneg _ (by omega), Int.emod_lt_of_pos _ (by omega)⟩
  obtain ⟨u, hu⟩ : ∃ u : Nat, n % 256 = u := ⟨(n % 256).toNat, by omega⟩
  rw [hu] at M2 h1
  generalize n.tdiv 256 % 256 = f at *
  have hw : IntKind.i64.wrap (n.tdiv 256) = n.tdiv 256 := IntWalk.i64_in _ (by rw [Int.tdiv_eq_ediv, show Int.sign 256 = 1 from rfl]; split <;> omega)
  have hu2 : (u : Int) % 256 = u := by omega
  clear hu
  go_enter Try.func34, Try.ntmps34
  go_wp2_with fail
  refine (M1.out _).mono ?_
  rintro e w1 ⟨rfl, rfl⟩
  go_wp2_with fail
  refine (M2.out _).mono ?_
  rintro e w1 ⟨rfl, rfl⟩
  go_wp2_with fail
  refine bodyPost_ret (v := sl f u) (by simp [results, Try.results34, go_sem]) rfl ⟨_, _, rfl, ⟨h2.1, h2.2, by omega⟩, ?_⟩
  exact (Ev.refl _).alloc _
end Go.Proofs.Ytabojlbodjfphaa
