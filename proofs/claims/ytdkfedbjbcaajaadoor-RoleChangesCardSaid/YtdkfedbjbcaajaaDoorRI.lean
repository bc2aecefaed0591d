import Derived.Test.YtdkfedbjbcaajaaDoorRH
namespace Go.Proofs.YtdkfedbjbcaajaaDoor
open Go.RowKit
def goodL (l : List Int) (n : Nat) : Prop := ∀ j, j < n → isR (l.getD j 0) = true
def chkV (l : List Int) : Int × Int := if 256 < l.length then (5, 0) else match (List.range l.length).find? (fun j => !isR (l.getD j 0)) with
  | none => (0, 0)
  | some i => (14, (i : Int))
theorem chk_long (l : List Int) (h : 256 < l.length) : chkV l = (5, 0) := by unfold chkV; rw [if_pos h]
theorem chk_good (l : List Int) (h : ¬ 256 < l.length) (hg : goodL l l.length) : chkV l = (0, 0) := by
  unfold chkV
  rw [if_neg h]
  have : (List.range l.length).find? (fun j => !isR (l.getD j 0)) = none := by
    rw [List.find?_eq_none]
    intro x hx
    rw [hg x (List.mem_range.1 hx)]
    simp
  rw [this]
theorem chk_bad (l : List Int) (h : ¬ 256 < l.length) (i : Nat) (hi : i < l.length) (hg : goodL l i) (hb : isR (l.getD i 0) = false) : chkV l = (14, (i : Int)) := by
  unfold chkV
  rw [if_neg h]
  have : (List.range l.length).find? (fun j => !isR (l.getD j 0)) = some i := by
    rw [List.find?_range_eq_some]
    refine ⟨by rw [hb]; rfl, List.mem_range.2 hi, fun j hj => ?_⟩
    rw [hg j hj]; rfl
  rw [this]
set_option maxRecDepth 100000 in
set_option maxHeartbeats 4000000 in
theorem check_any (A : Option Addr) (c : Nat) (l : List Int) (w : World) (hr : RdI w A l) :
    Calls Tryd.prog 19 #[.slice A l.length c] w fun e w' => e = .returned (.tuple #[.int .i64 (chkV l).1, .int .i64 (chkV l).2]) ∧ w = w' := by
  have HR := Lib.hid hr
  clear hr
  by_cases hl : 256 < l.length
  · have hl' : (256 : Int) < (l.length : Int) := by omega
    have HC := Lib.hid (chk_long l hl)
    clear hl
    go_enter Tryd.func19, Tryd.ntmps19
    go_wp2_with fail
    exact bodyPost_ret (v := .tuple #[.int .i64 5, .int .i64 0]) (by simp [results, Tryd.results19, go_sem]) rfl ⟨by rw [HC.out], rfl⟩
  · have hl' : (l.length : Int) ≤ 256 := by omega
    have HL := Lib.hid hl
    clear hl
    go_enter Tryd.func19, Tryd.ntmps19
    go_upto_region 4 with fail
    go_loopg [11] l.length (fun gh iv wr => ∃ i : Nat, gh + i = l.length ∧ iv = .int .i64 i ∧ goodL l i ∧ wr = w)
    case atStart => exact ⟨0, rfl, rfl, fun j hj => by omega, rfl⟩
    case round =>
      obtain ⟨i, hg, rfl, hgood, rfl⟩ := hrel
      have HG := Lib.hid hg
      have HGD := Lib.hid hgood
      clear hgood
      by_cases h1 : i < l.length
      · have h1' : (i : Int) < (l.length : Int) := by omega
        have hi0' : (0 : Int) ≤ (i : Int) := by omega
        have hi256 : (i : Int) < 256 := by omega
        obtain ⟨b, o, rfl, hb, c1⟩ := HR.out.2 i h1
        have C := Lib.hid (isRole_any (l.getD i 0) wr)
        have H1 := Lib.hid h1
        by_cases h2 : isR (l.getD i 0) = true
        · have HG2 : Hid (goodL l (i + 1)) := Lib.hid fun j hj => by
            rcases Nat.lt_or_ge j i with h | h
            · exact HGD.out j h
            · obtain rfl : j = i := by omega
              exact h2
          rw [h2] at C
          generalize l.getD i 0 = x at *
          clear hg h1 h2
          go_wp2_with fail
          refine C.out.mono ?_
          rintro e w5 ⟨rfl, rfl⟩
          go_wp2_with fail
          go_roundg (gk - 1)
          case rel => exact ⟨i + 1, by have := HG.out; have := H1.out; omega, by go_num, HG2.out, rfl⟩
          case measure => have := HG.out; have := H1.out; omega
        · have h2 : isR (l.getD i 0) = false := by simpa using h2
          have HC := Lib.hid (chk_bad l HL.out i h1 HGD.out h2)
          rw [h2] at C
          generalize l.getD i 0 = x at *
          clear hg h1 h2
          go_wp2_with fail
          refine C.out.mono ?_
          rintro e w5 ⟨rfl, rfl⟩
          go_wp2_with fail
          exact bodyPost_ret (v := .tuple #[.int .i64 14, .int .i64 i]) (by simp [results, Tryd.results19, go_sem]) rfl ⟨by rw [HC.out], rfl⟩
      · obtain rfl : i = l.length := by omega
        have HC := Lib.hid (chk_good l HL.out HGD.out)
        clear hg h1
        go_wp2_with fail
        exact bodyPost_ret (v := .tuple #[.int .i64 0, .int .i64 0]) (by simp [results, Tryd.results19, go_sem]) rfl ⟨by rw [HC.out], rfl⟩
end Go.Proofs.YtdkfedbjbcaajaaDoor
