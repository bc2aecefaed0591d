import Derived.Test.YtdkfedbjbcaajaaDoorRU
import Derived.Test.YtdkfedbjbcaajaaDoorRK
namespace Go.Proofs.YtdkfedbjbcaajaaDoor
open Go.RowKit
theorem app_str (l m : List UInt8) : (⟨l.toArray⟩ : ByteArray) ++ ⟨m.toArray⟩ = ⟨(l ++ m).toArray⟩ := by
  apply ByteArray.ext
  simp
theorem let_ext (d : Nat) (h : d < 8) : (⟨#[46, 80, 83, 84, 77, 87, 82, 79]⟩ : ByteArray).extract d (d + 1) = ⟨#[UInt8.ofNat (lt8 d)]⟩ := by
  obtain rfl | rfl | rfl | rfl | rfl | rfl | rfl | rfl : d = 0 ∨ d = 1 ∨ d = 2 ∨ d = 3 ∨ d = 4 ∨ d = 5 ∨ d = 6 ∨ d = 7 := by omega
  all_goals rfl
def txL (l : List Int) (i : Nat) : List UInt8 := (List.range i).map (fun k => UInt8.ofNat (chR (l.getD k 0)))
theorem txL_succ (l : List Int) (i : Nat) : txL l (i + 1) = txL l i ++ [UInt8.ofNat (chR (l.getD i 0))] := by unfold txL; rw [List.range_succ, List.map_append]; rfl
theorem txL_len (l : List Int) (i : Nat) : (txL l i).length = i := by unfold txL; simp
theorem txL_all (l : List Int) : (⟨(txL l l.length).toArray⟩ : ByteArray) = txB l := by
  unfold txB txL
  congr 2
  apply List.ext_getElem?
  intro i
  rw [List.getElem?_map, List.getElem?_map]
  by_cases h : i < l.length
  · rw [List.getElem?_range h, List.getElem?_eq_getElem h]
    simp [h]
  · rw [List.getElem?_eq_none (by simp; omega), List.getElem?_eq_none (by omega)]
    rfl
def tsV (l : List Int) : ByteArray := if (chkV l).1 = 0 then txB l else ⟨#[]⟩
theorem text_any (A : Option Addr) (c : Nat) (l : List Int) (w : World) (hr : RdI w A l) :
    Calls Tryd.prog 29 #[.slice A l.length c] w fun e w' => e = .returned (.tuple #[.string (tsV l), .int .i64 (chkV l).1]) ∧ Ev w w' := by
  rcases chk_cases l with ⟨h0, hl, hg⟩ | h0
  · have := text_ok A c l w hr hl hg
    unfold tsV
    rw [if_pos h0, h0]
    exact this
  · have HC := Lib.hid (check_any A c l w hr)
    have HT : Hid (tsV l = ⟨#[]⟩) := Lib.hid (by unfold tsV; rw [if_neg h0])
    rw [HT.out]
    generalize (chkV l).1 = er at *
    generalize (chkV l).2 = er2 at *
    have hq : (er != 0) = true := by simpa using h0
    clear hr h0
    go_enter Tryd.func29, Tryd.ntmps29
    go_wp2_with fail
    refine HC.out.mono ?_
    rintro e w5 ⟨rfl, rfl⟩
    go_wp2_with fail
    exact bodyPost_ret (v := .tuple #[.string ⟨#[]⟩, .int .i64 er]) (by simp [results, Tryd.results29, go_sem]) rfl ⟨rfl, Ev.refl _⟩
set_option maxRecDepth 100000 in
set_option maxHeartbeats 4000000 in
theorem rtext_any (A : Option Addr) (c : Nat) (l : List Int) (w : World) (hr : RdI w A l) :
    Calls Tryd.prog 30 #[.slice A l.length c] w fun e w' => e = .returned (.tuple #[.string (tsV l), .int .i64 (chkV l).1]) ∧ Ev w w' := by
  have HR := Lib.hid hr
  have HC := Lib.hid (rcheck_any A c l w hr)
  rcases chk_cases l with ⟨h0, hl, hg⟩ | h0
  · have HT : Hid (tsV l = txB l) := Lib.hid (by unfold tsV; rw [if_pos h0])
    rw [h0] at HC
    rw [h0]
    have HGL := Lib.hid hg
    have hl' : (l.length : Int) ≤ 256 := by omega
    clear hr hl hg h0
    go_enter Tryd.func30, Tryd.ntmps30
    go_wp2_with fail
    refine HC.out.mono ?_
    rintro e w5 ⟨rfl, rfl⟩
    go_upto_region 6 with fail
    go_loopg [6, 7] l.length (fun gh sv iv wr => ∃ i m : Nat, gh + i = l.length ∧ iv = .int .i64 i ∧ sv = .string ⟨(txL l i).toArray⟩ ∧ wr = w.drewN m)
    case atStart => exact ⟨0, 0, rfl, rfl, rfl, rfl⟩
    case round =>
      obtain ⟨i, m, hg, rfl, rfl, rfl⟩ := hrel
      have HGI := Lib.hid hg
      by_cases h1 : i < l.length
      · have h1' : (i : Int) < (l.length : Int) := by omega
        have hi0' : (0 : Int) ≤ (i : Int) := by omega
        have hi256 : (i : Int) < 256 := by omega
        obtain ⟨b, o, rfl, hb, c1⟩ := HR.out.2 i h1
        obtain ⟨n, hn8, hn⟩ := isR_nat (HGL.out i h1)
        have hn8' : (n : Int) < 8 := by omega
        have hn0 : (0 : Int) ≤ (n : Int) := by omega
        have HS : Hid (txL l (i + 1) = txL l i ++ [UInt8.ofNat (lt8 n)]) := Lib.hid (by rw [txL_succ, hn]; rfl)
        have hx := let_ext n hn8
        have hap := app_str (txL l i) [UInt8.ofNat (lt8 n)]
        have hlen := txL_len l i
        have hlb : (txL l i).length ≤ 256 := by omega
        have hll : ¬ 9223372036854775807 < (txL l i).length + 1 := by omega
        have H1 := Lib.hid h1
        have hw1 : IntKind.i64.wrap ((n : Int) + 1) = (n : Int) + 1 := IntWalk.i64_in _ (by omega)
        have hw2 : (0 : Int) ≤ (n : Int) + 1 := by omega
        have hw3 : ((n : Int) + 1).toNat = n + 1 := by omega
        have hw4 : (n : Int) ≤ (n : Int) + 1 := by omega
        have hw5 : (n : Int) + 1 ≤ 8 := by omega
        rw [hn] at c1
        generalize txL l i = T at *
        generalize UInt8.ofNat (lt8 n) = y at *
        clear hg h1 hn hlen
        go_wp2_with fail
        go_quiet (fail)
        go_wp2_with fail
        go_roundg (gk - 1)
        case rel => exact ⟨i + 1, m + nq, by have := HGI.out; have := H1.out; omega, by go_num, by rw [HS.out], rfl⟩
        case measure => have := HGI.out; have := H1.out; omega
      · obtain rfl : i = l.length := by omega
        clear hg h1
        go_wp2_with fail
        exact bodyPost_ret (v := .tuple #[.string ⟨(txL l l.length).toArray⟩, .int .i64 0]) (by simp [results, Tryd.results30, go_sem]) rfl ⟨by rw [HT.out, txL_all], below_drewN (Below.refl _ _) _⟩
  · have HT : Hid (tsV l = ⟨#[]⟩) := Lib.hid (by unfold tsV; rw [if_neg h0])
    rw [HT.out]
    generalize (chkV l).1 = er at *
    generalize (chkV l).2 = er2 at *
    have hq : (er != 0) = true := by simpa using h0
    clear hr h0
    go_enter Tryd.func30, Tryd.ntmps30
    go_wp2_with fail
    refine HC.out.mono ?_
    rintro e w5 ⟨rfl, rfl⟩
    go_wp2_with fail
    exact bodyPost_ret (v := .tuple #[.string ⟨#[]⟩, .int .i64 er]) (by simp [results, Tryd.results30, go_sem]) rfl ⟨rfl, Ev.refl _⟩
end Go.Proofs.YtdkfedbjbcaajaaDoor
