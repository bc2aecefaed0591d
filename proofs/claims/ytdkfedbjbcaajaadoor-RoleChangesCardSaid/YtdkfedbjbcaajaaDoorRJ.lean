import Derived.Test.YtdkfedbjbcaajaaDoorRI
import Derived.Test.YtdkfedbjbcaajaaDoorRF
import Derived.Lib.SlBytesRow
namespace Go.Proofs.YtdkfedbjbcaajaaDoor
open Go.RowKit
theorem info5 : (Tryd.prog.info? 5).map (fun i => (i.zero, i.size, i.bytes)) = some (some (.int .u8 0), 1, 1) := by kernel_rfl
def chR (r : Int) : Nat := lt8 r.toNat
theorem chR_lt (r : Int) : chR r < 256 := by
  unfold chR lt8
  rcases Nat.lt_or_ge r.toNat 8 with h | h
  · rcases (show r.toNat = 0 ∨ r.toNat = 1 ∨ r.toNat = 2 ∨ r.toNat = 3 ∨ r.toNat = 4 ∨ r.toNat = 5 ∨ r.toNat = 6 ∨ r.toNat = 7 by omega) with e | e | e | e | e | e | e | e <;> rw [e] <;> decide
  · rw [List.getD_eq_getElem?_getD, List.getElem?_eq_none (by simpa using h)]; decide
def txB (l : List Int) : ByteArray := ⟨(l.map fun r => UInt8.ofNat (chR r)).toArray⟩
theorem txB_size (l : List Int) : (txB l).size = l.length := by unfold txB; simp [ByteArray.size]
theorem txB_at (l : List Int) (i : Nat) (h : i < (txB l).size) : ((txB l)[i]'h).toNat = chR (l.getD i 0) := by
  have h' : i < l.length := by rw [txB_size] at h; exact h
  have e : (txB l)[i]'h = UInt8.ofNat (chR (l.getD i 0)) := by
    have : (txB l)[i]'h = (l.map fun r => UInt8.ofNat (chR r))[i]'(by simpa using h') := rfl
    rw [this, List.getElem_map, List.getD_eq_getElem?_getD, List.getElem?_eq_getElem h']
    rfl
  rw [e]
  have := chR_lt (l.getD i 0)
  generalize chR (l.getD i 0) = z at *
  rw [UInt8.toNat_ofNat']
  omega
def tx (l : List Int) (i : Nat) (k : Nat) : Value := .int .u8 ((if k < i then chR (l.getD k 0) else 0 : Nat) : Int)
theorem str_conv (W : World) (b : Nat) (l : List Int) (cap : Nat) (h : W.rowIs b 5 l.length (tx l l.length)) : (convert 63 9 (.slice (some ⟨b, 0, none⟩) l.length cap)).run Tryd.prog W = .ok (.string (txB l)) W := by
  have := Lib.run_convert_whole (P := Tryd.prog) W 63 5 9 Tryd.underlying63 Tryd.underlying5 Tryd.underlying9 b 0 (txB l) (fun i hi => by
    have h' : i < l.length := by rw [txB_size] at hi; exact hi
    rw [Nat.zero_add, h.cell h', txB_at]
    unfold tx
    rw [if_pos h']) cap
  rwa [txB_size] at this
set_option maxRecDepth 100000 in
set_option maxHeartbeats 4000000 in
theorem text_ok (A : Option Addr) (c : Nat) (l : List Int) (w : World) (hr : RdI w A l) (hl : ¬ 256 < l.length) (hg : goodL l l.length) :
    Calls Tryd.prog 29 #[.slice A l.length c] w fun e w' => e = .returned (.tuple #[.string (txB l), .int .i64 0]) ∧ Ev w w' := by
  have HR := Lib.hid hr
  have HGL := Lib.hid hg
  have hC := check_any A c l w hr
  rw [chk_good l hl hg] at hC
  have HC := Lib.hid hC
  have hmk := fun W => run_make_row' (P := Tryd.prog) 63 5 (.int .u8 0) 1 Tryd.underlying63 info5 rfl .i64 .i64 l.length (by omega) (by omega) W
  have hm := hmk w
  have HB := Lib.hid (World.rowIs_made w (.int .u8 0) l.length 5)
  have HE : Hid (Ev w (w.alloc (.cells (madeCells #[.int .u8 0] l.length) 5))) := Lib.hid ((Ev.refl w).alloc _)
  generalize (w.alloc (.cells (madeCells #[.int .u8 0] l.length) 5)) = W0 at *
  have hl' : (l.length : Int) ≤ 256 := by omega
  have HM := Lib.hid hm
  clear hr hl hg hC hmk hm
  go_enter Tryd.func29, Tryd.ntmps29
  go_wp2_with fail
  refine HC.out.mono ?_
  rintro e w5 ⟨rfl, rfl⟩
  have hm := HM.out
  go_upto_region 6 with fail
  clear hm HM
  go_loopg [22] l.length (fun gh iv wr => ∃ i : Nat, gh + i = l.length ∧ iv = .int .i64 i ∧ wr.rowIs w.heap.size 5 l.length (tx l i) ∧ Ev w wr)
  case atStart => exact ⟨0, rfl, rfl, HB.out.congr (fun k hk => by unfold tx; rw [if_neg (by omega)]; rfl), HE.out⟩
  case round =>
    obtain ⟨i, hg, rfl, hrow, hev⟩ := hrel
    have HG := Lib.hid hg
    have HRW := Lib.hid hrow
    have HV := Lib.hid hev
    clear hrow hev
    by_cases h1 : i < l.length
    · have h1' : (i : Int) < (l.length : Int) := by omega
      have hi0' : (0 : Int) ≤ (i : Int) := by omega
      have hi256 : (i : Int) < 256 := by omega
      obtain ⟨b, o, rfl, hb, c1⟩ := (HR.out.ev HV.out).2 i h1
      obtain ⟨n, hn8, hn⟩ := isR_nat (HGL.out i h1)
      have hn8' : (n : Int) < 8 := by omega
      have hn0 : (0 : Int) ≤ (n : Int) := by omega
      have hy : ((⟨#[46, 80, 83, 84, 77, 87, 82, 79]⟩ : ByteArray)[n]'hn8).toNat = lt8 n := exAt ⟨n, hn8⟩
      have HN : Hid ((wr.setCell ⟨w.heap.size, i, none⟩ (.int .u8 (lt8 n : Int))).rowIs w.heap.size 5 l.length (tx l (i + 1))) := Lib.hid ((World.rowIs.set HRW.out i _).congr (fun k hk => by
        unfold tx
        by_cases e : k = i
        · subst e
          rw [if_pos rfl, if_pos (by omega), hn]; rfl
        · rw [if_neg e]
          by_cases e2 : k < i
          · rw [if_pos e2, if_pos (by omega)]
          · rw [if_neg e2, if_neg (by omega)]))
      have HV2 : Hid (Ev w (wr.setCell ⟨w.heap.size, i, none⟩ (.int .u8 (lt8 n : Int)))) := Lib.hid (HV.out.setC (by simp) _)
      have H1 := Lib.hid h1
      have d0 := HRW.out.cell h1
      have e0 := HRW.out.frozen i
      rw [hn] at c1
      generalize lt8 n = ch at *
      generalize tx l i i = ov at *
      clear hg h1 hn
      go_wp2_with fail
      go_roundg (gk - 1)
      case rel => exact ⟨i + 1, by have := HG.out; have := H1.out; omega, by go_num, HN.out, HV2.out⟩
      case measure => have := HG.out; have := H1.out; omega
    · obtain rfl : i = l.length := by omega
      have hcv := str_conv wr w.heap.size l l.length HRW.out
      clear hg h1
      go_wp2_with fail
      exact bodyPost_ret (v := .tuple #[.string (txB l), .int .i64 0]) (by simp [results, Tryd.results29, go_sem]) rfl ⟨rfl, HV.out⟩
end Go.Proofs.YtdkfedbjbcaajaaDoor
