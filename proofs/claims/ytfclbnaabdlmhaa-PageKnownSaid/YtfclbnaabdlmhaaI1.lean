import Derived.Test.YtfclbnaabdlmhaaPE
import Derived.Lib.ItoaNum
import Derived.Lib.SlBytesRow
namespace Go.Proofs.Ytfclbnaabdlmhaa
open Go.RowKit Go.Deep
def hexD (i : Nat) : Nat := if i < 10 then 48 + i else 87 + i
def hexc (d : Nat) : UInt8 := UInt8.ofNat (hexD d)
theorem hex_at (d : Nat) (h : d < 16) : (⟨#[48, 49, 50, 51, 52, 53, 54, 55, 56, 57, 97, 98, 99, 100, 101, 102]⟩ : ByteArray)[d]'h = hexc d := by
  obtain rfl | rfl | rfl | rfl | rfl | rfl | rfl | rfl | rfl | rfl | rfl | rfl | rfl | rfl | rfl | rfl : d = 0 ∨ d = 1 ∨ d = 2 ∨ d = 3 ∨ d = 4 ∨ d = 5 ∨ d = 6 ∨ d = 7 ∨ d = 8 ∨ d = 9 ∨ d = 10 ∨ d = 11 ∨ d = 12 ∨ d = 13 ∨ d = 14 ∨ d = 15 := by omega
  all_goals rfl
/-- a hexadecimal digit of a word, the highest first -/
def dg (x d : Nat) : Nat := x / 2 ^ (60 - 4 * d) % 16
theorem dg_lt (x d : Nat) : dg x d < 16 := Nat.mod_lt _ (by omega)
theorem dg_tmod (x d : Nat) : ((x : Int) / 2 ^ (64 - 4 * (d + 1))).tmod 16 = (dg x d : Int) := by
  rw [Int.tmod_eq_emod_of_nonneg (Int.ediv_nonneg (by omega) (Int.le_of_lt (Int.pow_pos (by omega))))]
  unfold dg
  rw [show 64 - 4 * (d + 1) = 60 - 4 * d from by omega, Int.natCast_emod, Int.natCast_ediv, Int.natCast_pow]
  rfl
/-- the first k digits of a word -/
def txW (x k : Nat) : List UInt8 := (List.range k).map fun d => hexc (dg x d)
theorem txW_succ (x k : Nat) : txW x (k + 1) = txW x k ++ [hexc (dg x k)] := by
  unfold txW; rw [List.range_succ]; simp
theorem txW_len (x k : Nat) : (txW x k).length = k := by simp [txW]
/-- the text of the first k words -/
def txP (c : Nat → Nat) : Nat → List UInt8
  | 0 => []
  | k + 1 => (if k = 0 then [] else txP c k ++ [32]) ++ txW (c k) 16
theorem txP_len (c : Nat → Nat) (k : Nat) : (txP c k).length = 17 * k - 1 := by
  induction k with
  | zero => rfl
  | succ k ih =>
    rw [txP, List.length_append, txW_len]
    by_cases h : k = 0
    · rw [if_pos h, h]; rfl
    · rw [if_neg h, List.length_append, ih]; simp; omega
/-- what stands ahead of a word's digits -/
def txA (c : Nat → Nat) (k : Nat) : List UInt8 := if k = 0 then [] else txP c k ++ [32]
theorem txA_len (c : Nat → Nat) (k : Nat) : (txA c k).length = 17 * k := by
  unfold txA
  by_cases h : k = 0
  · rw [if_pos h, h]; rfl
  · rw [if_neg h, List.length_append, txP_len]; simp; omega
theorem txP_eq (c : Nat → Nat) (k : Nat) : txP c (k + 1) = txA c k ++ txW (c k) 16 := rfl
def BV (l : List UInt8) : List Value := l.map fun b => .int .u8 (b.toNat : Int)
theorem BV_app (l m : List UInt8) : BV (l ++ m) = BV l ++ BV m := by simp [BV]
theorem BV_len (l : List UInt8) : (BV l).length = l.length := by simp [BV]
theorem app_str (l m : List UInt8) : (⟨l.toArray⟩ : ByteArray) ++ ⟨m.toArray⟩ = ⟨(l ++ m).toArray⟩ := by
  apply ByteArray.ext
  simp
theorem get_at (s : List UInt8) (k : Nat) (h : k < (⟨s.toArray⟩ : ByteArray).size) : (⟨s.toArray⟩ : ByteArray)[k]'h = s.getD k 0 := by
  have h' : k < s.length := by simpa [ByteArray.size] using h
  rw [List.getD_eq_getElem?_getD, List.getElem?_eq_getElem h']
  rfl
theorem size_at (s : List UInt8) : (⟨s.toArray⟩ : ByteArray).size = s.length := by simp [ByteArray.size]
theorem mk135 (W : World) : (Instr.makeSlice 66 (.int .i64 0) (.int .i64 135)).run Try.prog W = .ok (.slice (some ⟨W.heap.size, 0, none⟩) 0 135) (W.alloc (.cells (madeCells #[.int .u8 0] 135) 5)) := by
  obtain ⟨i0, hi0, hz0, hz1, hz2⟩ := info_parts info5
  have hr := run_make (P := Try.prog) W 66 5 i0 (.int .u8 0) Try.underlying66 hi0 hz0 .i64 .i64 0 135 (by omega) (by omega) (by rw [hz2]; decide) (by omega)
  rw [hz1, show (Value.int IntKind.u8 0).cells = #[.int .u8 0] from rfl] at hr
  exact hr
theorem str_conv (W : World) (g n cap : Nat) (l : List UInt8) (hn : n = l.length) (hown : W.ownsRow 0 5 1 (.slice (some ⟨g, 0, none⟩) n cap) n (BV l)) : (convert 66 9 (.slice (some ⟨g, 0, none⟩) n cap)).run Try.prog W = .ok (.string ⟨l.toArray⟩) W := by
  subst hn
  have := Lib.run_convert_whole (P := Try.prog) W 66 5 9 Try.underlying66 Try.underlying5 Try.underlying9 g 0 ⟨l.toArray⟩ (fun i hi => by
    rw [size_at] at hi
    rw [Nat.zero_add, hown.cellAt i (by omega)]
    unfold BV
    simp [hi]
    rfl) cap
  rwa [size_at] at this
end Go.Proofs.Ytfclbnaabdlmhaa
