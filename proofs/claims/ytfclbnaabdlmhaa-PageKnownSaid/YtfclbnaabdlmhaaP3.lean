import Derived.Test.YtfclbnaabdlmhaaP2
import Derived.Deep.OwnRows
import Derived.Laws.Rows
namespace Go.Proofs.Ytfclbnaabdlmhaa
open Go.RowKit
theorem cutf_any (c : Nat → Nat) (B k : Nat) (w : World) (h : BP w B c) (hk : k < 64) : Calls Try.prog 48 #[.int .i64 (k : Int), .pointer (some ⟨B, 0, none⟩)] w fun e w' => e = .returned (.int .u8 (byt c k : Int)) ∧ w = w' := by
  have hc := h.2.1 (k / 8) (by omega)
  go_enter Try.func48, Try.ntmps48
  go_wp2
  go_ret
  refine ⟨?_, rfl⟩
  show Ending.returned (.int .u8 ((c (k / 8) : Int) / 2 ^ (k % 8 * 8) % 256)) = _
  unfold byt
  rw [show (256 : Nat) ^ (k % 8) = 2 ^ (k % 8 * 8) from by rw [Nat.mul_comm, Nat.pow_mul]]
  rw [← cast_shr]
set_option maxHeartbeats 1000000 in
theorem fillc_any (c : Nat → Nat) (B g : Nat) (w : World) (h : BP w B c) (hg : w.rowIs g 5 64 (fun _ => .int .u8 0)) (hB : B < g) :
    Calls Try.prog 47 #[.slice (some ⟨g, 0, none⟩) 64 64, .func (.func 48) #[] #[.pointer (some ⟨B, 0, none⟩)]] w fun e w' => e = .returned (.slice (some ⟨g, 0, none⟩) 64 64) ∧ w'.rowIs g 5 64 (fun i => .int .u8 (byt c i : Int)) ∧ Below g w w' := by
  have HC := Lib.hid h
  have HG := Lib.hid hg
  clear h hg
  go_enter Try.func47, Try.ntmps47
  go_wp2_with fail
  go_loopw [8] (fun i wr => ∃ k : Nat, k ≤ 64 ∧ i = .int .i64 k ∧ wr.rowIs g 5 64 (fun j => .int .u8 (if j < k then (byt c j : Int) else 0)) ∧ Below g w wr) (fun i _ => 64 - (intOf i).toNat)
  case atStart => exact ⟨0, by omega, rfl, HG.out.congr (fun i hi => by simp), Below.refl _ _⟩
  case round =>
    obtain ⟨k, hk, rfl, hr, hb⟩ := hrel
    have HB : BP wr B c := by
      obtain ⟨h0, h1, h2⟩ := HC.out
      exact ⟨Nat.lt_of_lt_of_le h0 hb.size, fun k hk => by rw [hb.cell (p := ⟨B, k, none⟩) hB]; exact h1 k hk, fun k => by rw [hb.frozen (p := ⟨B, k, none⟩) hB]; exact h2 k⟩
    by_cases hlt : k < 64
    · have H1 := Lib.hid (cutf_any c B k wr HB hlt)
      have c1 := hr.cell hlt
      have f1 := hr.frozen k
      have HR := Lib.hid hr
      have HBB := Lib.hid hb
      clear hr hb HB
      have hlt' : (k : Int) < 64 := by omega
      go_wp2_with fail
      refine H1.out.mono ?_
      rintro e w' ⟨rfl, rfl⟩
      go_wp2_with fail
      go_roundw
      case rel => exact ⟨k + 1, by omega, by go_num, (HR.out.set k (.int .u8 (byt c k : Int))).congr (fun i hi => by
        by_cases e : i = k
        · subst e; simp
        · rw [if_neg e]
          by_cases e2 : i < k
          · rw [if_pos e2, if_pos (by omega)]
          · rw [if_neg e2, if_neg (by omega)]), HBB.out.setCell (Nat.le_refl _) _⟩
      case measure => simp [intOf]; omega
    · obtain rfl : k = 64 := by omega
      have HR := Lib.hid hr
      have HBB := Lib.hid hb
      clear hr hb HB
      go_wp2_with fail
      go_ret
      exact ⟨rfl, HR.out.congr (fun i hi => by simp [hi]), HBB.out⟩
def IsB (X : Array Value) (b : Nat → Nat) : Prop := X.size = 64 ∧ ∀ i, i < 64 → X[i]? = some (.int .u8 (b i : Int))
end Go.Proofs.Ytfclbnaabdlmhaa
