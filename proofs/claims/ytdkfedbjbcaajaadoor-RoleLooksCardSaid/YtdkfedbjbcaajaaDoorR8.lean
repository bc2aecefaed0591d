import Derived.Test.YtdkfedbjbcaajaaDoorR5
import Derived.Deep.OwnRows
import Derived.Sort.CutIn
import Derived.Deep.LoopGhost
namespace Go.Proofs.YtdkfedbjbcaajaaDoor
open Go.RowKit
def updI (f : Nat → Int) (k : Nat) (v : Int) : Nat → Int := fun i => if i = k then v else f i
def stT (n f : Nat) (D : Nat → Int) (k : Nat) : Nat → Int := if decide (D f < 0) && (D k == (n : Int)) && mb f k then updI D f (n + 1) else D
def inT (n f : Nat) (D : Nat → Int) : Nat → Nat → Int
  | 0 => D
  | k + 1 => stT n f (inT n f D k) k
def inF (n : Nat) (D : Nat → Int) : Nat → Nat → Int
  | 0 => D
  | f + 1 => inT n f (inF n D f) 8
def d0 (t : Nat) : Nat → Int := updI (fun _ => -1) t 0
def inN (t : Nat) : Nat → Nat → Int
  | 0 => d0 t
  | n + 1 => inF n (inN t n) 8
def dis (t : Nat) : Nat → Int := inN t 8
abbrev RowD (W : World) (b : Nat) (D : Nat → Int) : Prop := W.rowIs b 3 8 (fun k => .int .i64 (D k))
theorem RowD.set {W : World} {b : Nat} {D : Nat → Int} (h : RowD W b D) {k : Nat} (x : Int) : RowD (W.setCell ⟨b, k, none⟩ (.int .i64 x)) b (updI D k x) :=
  (World.rowIs.set h k (.int .i64 x)).congr (fun i hi => by
    simp only [updI]; by_cases e : i = k
    · rw [if_pos e, if_pos e]
    · rw [if_neg e, if_neg e])
theorem mk8 (w : World) : RowD (w.alloc (.cells #[.int .i64 0, .int .i64 0, .int .i64 0, .int .i64 0, .int .i64 0, .int .i64 0, .int .i64 0, .int .i64 0] 3)) w.heap.size (fun _ => 0) :=
  ⟨_, heap_alloc_new w _, rfl, fun k hk => by rcases (show k = 0 ∨ k = 1 ∨ k = 2 ∨ k = 3 ∨ k = 4 ∨ k = 5 ∨ k = 6 ∨ k = 7 by omega) with rfl | rfl | rfl | rfl | rfl | rfl | rfl | rfl <;> rfl⟩
theorem mkI8 (w : World) : (Instr.makeSlice 25 (.int .i64 8) (.int .i64 8)).run Tryd.prog w = .ok (.slice (some ⟨w.heap.size, 0, none⟩) 8 8) (w.alloc (.cells #[.int .i64 0, .int .i64 0, .int .i64 0, .int .i64 0, .int .i64 0, .int .i64 0, .int .i64 0, .int .i64 0] 3)) := by kernel_rfl
def ini (i : Nat) : Nat → Int := fun k => if k < i then -1 else 0
set_option maxRecDepth 100000 in
set_option maxHeartbeats 8000000 in
theorem dist_any (t : Nat) (w : World) (ht : t < 8) : Calls Tryd.prog 43 #[.int .i64 (t : Int)] w fun e w' => e = .returned (.slice (some ⟨w.heap.size, 0, none⟩) 8 8) ∧ RowD w' w.heap.size (dis t) ∧ Ev w w' := by
  have ht0 : (0 : Int) ≤ (t : Int) := by omega
  have ht8 : (t : Int) < 8 := by omega
  have hmk := mkI8 w
  have HD := Lib.hid (mk8 w)
  have HE : Hid (Ev w (w.alloc (.cells #[.int .i64 0, .int .i64 0, .int .i64 0, .int .i64 0, .int .i64 0, .int .i64 0, .int .i64 0, .int .i64 0] 3))) := Lib.hid ((Ev.refl w).alloc _)
  generalize (w.alloc (.cells #[.int .i64 0, .int .i64 0, .int .i64 0, .int .i64 0, .int .i64 0, .int .i64 0, .int .i64 0, .int .i64 0] 3)) = W0 at *
  have HMK := Lib.hid hmk
  clear hmk
  go_enter Tryd.func43, Tryd.ntmps43
  go_upto_region 1 with fail
  have hmk := HMK.out
  go_upto_region 2 with fail
  clear hmk HMK
  go_wp2_with fail
  go_loopg [4] 8 (fun gh v wr => ∃ i : Nat, gh + i = 8 ∧ v = .int .i64 i ∧ RowD wr w.heap.size (ini i) ∧ Ev w wr)
  case atStart => exact ⟨0, rfl, rfl, HD.out, HE.out⟩
  case round =>
    obtain ⟨i, hg, rfl, hrow, hev⟩ := hrel
    have HG := Lib.hid hg
    have HR := Lib.hid hrow
    have HV := Lib.hid hev
    clear hg hrow hev
    by_cases hlt : i < 8
    · have hlt' : (i : Int) < 8 := by omega
      have hi0 : (0 : Int) ≤ (i : Int) := by omega
      have f0 := HR.out.frozen i
      have c0 := HR.out.cell hlt
      have HN : Hid (RowD (wr.setCell ⟨w.heap.size, i, none⟩ (.int .i64 (-1))) w.heap.size (ini (i + 1))) := Lib.hid ((HR.out.set (-1)).congr (fun k hk => by
        unfold updI ini
        by_cases e : k = i
        · rw [if_pos e, if_pos (by omega)]
        · rw [if_neg e]
          by_cases e2 : k < i
          · rw [if_pos e2, if_pos (by omega)]
          · rw [if_neg e2, if_neg (by omega)]))
      have HL := Lib.hid hlt
      clear hlt
      go_wp2_with fail
      go_roundg (gk - 1)
      case rel => exact ⟨i + 1, by have := HG.out; have := HL.out; omega, by go_num, HN.out, HV.out.setC (by simp) _⟩
      case measure => have := HG.out; have := HL.out; omega
    · obtain rfl : i = 8 := by have := HG.out; omega
      have f0 := HR.out.frozen t
      have c0 := HR.out.cell ht
      have HN : Hid (RowD (wr.setCell ⟨w.heap.size, t, none⟩ (.int .i64 0)) w.heap.size (inN t 0)) := Lib.hid ((HR.out.set 0).congr (fun k hk => by
        show _ = Value.int .i64 (d0 t k)
        unfold d0 updI ini
        by_cases e : k = t
        · rw [if_pos e, if_pos e]
        · rw [if_neg e, if_neg e, if_pos hk]))
      have HV2 : Hid (Ev w (wr.setCell ⟨w.heap.size, t, none⟩ (.int .i64 0))) := Lib.hid (HV.out.setC (by simp) _)
      clear hlt
      go_wp2_with fail
      obtain ⟨W1, hW1⟩ : ∃ W1 : World, W1 = wr.setCell ⟨w.heap.size, t, none⟩ (.int .i64 0) := ⟨_, rfl⟩
      rw [← hW1] at HN HV2 ⊢
      clear hW1 c0 f0 HV HR HG
      go_loopg [5] 8 (fun gh v wr => ∃ n : Nat, gh + n = 8 ∧ v = .int .i64 n ∧ RowD wr w.heap.size (inN t n) ∧ Ev w wr)
      case atStart => exact ⟨0, rfl, rfl, HN.out, HV2.out⟩
      case round =>
        obtain ⟨n, hg, rfl, hrow, hev⟩ := hrel
        have HG := Lib.hid hg
        have HR := Lib.hid hrow
        have HV := Lib.hid hev
        clear hg hrow hev HN HV2
        by_cases hlt : n < 8
        · have hlt' : (n : Int) < 8 := by omega
          have hn0 : (0 : Int) ≤ (n : Int) := by omega
          obtain ⟨g1, hg1⟩ : ∃ g1, g1 + 1 = gk := ⟨gk - 1, by have := HG.out; omega⟩
          have HG1x := Lib.hid hg1
          clear hg1
          have HL := Lib.hid hlt
          have HSU : Hid (inN t (n + 1) = inF n (inN t n) 8) := Lib.hid rfl
          clear hlt
          generalize inN t n = D0 at *
          go_wp2_with fail
          go_loopg [6] 8 (fun gh v wr => ∃ f : Nat, gh + f = 8 ∧ v = .int .i64 f ∧ RowD wr w.heap.size (inF n D0 f) ∧ Ev w wr)
          case atStart => exact ⟨0, rfl, rfl, HR.out, HV.out⟩
          case round =>
            obtain ⟨f, hg, rfl, hrow, hev⟩ := hrel
            have HG2 := Lib.hid hg
            have HR2 := Lib.hid hrow
            have HV2 := Lib.hid hev
            clear hg hrow hev HR HV
            by_cases hlf : f < 8
            · have hlf' : (f : Int) < 8 := by omega
              have hf0 : (0 : Int) ≤ (f : Int) := by omega
              obtain ⟨g2, hg2⟩ : ∃ g2, g2 + 1 = gk := ⟨gk - 1, by have := HG2.out; omega⟩
              have HG2x := Lib.hid hg2
              clear hg2
              have HLF := Lib.hid hlf
              have HSF : Hid (inF n D0 (f + 1) = inT n f (inF n D0 f) 8) := Lib.hid rfl
              clear hlf
              generalize inF n D0 f = D1 at *
              go_wp2_with fail
              go_loopg [7] 8 (fun gh v wr => ∃ k : Nat, gh + k = 8 ∧ v = .int .i64 k ∧ RowD wr w.heap.size (inT n f D1 k) ∧ Ev w wr)
              case atStart => exact ⟨0, rfl, rfl, HR2.out, HV2.out⟩
              case round =>
                obtain ⟨k, hg, rfl, hrow, hev⟩ := hrel
                have HG3 := Lib.hid hg
                have HR3 := Lib.hid hrow
                have HV3 := Lib.hid hev
                clear hg hrow hev HR2 HV2
                by_cases hlk : k < 8
                · have hlk' : (k : Int) < 8 := by omega
                  have hk0 : (0 : Int) ≤ (k : Int) := by omega
                  have HLK := Lib.hid hlk
                  have HST : Hid (inT n f D1 (k + 1) = stT n f (inT n f D1 k) k) := Lib.hid rfl
                  have cf := HR3.out.cell HLF.out
                  have ck := HR3.out.cell hlk
                  have ff := HR3.out.frozen f
                  have CM := Lib.hid (rmay_any f k wr HLF.out hlk)
                  clear hlk
                  generalize inT n f D1 k = D at *
                  by_cases h1 : D f < 0
                  · by_cases h2 : D k = (n : Int)
                    · by_cases h3 : mb f k = true
                      · have HE3 : Hid (inT n f D1 (k + 1) = updI D f ((n : Int) + 1)) := Lib.hid (by rw [HST.out]; unfold stT; rw [h3, h2]; simp [h1])
                        have HRN := Lib.hid (HR3.out.set (k := f) ((n : Int) + 1))
                        have HVN : Hid (Ev w (wr.setCell ⟨w.heap.size, f, none⟩ (.int .i64 ((n : Int) + 1)))) := Lib.hid (HV3.out.setC (by simp) _)
                        rw [h3] at CM
                        rw [h2] at ck
                        generalize D f = df at *
                        clear h2 h3
                        go_wp2_with fail
                        refine CM.out.mono ?_
                        rintro e w5 ⟨rfl, rfl⟩
                        go_wp2_with fail
                        go_roundg (gk - 1)
                        case rel => exact ⟨k + 1, by have := HG3.out; have := HLK.out; omega, by go_num, by rw [HE3.out]; exact HRN.out, HVN.out⟩
                        case measure => have := HG3.out; have := HLK.out; omega
                      · have h3 : mb f k = false := by simpa using h3
                        have HE3 : Hid (inT n f D1 (k + 1) = D) := Lib.hid (by rw [HST.out]; unfold stT; rw [h3]; simp)
                        rw [h3] at CM
                        rw [h2] at ck
                        generalize D f = df at *
                        clear h2 h3
                        go_wp2_with fail
                        refine CM.out.mono ?_
                        rintro e w5 ⟨rfl, rfl⟩
                        go_wp2_with fail
                        go_roundg (gk - 1)
                        case rel => exact ⟨k + 1, by have := HG3.out; have := HLK.out; omega, by go_num, by rw [HE3.out]; exact HR3.out, HV3.out⟩
                        case measure => have := HG3.out; have := HLK.out; omega
                    · have HE3 : Hid (inT n f D1 (k + 1) = D) := Lib.hid (by rw [HST.out]; unfold stT; simp [h2])
                      generalize D f = df at *
                      generalize D k = dk at *
                      clear CM
                      go_wp2_with fail
                      go_roundg (gk - 1)
                      case rel => exact ⟨k + 1, by have := HG3.out; have := HLK.out; omega, by go_num, by rw [HE3.out]; exact HR3.out, HV3.out⟩
                      case measure => have := HG3.out; have := HLK.out; omega
                  · have HE3 : Hid (inT n f D1 (k + 1) = D) := Lib.hid (by rw [HST.out]; unfold stT; simp [h1])
                    have h1' : 0 ≤ D f := by omega
                    generalize D f = df at *
                    clear CM ck
                    go_wp2_with fail
                    go_roundg (gk - 1)
                    case rel => exact ⟨k + 1, by have := HG3.out; have := HLK.out; omega, by go_num, by rw [HE3.out]; exact HR3.out, HV3.out⟩
                    case measure => have := HG3.out; have := HLK.out; omega
                · obtain rfl : k = 8 := by have := HG3.out; omega
                  clear hlk
                  go_wp2_with fail
                  go_roundg g2
                  case rel => exact ⟨f + 1, by have := HG2.out; have := HG2x.out; omega, by go_num, by rw [HSF.out]; exact HR3.out, HV3.out⟩
                  case measure => have := HG2x.out; omega
            · obtain rfl : f = 8 := by have := HG2.out; omega
              clear hlf
              go_wp2_with fail
              go_roundg g1
              case rel => exact ⟨n + 1, by have := HG.out; have := HG1x.out; omega, by go_num, by rw [HSU.out]; exact HR2.out, HV2.out⟩
              case measure => have := HG1x.out; omega
        · obtain rfl : n = 8 := by have := HG.out; omega
          clear hlt
          go_wp2_with fail
          refine bodyPost_ret (v := .slice (some ⟨w.heap.size, 0, none⟩) 8 8) (by simp [results, Tryd.results43, go_sem]) rfl ⟨rfl, HR.out, HV.out⟩
end Go.Proofs.YtdkfedbjbcaajaaDoor
