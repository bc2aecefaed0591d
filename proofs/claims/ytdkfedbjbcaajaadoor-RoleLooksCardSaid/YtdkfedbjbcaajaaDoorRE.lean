import Derived.Test.YtdkfedbjbcaajaaDoorRD
import Derived.Test.YtdkfedbjbcaajaaDoorRA
namespace Go.Proofs.YtdkfedbjbcaajaaDoor
open Go.RowKit
theorem pathF4 : ∀ f t : Fin 8, (pathL f.1 t.1).length ≤ 100 := by decide +kernel
theorem paths_len (f t : Int) : (paths f t).length ≤ 100 := by
  unfold paths okP
  by_cases h : okM f t = true
  · have h' := h
    unfold okM at h'
    have h2 := Bool.and_eq_true_iff.1 h'
    obtain ⟨n, hn, rfl⟩ := isR_nat h2.1
    obtain ⟨m, hm, rfl⟩ := isR_nat h2.2
    have := pathF4 ⟨n, hn⟩ ⟨m, hm⟩
    simp only [Int.toNat_natCast] at *
    split
    · exact this
    · simp
  · rw [if_neg (by simp [h])]; simp
set_option maxRecDepth 100000 in
set_option maxHeartbeats 4000000 in
theorem mays_law (f t : Int) (w : World) (hT : Tab w) : Calls Tryd.prog 3 #[.int .i64 f, .int .i64 t] w fun e w' => e = .returned (.bool true) ∧ Ev w w' := by
  have C1 := Lib.hid (May_any f t w hT)
  have C2 := Lib.hid (rMay_any f t w)
  have C3 := Lib.hid (Path_any f t w hT)
  have C4 := Lib.hid fun W => rPath_any f t W
  have hl := paths_len f t
  have HTT := Lib.hid hT
  generalize (okM f t && mb f.toNat t.toNat) = b at *
  generalize (if okM f t then (0 : Int) else 14) = er at *
  generalize pathE f t = pe at *
  generalize paths f t = l at *
  have hb : (b == b) = true := by simp
  clear hT
  go_enter Tryd.func3, Tryd.ntmps3
  go_wp2_with fail
  refine C1.out.mono ?_
  rintro e w1 ⟨rfl, rfl⟩
  go_wp2_with fail
  refine C2.out.mono ?_
  rintro e w1 ⟨rfl, rfl⟩
  go_wp2_with fail
  refine C3.out.mono ?_
  rintro e w1 ⟨v, rfl, hown, hev⟩
  obtain ⟨A, c, rfl, hr⟩ := RdI.of_own hown (by omega)
  have HR1 := Lib.hid hr
  have HE1 := Lib.hid hev
  clear hown hr hev
  go_wp2_with fail
  refine (C4.out _).mono ?_
  rintro e w2 ⟨v, rfl, hown, hev⟩
  obtain ⟨A2, c2, rfl, hr⟩ := RdI.of_own hown (by omega)
  have HS := Lib.hid (sameI A A2 c c2 l w2 (HR1.out.ev hev) hr)
  have HE2 := Lib.hid (HE1.out.step hev)
  clear hown hr hev
  go_wp2_with fail
  refine HS.out.mono ?_
  rintro e w3 ⟨rfl, hev⟩
  have HE3 := Lib.hid (HE2.out.step hev)
  clear hev
  go_wp2_with fail
  refine (awake_any w3 (HTT.out.ev HE3.out)).mono ?_
  rintro e w4 ⟨rfl, hev⟩
  have HE4 := Lib.hid (HE3.out.step hev)
  clear hev
  go_wp2_with fail
  go_ret
  exact ⟨rfl, HE4.out⟩
end Go.Proofs.YtdkfedbjbcaajaaDoor
