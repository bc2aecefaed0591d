import Derived.Test.YtfclbnaabdlmhaaK2
namespace Go.Proofs.Ytfclbnaabdlmhaa
open Go.RowKit Go.Deep
def exT : ByteArray := ⟨(txP exC 8).toArray⟩
theorem ex_sz : exT.size = 135 := by decide +kernel
theorem ex_pE : prE (exT.extract 0 134).data.toList = 3 := by decide +kernel
theorem ex_pA : prA (exT.extract 0 134).data.toList = 134 := by decide +kernel
theorem ex_gE : prE (⟨#[71]⟩ : ByteArray).data.toList = 3 := by decide +kernel
theorem ex_gA : prA (⟨#[71]⟩ : ByteArray).data.toList = 0 := by decide +kernel
def exZ : Nat → Nat := wrd (pb (byt exC) 7 2 11259375)
theorem ex_z0 : exZ 0 = 17231391492856510344 := by decide +kernel
theorem ex_z1 : exZ 1 = 205 := by decide +kernel
theorem ex_f0 : rot (0 * 8) 258 = 258 := by decide +kernel
theorem ex_f1 : rot (1 * 8) 258 = 66048 := by decide +kernel
theorem ex_f7 : rot (7 * 8) 258 = 144115188075855873 := by decide +kernel
theorem ex_b1 : byV exC 0 1 = 136 := by decide +kernel
theorem ex_b2 : byV exC 6 2 = 4386 := by decide +kernel
theorem ex_s1 : sgV exC 8 1 = -1 := by decide +kernel
theorem ex_s2 : sgV exC 8 2 = 255 := by decide +kernel
theorem ex_b3 : byV exC 57 8 = 0 := by decide +kernel
theorem ex_df : dfL exC (fun _ => 0) 8 = [0, 1] := by decide +kernel
end Go.Proofs.Ytfclbnaabdlmhaa
