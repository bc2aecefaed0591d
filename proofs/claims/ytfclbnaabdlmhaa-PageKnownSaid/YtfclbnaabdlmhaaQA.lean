import Derived.Test.YtfclbnaabdlmhaaPE
import Derived.ProofKit
import Derived.OpenShut
import Derived.Stop.Joined
import Derived.Lib.SmallJoins
import Derived.Carry
import Derived.ChangeOld
import Derived.WideKeyArr2
import Derived.ChangeMaps5
namespace Go.Proofs.Ytfclbnaabdlmhaa
open Go.ChangeShapes Go.WideShapes Go.ChangeAt Go.RowKit Go.Joins
theorem own : ownKnob Try.prog.godebug = none := by kernel_rfl
theorem laidOut : laidOutB Try.prog = true := by kernel_rfl
theorem cells3 : Try.prog.cellsOf 3 = 1 := by kernel_rfl
theorem cells22 : Try.prog.cellsOf 22 = 1 := by kernel_rfl
theorem cells24 : Try.prog.cellsOf 24 = 8 := by kernel_rfl
theorem cells33 : Try.prog.cellsOf 33 = 3 := by kernel_rfl
theorem u64_nat {n : Int} (h : (Lit.int .u64 n).wf = true) : ∃ k : Nat, n = (k : Int) ∧ k < 18446744073709551616 := by
  have h2 := bounds_u64 h
  exact ⟨n.toNat, by omega, by omega⟩
theorem mapM_mem {α β : Type} {f : α → Option β} : ∀ (L : List α) (ys : List β), L.mapM f = some ys → ∀ i ∈ L, ∃ y, f i = some y
  | [], _, _, i, hi => by cases hi
  | a :: L, ys, h, i, hi => by
    rw [List.mapM_cons] at h
    simp only [bind, Option.bind_eq_some_iff, pure, Option.some.injEq] at h
    obtain ⟨y, hy, zs, hz, -⟩ := h
    rcases List.mem_cons.1 hi with rfl | hi
    · exact ⟨y, hy⟩
    · exact mapM_mem L zs hz i hi
theorem open_pg {H : Type} {enc : TypeId × Value → H} {W : World} {base : Nat} {v : Value} {d : DataW H} {p : List MemPlace} (hv : Value.okWide Try.prog W .any base 24 v) (h : DataW.Trod enc Try.prog W 0 (fun _ => true) true 24 v d p) :
    ∃ c : Nat → Nat, Pg c ∧ v = pg c := by
  simp only [Value.okWide, Try.underlying24] at hv
  obtain ⟨cs, rfl, hsz, -⟩ := hv
  rw [cells24] at hsz
  obtain ⟨fuel, hf⟩ := h
  cases fuel with
  | zero => simp [DataW.trod] at hf
  | succ m =>
    rw [DataW.trod_step] at hf
    unfold DataW.trodStep at hf
    simp only [Try.underlying24, Value.cells] at hf
    rw [if_pos (by rw [cells24]; simpa using hsz)] at hf
    simp only [Option.map_eq_some_iff] at hf
    obtain ⟨ys, hy, -⟩ := hf
    have hm := mapM_mem _ _ hy
    have key : ∀ i, i < 8 → ∃ k : Nat, cs[i]? = some (.int .u64 (k : Int)) ∧ k < 18446744073709551616 := fun i hi => by
      obtain ⟨y, hy⟩ := hm i (by simpa using hi)
      obtain ⟨a, e1, -, wf⟩ := DataW.trod_int Try.underlying22 hy
      rw [cells22, Nat.mul_one] at e1
      have hlt : i < cs.toList.length := by simpa using (show i < cs.size by omega)
      rw [List.drop_eq_getElem_cons hlt] at e1
      simp at e1
      obtain ⟨k, rfl, hk⟩ := u64_nat wf
      exact ⟨k, by rw [Array.getElem?_eq_getElem (by omega), e1], hk⟩
    refine ⟨fun i => if h : i < 8 then (key i h).choose else 0, fun i => ?_, ?_⟩
    · by_cases h : i < 8
      · simp only [h, dite_true]; exact (key i h).choose_spec.2
      · simp only [h, dite_false]; omega
    · have e := row8 (X := cs) (f := fun i => if h : i < 8 then (key i h).choose else 0) hsz (fun i hi => by simp only [hi, dite_true]; exact (key i hi).choose_spec.1)
      exact congrArg Value.agg e
end Go.Proofs.Ytfclbnaabdlmhaa
