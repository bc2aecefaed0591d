import Derived.Test.YtdkfedbjbcaajaaDoorR7
import Derived.Test.YtdkfedbjbcaajaaDoorR8
namespace Go.Proofs.YtdkfedbjbcaajaaDoor
open Go.RowKit
def DT (f t : Nat) : Int := if rch f t then (pl f t : Int) else -1
set_option maxRecDepth 10000000 in
theorem disF : ∀ f t : Fin 8, dis t.1 f.1 = DT f.1 t.1 := by decide +kernel
def nxt (t r : Nat) : Nat := ((List.range 8).find? (fun k => mb r k && (DT k t == DT r t - 1))).getD 8
def rs (f t : Nat) : Nat → Nat
  | 0 => f
  | n + 1 => nxt t (rs f t n)
def racc (f t n : Nat) : List Int := (List.range n).map (fun k => (rs f t (k + 1) : Int))
theorem racc_len (f t n : Nat) : (racc f t n).length = n := by unfold racc; simp
theorem racc_IV (f t n : Nat) : IV (racc f t (n + 1)) = IV (racc f t n) ++ [.int .i64 (rs f t (n + 1) : Int)] := by unfold racc; rw [List.range_succ, List.map_append]; unfold IV; simp
theorem rsF : ∀ f t : Fin 8, rch f.1 t.1 = true → rs f.1 t.1 (pl f.1 t.1) = t.1 ∧ racc f.1 t.1 (pl f.1 t.1) = pathL f.1 t.1 ∧ ∀ n : Fin 5, n.1 < pl f.1 t.1 → (rs f.1 t.1 n.1 < 8 ∧ rs f.1 t.1 n.1 ≠ t.1 ∧ nxt t.1 (rs f.1 t.1 n.1) < 8 ∧ 0 ≤ DT (rs f.1 t.1 n.1) t.1 ∧ DT (rs f.1 t.1 n.1) t.1 ≤ 8 ∧ mb (rs f.1 t.1 n.1) (nxt t.1 (rs f.1 t.1 n.1)) = true ∧ DT (nxt t.1 (rs f.1 t.1 n.1)) t.1 = DT (rs f.1 t.1 n.1) t.1 - 1) := by decide +kernel
theorem nxF : ∀ r t k : Fin 8, k.1 < nxt t.1 r.1 → ¬ (mb r.1 k.1 = true ∧ DT k.1 t.1 = DT r.1 t.1 - 1) := by decide +kernel
theorem DTb : ∀ f t : Fin 8, -1 ≤ DT f.1 t.1 ∧ DT f.1 t.1 ≤ 8 := by decide +kernel
end Go.Proofs.YtdkfedbjbcaajaaDoor
