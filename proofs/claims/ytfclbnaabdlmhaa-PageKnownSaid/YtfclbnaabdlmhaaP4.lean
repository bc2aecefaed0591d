import Derived.Test.YtfclbnaabdlmhaaP3
import Derived.Outline
import Derived.Laws.Cover3
namespace Go.Proofs.Ytfclbnaabdlmhaa
open Go.RowKit
theorem info5 : (Try.prog.info? 5).map (fun i => (i.zero, i.size, i.bytes)) = some (some (.int .u8 0), 1, 1) := by kernel_rfl
theorem info22 : (Try.prog.info? 22).map (fun i => (i.zero, i.size, i.bytes)) = some (some (.int .u64 0), 1, 8) := by kernel_rfl
theorem info24 : (Try.prog.info? 24).map (·.size) = some 8 := by kernel_rfl
theorem info59 : (Try.prog.info? 59).map (·.size) = some 64 := by kernel_rfl
theorem IsB.one {X : Array Value} {b : Nat → Nat} (h : IsB X b) : X.all (·.oneCell') = true := by
  rw [Array.all_eq_true]
  intro i hi
  have := h.2 i (by rw [← h.1]; exact hi)
  rw [Array.getElem?_eq_getElem hi] at this
  injection this with this
  rw [this]; rfl
theorem mk64 (W : World) : (Instr.makeSlice 66 (.int .i64 64) (.int .i64 64)).run Try.prog W = .ok (.slice (some ⟨W.heap.size, 0, none⟩) 64 64) (W.alloc (.cells (madeCells #[.int .u8 0] 64) 5)) :=
  run_make_row' 66 5 (.int .u8 0) 1 Try.underlying66 info5 rfl .i64 .i64 64 (by omega) (by omega) W
theorem row2 (w : World) (o1 o2 : Obj) (z : Value) (n t : Nat) : (((w.alloc o1).alloc o2).alloc (.cells (madeCells #[z] n) t)).rowIs (w.heap.size + 1 + 1) t n (fun _ => z) := by
  have h := World.rowIs_made ((w.alloc o1).alloc o2) z n t
  have e : ((w.alloc o1).alloc o2).heap.size = w.heap.size + 1 + 1 := by simp
  rwa [e] at h
theorem heap2 {w w1 : World} {o1 o3 : Obj} {Z : Array Value} {t g : Nat} (hb : Below g (((w.alloc o1).alloc (.cells Z t)).alloc o3) w1) (hg : g = w.heap.size + 1 + 1) : w1.heap[w.heap.size + 1]? = some (.cells Z t (0, 0)) := by
  rw [hb.block _ (by omega), heap_alloc_old]
  · exact heap_alloc2_new w _ _
  · simp
theorem Ev.setRow {w0 w : World} {g : Nat} (h : Ev w0 w) (hg : w0.heap.size ≤ g) (cs : Array Value) : Ev w0 (w.setRow g cs) :=
  ⟨h.os, h.tape, h.output, by have := h.sz; simpa using this, fun i hi => (setRow_other w g i cs (by omega)).trans (h.block i hi)⟩
theorem arr59 (g : Nat) (W : World) : (Instr.arrayAt 59 (.slice (some ⟨g, 0, none⟩) 64 64)).run Try.prog W = .ok (.pointer (some ⟨g, 0, none⟩)) W := run_arrayAt W 59 5 64 _ 64 64 Try.underlying59 (by omega)
theorem arr24 (g : Nat) (W : World) : (Instr.arrayAt 24 (.slice (some ⟨g, 0, none⟩) 8 8)).run Try.prog W = .ok (.pointer (some ⟨g, 0, none⟩)) W := run_arrayAt W 24 22 8 _ 8 8 Try.underlying24 (by omega)
set_option maxRecDepth 100000 in
set_option maxHeartbeats 2000000 in
theorem cut_any (c : Nat → Nat) (w : World) : Calls Try.prog 37 #[pg c] w fun e w' => ∃ X, e = .returned (.agg X) ∧ IsB X (byt c) ∧ Ev w w' := by
  have hm := mk64
  have ha := arr59
  go_enter Try.func37, Try.ntmps37
  go_wp2_with fail
  clear hm
  refine (fillc_any c _ _ _ ((BP.new w c).ev (((Ev.refl _).alloc _).alloc _)) (row2 _ _ _ _ _ _) (by omega)).mono ?_
  rintro e w1 ⟨rfl, ⟨X, hX, hs, hx⟩, hb⟩
  have HE : Ev w w1 := Below.trans (((((Ev.refl w).alloc _).alloc _).alloc _ : Ev w _)) (hb.mono (by omega))
  obtain ⟨Z, hZs, hz⟩ : ∃ Z : Array Value, Z.size = 64 ∧ w1.heap[w.heap.size + 1]? = some (.cells Z 59 (0, 0)) := by
    refine ⟨_, ?_, heap2 hb rfl⟩
    rfl
  clear hb
  have hI : IsB X (byt c) := ⟨hs, hx⟩
  have h1 := Lib.hid hX
  have h2 := Lib.hid hz
  have h3 := Lib.hid hs
  have h4 := Lib.hid hZs
  have h5 := Lib.hid hI
  have h6 := Lib.hid HE
  clear hX hz hs hx hZs hI HE
  go_wp2_with (first | (refine wpList_load_row rfl 59 (.tmp 6) (by rfl) (w.heap.size + 1 + 1) (by rfl) 5 X (0, 0) _ h1.out Try.underlying59 rfl (by rw [h3.out]; exact info59) ?_) | (refine wpList_store_row rfl 59 (.tmp 2) (.tmp 7) (by rfl) (w.heap.size + 1) X (by rfl) (by rfl) 59 Z h2.out (by rw [h3.out]; exact info59) (by rw [h3.out, h4.out]) h5.out.one ?_))
  refine bodyPost_ret (v := .agg X) (results_cell_row Try.results37 _ _ (w.heap.size + 1) 59 X (0, 0) _ (by rfl) (setRow_heap _ _ Z X 59 (0, 0) h2.out) Try.underlying59 rfl (by rw [h3.out]; exact info59)) rfl ⟨X, rfl, h5.out, h6.out.setRow (by omega) _⟩
end Go.Proofs.Ytfclbnaabdlmhaa
