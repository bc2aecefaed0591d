import Derived.Test.YtkneonfhikcdkaaDoorOS
import Derived.Sort.CutIn
namespace Go.Proofs.YtkneonfhikcdkaaDoor
open Go.RowKit Go.Shelf
attribute [local go_sem] Oper.semAt_some
theorem info3 : (Tryd.prog.info? 3).map (fun i => (i.zero, i.size, i.bytes)) = some (some (.int .i64 0), 1, 8) := by kernel_rfl
def fcells (l : List (Fin 256)) : List Value := l.map fun x => .int .i64 (x.1 : Int)
def OwnF (w : World) (base : Nat) (v : Value) (l : List (Fin 256)) : Prop := w.ownsRow base 3 1 v l.length (fcells l)
set_option maxRecDepth 100000 in
set_option maxHeartbeats 4000000 in
theorem Frames_ok (A : Option Addr) (cap : Nat) (l : List (Int × Int)) (w : World) (hr : RdP w A l) (hc : chkL 0 0 l = (0, 0)) (hok : ∀ j, j < l.length → blkE (l.getD j (0, 0)).1 (l.getD j (0, 0)).2 = 0) (hN : (frL l).length ≤ 256) :
    Calls Tryd.prog 31 #[.slice A l.length cap] w fun e w' => ∃ v, e = .returned (.tuple #[v, .int .i64 0]) ∧ OwnF w' w.heap.size v (frL l) ∧ Ev w w' := by
  have H : Hid (Calls Tryd.prog 27 #[.slice A l.length cap] w fun e w' => e = .returned (.tuple #[.int .i64 0, .int .i64 0]) ∧ Ev w w') := Lib.hid (by have h := checkList_any A cap l w hr; rw [hc] at h; exact h)
  have hlen := hr.1
  obtain ⟨i0, hi0, hz0, hz1, hz2⟩ := info_parts info3
  have HRD := Lib.hid hr
  have HST := Lib.hid fun W => frames_any A l.length cap W
  clear hr hc
  refine (callsIn_wide (n := 9)).1 (callsIn_of_wp_marks Tryd.func31 rfl trivial ?_ rfl)
  simp only [Tryd.ntmps31, List.size_toArray, List.length_cons, List.length_nil, Nat.reduceAdd, Nat.reduceSub, Array.replicate_succ, Array.replicate_zero, List.push_toArray, List.append_toArray, List.nil_append, List.cons_append]
  gi_wp2_with fail
  refine ⟨trivial, (callsIn_wide.2 H.out).mono ?_⟩
  rintro e w1 ⟨rfl, hev⟩
  gi_wp2_with fail
  refine ⟨trivial, (callsIn_wide.2 (HST.out _)).mono ?_⟩
  rintro e w2 ⟨rfl, rfl⟩
  gi_wp2_with fail
  obtain ⟨W0, hW0⟩ : ∃ W0, W0 = (w1.alloc (.cells #[.slice none 0 0] 40)).alloc (.cells #[.slice A l.length cap] 33) := ⟨_, rfl⟩
  have z0 : w.heap.size ≤ w1.heap.size := hev.sz
  have z1 : w1.heap.size + 1 < W0.heap.size := by rw [hW0]; simp
  have bO : Boxed W0 w1.heap.size 40 (.slice none 0 0) := by rw [hW0]; exact (Boxed.new _ _ _).alloc _
  have hh : W0.cell? ⟨w1.heap.size + 1, 0, none⟩ = some (.slice A l.length cap) := by
    rw [hW0]
    have h := (Boxed.new (w1.alloc (.cells #[.slice none 0 0] 40)) 33 (.slice A l.length cap)).cell
    rwa [show (w1.alloc (.cells #[.slice none 0 0] 40)).heap.size = w1.heap.size + 1 by simp] at h
  have hE0 : Ev w W0 := by rw [hW0]; exact (hev.alloc _).alloc _
  have hA0 : ∀ j, j < l.length → ∃ bl o, A = some ⟨bl, o, none⟩ ∧ bl < W0.heap.size ∧ ¬ bl = w1.heap.size ∧ W0.cell? ⟨bl, o + j * 2, none⟩ = some (.int .i64 (l.getD j (0, 0)).1) ∧ W0.cell? ⟨bl, o + j * 2 + 1, none⟩ = some (.int .i64 (l.getD j (0, 0)).2) := by
    intro j hj
    obtain ⟨bl, o, h1, h2, h3, h4⟩ := HRD.out.2 j hj
    exact ⟨bl, o, h1, by omega, by omega, by rw [hE0.cell (p := ⟨bl, o + j * 2, none⟩) h2]; exact h3, by rw [hE0.cell (p := ⟨bl, o + j * 2 + 1, none⟩) h2]; exact h4⟩
  rw [← hW0]
  have hwD := hE0.sz
  clear hW0 hev HRD HST H
  refine wpIn_rangeFunc_ownG rfl (by omega) (gf := 51) (lb := #[.pointer (some ⟨w1.heap.size + 1, 0, none⟩)]) rfl trivial (enters_of Tryd.func51 (by kernel_rfl) rfl)
    (it_stops 8 W0.heap.size (fun k => k = w1.heap.size) (by omega) l (w1.heap.size + 1) A cap W0 hlen hok (Nat.le_refl _) (fun k h => by omega) (by omega) (by omega) hA0 hh) (fun h k => h.trans k) (KpT.putObj (Nat.le_refl _)) (Below.refl _ _) (fun _ => rfl)
    (fun (pre : List (Fin 256)) W => ((∃ v, Boxed W w1.heap.size 40 v ∧ W.ownsRow W0.heap.size 3 1 v pre.length (fcells pre) ∧ True) ∧ W0.heap.size ≤ W.heap.size) ∧ Below w.heap.size w W)
    (fun _ _ _ => False)
    (OwnFrom.and (OwnFrom.and (Own.from (holdsRow_own W0.heap.size w1.heap.size 40 3 1 (fun pre : List (Fin 256) => pre.length) (fun pre : List (Fin 256) => fcells pre) (fun _ _ => True)) _) (fun s A B row hs hg _ => Nat.le_trans hs hg.size)) (ownFrom_below (Nat.le_refl _) hwD))
    (fun _ _ _ _ _ hs _ _ => hs)
    ⟨⟨⟨_, bO, World.ownsRow_nil _ _ _ _, trivial⟩, Nat.le_refl _⟩, hE0⟩
    (fun (x : Fin 256) => { tmps := #[.slice A l.length cap, undef, .slice none 0 0, .int .i64 0, .int .i64 0, .int .i64 0, .pointer (some ⟨w1.heap.size, 0, none⟩), .int .i64 (x.1 : Int), .tuple #[.int .i64 0, .int .i64 0], .slice A l.length cap, .tuple #[.int .i64 0, .int .i64 0], .int .i64 0, .int .i64 0, .int .i64 0, .bool false, undef, .slice A l.length cap, .func (.func 51) #[] #[.pointer (some ⟨w1.heap.size + 1, 0, none⟩)], .int .i64 (x.1 : Int), undef, undef, undef, undef, undef], defers := [] }) ?assign ?body ?done ?stop
  case assign =>
    intro lp x W K hK
    gi_wp2
    exact hK
  case body =>
    rintro lp pre x W ⟨⟨⟨v, hv, hrow, -⟩, hW⟩, hB⟩ hlt
    have hc := hv.cell
    gi_wp2_with (gi_at_builtin; refine wpListIn_append_own _ rfl _ _ 40 rfl W0.heap.size 3 i0 (.int .i64 0) 1 8 Tryd.underlying40 hi0 hz0 hz1 hz2 rfl (by decide) _ _ _ rfl (hrow.alloc _) ⟨W.heap.size, 0, none⟩ 1 1 [.int .i64 (x.1 : Int)] rfl rfl (cell_one_new _ _ _) (by simp [Value.oneCell']) (by unfold maxLen; omega) (by omega) (by simp; omega) ?_; intro v' w1' hown' hgrow _; obtain ⟨g', cap', rfl⟩ := ownsRow_succ hown'; obtain ⟨hv1, hv2, hr2, hk2, hb2, hB2⟩ := appT (w := w) (by decide) hv (by decide) hrow hW (by omega) (by omega) hB hown' hgrow; have hc1 := hv1.cell; have hf1 := hv1.frozen)
    exact ⟨hk2.from _, hb2, ⟨⟨_, hv2, by simpa [fcells] using hr2, trivial⟩, Nat.le_trans hW hb2.1⟩, hB2⟩
  case done =>
    rintro D ys W hD rfl ⟨⟨⟨v, hv, hrow, -⟩, hW⟩, hB⟩ hK
    have hc := hv.cell
    gi_wp2
    refine ⟨by simp, .inl ⟨_, _, rfl, run_takeDeferred hK, ?_⟩⟩
    refine ⟨.tuple #[v, .int .i64 0], by simp [results, Tryd.results31, go_sem], v, rfl, ?_, hB.trans (belowK_b (w := w) (Nat.le_refl _) W D _ _ (by omega) hK rfl rfl)⟩
    exact own_weaken (ownsRow_putObj hrow (.deferred none) hK rfl) hwD
  case stop =>
    rintro D c' pre W _ _ h _
    exact h.elim
end Go.Proofs.YtkneonfhikcdkaaDoor
