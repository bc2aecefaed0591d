import Derived.Test.YtfclbnaabdlmhaaP8
namespace Go.Proofs.Ytfclbnaabdlmhaa
open Go.RowKit
theorem results_cell_row2 {P : Program} {fn : Func} {p q : Tmp} {ty : TypeId} (h : fn.results = #[.cell p ty, .tmp q]) (tmps : Array Value) (w : World) (g : Nat) (t : TypeId) (cs : Array Value) (fr : Nat × Nat) (d : TypeDesc)
    (hp : tmps.getD p undef = .pointer (some ⟨g, 0, none⟩)) (hg : w.heap[g]? = some (.cells cs t fr))
    (hu : P.underlying ty = some d) (hd : (match d with | .struct _ | .array _ _ => true | _ => false) = true) (hi : (P.info? ty).map (·.size) = some cs.size) :
    (results fn tmps).run P w = .ok (.tuple #[.agg cs, tmps.getD q undef]) w := by
  have hp' : tmps[p]?.getD undef = .pointer (some ⟨g, 0, none⟩) := by simpa using hp
  simp [results, h, hp', asAddr, run_loadVar_row w g t ty cs fr d hg hu hd hi]
theorem IsB.congr {X : Array Value} {b d : Nat → Nat} (h : IsB X b) (e : ∀ i, i < 64 → b i = d i) : IsB X d := ⟨h.1, fun i hi => by rw [h.2 i hi, e i hi]⟩
theorem IsB.put {X : Array Value} {b : Nat → Nat} {a k v : Nat} (h : IsB X (pb b a k v)) (ha : a + k < 64) : IsB (X.setIfInBounds (a + k) (.int .u8 ((v : Int) / 2 ^ (k * 8) % 256))) (pb b a (k + 1) v) := by
  refine ⟨by rw [Array.size_setIfInBounds]; exact h.1, fun i hi => ?_⟩
  rw [Array.getElem?_setIfInBounds]
  by_cases e : a + k = i
  · subst e
    rw [if_pos rfl, if_pos (by rw [h.1]; exact ha), cast_shr]
    have : pb b a (k + 1) v (a + k) = v / 2 ^ (k * 8) % 256 := by
      unfold pb
      rw [if_pos (by omega), show a + k - a = k from by omega, show (256 : Nat) ^ k = 2 ^ (k * 8) from by rw [Nat.mul_comm, Nat.pow_mul]]
    rw [this]
  · rw [if_neg e, h.2 i hi]
    have : pb b a k v i = pb b a (k + 1) v i := by
      unfold pb
      by_cases e2 : a ≤ i ∧ i < a + k
      · rw [if_pos e2, if_pos (by omega)]
      · rw [if_neg e2, if_neg (by omega)]
    rw [this]
theorem pb0 (b : Nat → Nat) (a v : Nat) : pb b a 0 v = b := by funext i; unfold pb; rw [if_neg (by omega)]
theorem heap1 {w w1 : World} {o1 : Obj} {Z : Array Value} {t : Nat} (hb : Ev ((w.alloc o1).alloc (.cells Z t)) w1) : w1.heap[w.heap.size + 1]? = some (.cells Z t (0, 0)) := by
  rw [hb.block _ (by simp)]
  exact heap_alloc2_new w _ _
theorem heap_lt {w : World} {g : Nat} {o : Obj} (h : w.heap[g]? = some o) : g < w.heap.size := (Array.getElem?_eq_some_iff.1 h).1
set_option maxRecDepth 100000 in
set_option maxHeartbeats 4000000 in
theorem putb_ok (c : Nat → Nat) (a n v : Nat) (w : World) (h1 : 1 ≤ n) (h2 : n ≤ 8) (h3 : a + n ≤ 64) :
    Calls Try.prog 20 #[pg c, .int .i64 (a : Int), .int .i64 (n : Int), .int .u64 (v : Int)] w fun e w' => e = .returned (.tuple #[pg (wrd (pb (byt c) a n v)), .int .i64 0]) ∧ Ev w w' := by
  have H1 := Lib.hid fun W => inside_yes a n W (by omega)
  have hm := Lib.hid mk8
  have ha := arr24
  go_enter Try.func20, Try.ntmps20
  go_wp2_with fail
  refine (H1.out _).mono ?_
  rintro e w1 ⟨rfl, rfl⟩
  go_wp2_with fail
  refine (cut_any c _).mono ?_
  rintro e w2 ⟨X, rfl, hX, hev⟩
  obtain ⟨Z, hZs, hz⟩ : ∃ Z : Array Value, Z.size = 8 ∧ w2.heap[w.heap.size + 1]? = some (.cells Z 24 (0, 0)) := by
    refine ⟨_, ?_, heap1 hev⟩
    rfl
  have HE := Lib.hid (show Ev w w2 from (((Ev.refl w).alloc _).alloc _ : Ev w _).step hev)
  have HX := Lib.hid hX
  have HS := Lib.hid hX.1
  have HZ := Lib.hid hz
  have HZS := Lib.hid hZs
  have HL := Lib.hid (heap_lt hz)
  clear hX hev hz hZs
  go_wp2_with (refine wpList_store_row rfl 59 (.tmp 10) (.tmp 18) (by rfl) w2.heap.size X (by rfl) (by rfl) 59 _ (heap_alloc_new w2 _) (by rw [HS.out]; exact info59) (by rw [HS.out]; rfl) HX.out.one ?_)
  go_loopw [20] (fun i wr => ∃ (k : Nat) (Y : Array Value), k ≤ n ∧ i = .int .i64 k ∧ wr.heap[w2.heap.size]? = some (.cells Y 59 (0, 0)) ∧ IsB Y (pb (byt c) a k v) ∧ Ev w2 wr) (fun i _ => n - (intOf i).toNat)
  case atStart => exact ⟨0, X, by omega, rfl, setRow_heap _ _ _ X 59 (0, 0) (heap_alloc_new w2 _), by rw [pb0]; exact HX.out, ((Ev.refl _).alloc _).setRow (Nat.le_refl _) _⟩
  case round =>
    obtain ⟨k, Y, hk, rfl, hg, hY, hev⟩ := hrel
    by_cases hlt : k < n
    · have hlt' : (k : Int) < n := by omega
      have c1 : wr.cell? ⟨w2.heap.size, a + k, none⟩ = some (.int .u8 (pb (byt c) a k v (a + k) : Int)) := by rw [cell_of_row wr _ _ Y 59 (0, 0) hg]; exact hY.2 _ (by omega)
      have f1 := frozen_of_row wr w2.heap.size (a + k) Y 59 hg
      have HG := Lib.hid hg
      have HY := Lib.hid hY
      have HEV := Lib.hid hev
      clear hg hY hev
      go_wp2_with fail
      go_roundw
      case rel => exact ⟨k + 1, _, by omega, by go_num, heap_setCell_same _ _ _ Y 59 _ HG.out, HY.out.put (by omega), HEV.out.setC (Nat.le_refl _) _⟩
      case measure => simp [intOf]; omega
    · obtain rfl : k = n := by omega
      have HG := Lib.hid hg
      have HGL := Lib.hid (heap_lt hg)
      have HY := Lib.hid hY
      have HEV := Lib.hid hev
      clear hg hY hev
      have hm := hm.out
      go_wp2_with fail
      clear hm
      refine (fillb_any (wrd (pb (byt c) a k v)) w2.heap.size _ _ (Lib.hid fun (j : Nat) W hj hb => putf_any Y (pb (byt c) a k v) w2.heap.size j W HY.out (pb_lt (byt_lt c) _ _ _) hj ((hb.block _ HGL.out).trans ((heap_alloc_old _ _ HGL.out).trans HG.out))) (World.rowIs_made _ _ _ _)).mono ?_
      rintro e w5 ⟨rfl, ⟨V, hV, hs, hx⟩, hb⟩
      have h1 := Lib.hid hV
      have h2 := Lib.hid (show w5.heap[w.heap.size + 1]? = some (.cells Z 24 (0, 0)) from (hb.block _ (Nat.lt_of_lt_of_le HL.out HEV.out.sz)).trans ((heap_alloc_old _ _ (Nat.lt_of_lt_of_le HL.out HEV.out.sz)).trans ((HEV.out.block _ HL.out).trans HZ.out)))
      have h3 := Lib.hid hs
      have h5 := Lib.hid (row8 hs hx)
      have h7 := Lib.hid (one8 hs hx)
      have h6 : Hid (Ev w w5) := Lib.hid (HE.out.step (HEV.out.step (Below.trans (al1 _ _) hb)))
      clear hV hs hx hb
      go_wp2_with (first | (refine wpList_load_row rfl 24 (.tmp 36) (by rfl) wr.heap.size (by rfl) 22 V (0, 0) _ h1.out Try.underlying24 rfl (by rw [h3.out]; exact info24) ?_) | (refine wpList_store_row rfl 24 (.tmp 8) (.tmp 37) (by rfl) (w.heap.size + 1) V (by rfl) (by rfl) 24 Z h2.out (by rw [h3.out]; exact info24) (by rw [h3.out, HZS.out]) h7.out ?_))
      refine bodyPost_ret (v := .tuple #[.agg V, .int .i64 0]) (results_cell_row2 Try.results20 _ _ (w.heap.size + 1) 24 V (0, 0) _ (by rfl) (setRow_heap _ _ Z V 24 (0, 0) h2.out) Try.underlying24 rfl (by rw [h3.out]; exact info24)) rfl ⟨by rw [h5.out], h6.out.setRow (by omega) _⟩
theorem putb_bad (c : Nat → Nat) (a n : Int) (v : Nat) (w : World) (h : ¬ (1 ≤ n ∧ n ≤ 8 ∧ 0 ≤ a ∧ a ≤ 64 - n)) :
    Calls Try.prog 20 #[pg c, .int .i64 a, .int .i64 n, .int .u64 (v : Int)] w fun e w' => e = .returned (.tuple #[pg (fun _ => 0), .int .i64 2]) ∧ Ev w w' := by
  have H1 := Lib.hid fun W => inside_no a n W h
  clear h
  go_enter Try.func20, Try.ntmps20
  go_wp2_with fail
  refine (H1.out _).mono ?_
  rintro e w1 ⟨rfl, rfl⟩
  go_wp2_with fail
  refine bodyPost_ret (v := .tuple #[pg (fun _ => 0), .int .i64 2]) (by simp [results, Try.results20, go_sem]) rfl ⟨rfl, ?_⟩
  exact ((Ev.refl _).alloc _).alloc _
end Go.Proofs.Ytfclbnaabdlmhaa
