import Derived.Test.YtdkfedbjbcaajaaDoorRB
import Derived.Test.YtdkfedbjbcaajaaDoorR6
import Derived.Deep.LoopGhost
namespace Go.Proofs.YtdkfedbjbcaajaaDoor
open Go.RowKit
/-- the first byte that is no letter -/
def goodTo (s : ByteArray) (i : Nat) : Prop := ∀ j, j < i → 0 ≤ roleV (at' s j)
def rolesOf (s : ByteArray) (n : Nat) : List Int := (List.range n).map (fun k => roleV (at' s k))
theorem rolesOf_len (s : ByteArray) (n : Nat) : (rolesOf s n).length = n := by unfold rolesOf; simp
theorem rolesOf_IV (s : ByteArray) (n : Nat) : IV (rolesOf s (n + 1)) = IV (rolesOf s n) ++ [.int .i64 (roleV (at' s n))] := by unfold rolesOf; rw [List.range_succ, List.map_append]; unfold IV; simp
set_option maxRecDepth 100000 in
set_option maxHeartbeats 8000000 in
theorem parse_long (s : ByteArray) (w : World) (hs : 256 < s.size) (hs2 : s.size < 1000000) :
    Calls Tryd.prog 31 #[.string s] w fun e w' => e = .returned (.tuple #[.slice none 0 0, .agg #[.int .i64 4, .int .i64 256]]) ∧ Ev w w' := by
  have hs' : (256 : Int) < (s.size : Int) := by omega
  go_enter Tryd.func31, Tryd.ntmps31
  go_wp2_with fail
  refine bodyPost_ret (v := .tuple #[.slice none 0 0, .agg #[.int .i64 4, .int .i64 256]]) (by simp [results, Tryd.results31, go_sem]) rfl ⟨rfl, ?_⟩
  exact Ev.alloc (Ev.refl w) (.cells #[.int .i64 4, .int .i64 256] 47)
def BxF (W : World) (b : Nat) : Prop := W.heap[b]? = some (.cells #[.int .i64 0, .int .i64 0] 47 (0, 0))
theorem BxF.c {W : World} {b : Nat} (h : BxF W b) : W.cell? ⟨b, 0, none⟩ = some (.int .i64 0) ∧ W.cell? ⟨b, 1, none⟩ = some (.int .i64 0) ∧ W.frozen? ⟨b, 0, none⟩ = false ∧ W.frozen? ⟨b, 1, none⟩ = false := by
  refine ⟨?_, ?_, ?_, ?_⟩
  · rw [cell_of_row W b 0 _ 47 (0, 0) h]; rfl
  · rw [cell_of_row W b 1 _ 47 (0, 0) h]; rfl
  · exact frozen_of_row W b 0 _ 47 h
  · exact frozen_of_row W b 1 _ 47 h
theorem BxF.bl {W X : World} {B b : Nat} (h : BxF W b) (e : Below B W X) (hb : b < B) : BxF X b := (e.block b hb).trans h
theorem own_iter {w : World} {base k : Nat} {v : Value} {L : List Int} (h : OwnI w base v L) (hk : k < base) (s : ByteArray) (p : Nat) : OwnI (w.iterAt k s p) base v L := ownsRow_iterAt h hk s p
set_option maxRecDepth 100000 in
set_option maxHeartbeats 8000000 in
theorem parse_any (s : ByteArray) (w : World) (hs : s.size ≤ 256) :
    Calls Tryd.prog 31 #[.string s] w fun e w' => (∃ v, (goodTo s s.size ∧ e = .returned (.tuple #[v, .agg #[.int .i64 0, .int .i64 0]]) ∧ OwnI w' w.heap.size v (rolesOf s s.size)) ∨ (∃ i : Nat, i < s.size ∧ goodTo s i ∧ roleV (at' s i) < 0 ∧ e = .returned (.tuple #[v, .agg #[.int .i64 3, .int .i64 i]]) ∧ v = .slice none 0 0)) ∧ Ev w w' := by
  obtain ⟨i0, hi0, hz0, hz1, hz2⟩ := info_parts info3
  have hs' : (s.size : Int) ≤ 256 := by omega
  go_enter Tryd.func31, Tryd.ntmps31
  go_upto_region 5 with fail
  have HIT : Hid (((w.alloc (.cells #[.int .i64 0, .int .i64 0] 47)).iter s 0).heap[w.heap.size + 1]? = some (.stringIter s 0)) := Lib.hid (by
    have := World.iter_heap (w.alloc (.cells #[.int .i64 0, .int .i64 0] 47)) s 0
    simpa using this)
  have HBF : Hid (BxF ((w.alloc (.cells #[.int .i64 0, .int .i64 0] 47)).iter s 0) w.heap.size) := Lib.hid ((heap_alloc_old _ _ (by simp)).trans (heap_alloc_new w _))
  have HEV : Hid (Ev w ((w.alloc (.cells #[.int .i64 0, .int .i64 0] 47)).iter s 0)) := Lib.hid (((Ev.refl w).alloc _).alloc _)
  have HSZ : Hid (w.heap.size + 2 ≤ ((w.alloc (.cells #[.int .i64 0, .int .i64 0] 47)).iter s 0).heap.size) := Lib.hid (by unfold World.iter; simp)
  generalize ((w.alloc (.cells #[.int .i64 0, .int .i64 0] 47)).iter s 0) = W0 at *
  go_loopg [4] s.size (fun gh v wr => ∃ i : Nat, gh + i = s.size ∧ goodTo s i ∧ OwnI wr (w.heap.size + 2) v (rolesOf s i) ∧ wr.heap[w.heap.size + 1]? = some (.stringIter s i) ∧ BxF wr w.heap.size ∧ Ev w wr ∧ w.heap.size + 2 ≤ wr.heap.size)
  case atStart => exact ⟨0, rfl, fun j hj => by omega, nil_own _ _, HIT.out, HBF.out, HEV.out, HSZ.out⟩
  case round =>
    obtain ⟨i, hg, hgood, hown, hit, hbf, hev, hsz⟩ := hrel
    have HG := Lib.hid hg
    have HGD := Lib.hid hgood
    have HO := Lib.hid hown
    have HI := Lib.hid hit
    have HB := Lib.hid hbf
    have HV := Lib.hid hev
    have HZ := Lib.hid hsz
    clear hg hgood hown hit hbf hev hsz HIT HBF HEV HSZ
    by_cases hlt : i < s.size
    · have hnx := Lib.run_next_any_at (P := Tryd.prog) wr (w.heap.size + 1) s i 0 HI.out hlt
      obtain ⟨hd1, hd2⟩ := dec_role s i hlt
      have HO1 : Hid (OwnI (wr.iterAt (w.heap.size + 1) s (i + (Utf8.decode s i).2)) (w.heap.size + 2) u4 (rolesOf s i)) := Lib.hid (own_iter HO.out (by omega) _ _)
      have HI1 : Hid ((wr.iterAt (w.heap.size + 1) s (i + (Utf8.decode s i).2)).heap[w.heap.size + 1]? = some (.stringIter s (i + (Utf8.decode s i).2))) := Lib.hid (Lib.iterAt_heap _ _ _ _ _ HI.out)
      have HB1 : Hid (BxF (wr.iterAt (w.heap.size + 1) s (i + (Utf8.decode s i).2)) w.heap.size) := Lib.hid ((Lib.iterAt_other _ _ _ _ _ (by omega)).trans HB.out)
      have HV1 : Hid (Ev w (wr.iterAt (w.heap.size + 1) s (i + (Utf8.decode s i).2))) := Lib.hid (Lib.below_iterAt HV.out (by omega) _ _)
      have HZ1 : Hid (w.heap.size + 2 ≤ (wr.iterAt (w.heap.size + 1) s (i + (Utf8.decode s i).2)).heap.size) := Lib.hid (by rw [Lib.iterAt_size]; exact HZ.out)
      have HL := Lib.hid hlt
      have HD2 := Lib.hid hd2
      generalize wr.iterAt (w.heap.size + 1) s (i + (Utf8.decode s i).2) = W1 at *
      generalize hdd : (Utf8.decode s i).1 = dd at *
      have C1 := Lib.hid (fun W => letter_any dd W)
      have C2 := Lib.hid (fun W => idx_any (letV dd) W (letV_lt dd))
      rw [hd1] at C2
      clear hdd hd1 hd2 hlt
      by_cases hr : roleV (at' s i) < 0
      · have HR := Lib.hid hr
        obtain ⟨c0, c1, f0, f1⟩ := HB1.out.c
        obtain ⟨rv, hrv⟩ : ∃ rv, rv = roleV (at' s i) := ⟨_, rfl⟩
        rw [← hrv] at C2 hr
        clear hrv
        go_wp2_with fail
        refine (C1.out _).mono ?_
        rintro e w5 ⟨rfl, rfl⟩
        go_wp2_with fail
        refine (C2.out _).mono ?_
        rintro e w5 ⟨rfl, rfl⟩
        go_wp2_with fail
        refine bodyPost_ret (v := .tuple #[.slice none 0 0, .agg #[.int .i64 3, .int .i64 i]]) (by simp [results, Tryd.results31, go_sem, c0, c1]) rfl ⟨⟨_, .inr ⟨i, HL.out, HGD.out, HR.out, rfl, rfl⟩⟩, ?_⟩
        exact (HV1.out.setC (by simp) _).setC (by simp) _
      · have hr0 : 0 ≤ roleV (at' s i) := by omega
        have e2 := HD2.out hr0
        rw [e2] at HI1
        have HGD2 : Hid (goodTo s (i + 1)) := Lib.hid fun j hj => by
          rcases Nat.lt_or_ge j i with h | h
          · exact HGD.out j h
          · obtain rfl : j = i := by omega
            exact hr0
        have HAC := Lib.hid (rolesOf_IV s i)
        have HAL := Lib.hid (rolesOf_len s (i + 1))
        have HIV : Hid (W1.ownsRow (w.heap.size + 2) 3 1 u4 i (IV (rolesOf s i))) := Lib.hid (by have h := HO1.out; unfold OwnI at h; rwa [rolesOf_len] at h)
        have hi256 : i ≤ 256 := by have := HL.out; omega
        generalize roleV (at' s i) = rv at *
        have H1 := Lib.hid (one_cell W1 (.int .i64 rv) 3)
        have H5 : Hid (w.heap.size + 2 ≤ (W1.alloc (.cells #[.int .i64 rv] 3)).heap.size) := Lib.hid (Nat.le_trans HZ1.out (by simp))
        clear e2 hr
        go_wp2_with fail
        refine (C1.out _).mono ?_
        rintro e w5 ⟨rfl, rfl⟩
        go_wp2_with fail
        refine (C2.out _).mono ?_
        rintro e w5 ⟨rfl, rfl⟩
        go_wp2_with (at_builtin; go_loud (refine wpList_append_own _ rfl (.tmp 25) (.tmp 27) 25 rfl (w.heap.size + 2) 3 i0 (.int .i64 0) 1 8 Tryd.underlying25 hi0 hz0 hz1 hz2 rfl (by decide) u4 i (IV (rolesOf s i)) rfl (HIV.out.alloc _) ⟨W1.heap.size, 0, none⟩ 1 1 [.int .i64 rv] rfl rfl H1.out (by simp [Value.oneCell']) (by unfold maxLen; omega) (by omega) H5.out ?_); intro v1 w4 hown4 hg4 _)
        have HW4 : Hid (Below (w.heap.size + 2) W1 w4) := Lib.hid (Below.grown ((Below.refl _ _).alloc HZ1.out _) hg4 H5.out (fun g hg => row_ge HIV.out g hg))
        have HO4 : Hid (OwnI w4 (w.heap.size + 2) v1 (rolesOf s (i + 1))) := Lib.hid (by unfold OwnI; rw [HAL.out, HAC.out]; exact hown4)
        have HE4 : Hid (Ev w w4) := Lib.hid (Below.trans HV1.out (HW4.out.mono (by omega)))
        have HI4 : Hid (w4.heap[w.heap.size + 1]? = some (.stringIter s (i + 1))) := Lib.hid ((HW4.out.block _ (by omega)).trans HI1.out)
        have HB4 : Hid (BxF w4 w.heap.size) := Lib.hid (HB1.out.bl HW4.out (by omega))
        clear hown4 hg4
        go_roundg (gk - 1)
        case rel => exact ⟨i + 1, by have := HG.out; have := HL.out; omega, HGD2.out, HO4.out, HI4.out, HB4.out, HE4.out, by have := HW4.out.size; have := HZ1.out; omega⟩
        case measure => have := HG.out; have := HL.out; omega
    · obtain rfl : i = s.size := by have := HG.out; omega
      have hnx := Lib.run_next_end_at (P := Tryd.prog) wr (w.heap.size + 1) s s.size 0 HI.out hlt
      obtain ⟨c0, c1, f0, f1⟩ := HB.out.c
      clear hlt
      go_wp2_with fail
      refine bodyPost_ret (v := .tuple #[u4, .agg #[.int .i64 0, .int .i64 0]]) (by simp [results, Tryd.results31, go_sem, c0, c1]) rfl ⟨⟨u4, .inl ⟨HGD.out, rfl, ?_⟩⟩, ?_⟩
      · exact own_weaken (ownsRow_setCell_below (ownsRow_setCell_below HO.out (by simp) _) (by simp) _) (by omega)
      · exact (HV.out.setC (by simp) _).setC (by simp) _
end Go.Proofs.YtdkfedbjbcaajaaDoor
