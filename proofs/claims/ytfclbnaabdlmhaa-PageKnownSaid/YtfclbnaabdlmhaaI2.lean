import Derived.Test.YtfclbnaabdlmhaaI1
namespace Go.Proofs.Ytfclbnaabdlmhaa
open Go.RowKit Go.Deep
def OwnY (w : World) (base : Nat) (v : Value) (L : List UInt8) : Prop := w.ownsRow base 5 1 v L.length (BV L)
set_option maxRecDepth 100000 in
set_option maxHeartbeats 4000000 in
theorem text_any (c : Nat → Nat) (w : World) : Calls Try.prog 29 #[pg c] w fun e w' => e = .returned (.string ⟨(txP c 8).toArray⟩) ∧ Ev w w' := by
  obtain ⟨i0, hi0, hz0, hz1, hz2⟩ := info_parts info5
  have hm := mk135
  have HO0 : Hid (((w.alloc (pgO c)).alloc (.cells (madeCells #[.int .u8 0] 135) 5)).ownsRow (w.heap.size + 1) 5 1 (.slice (some ⟨w.heap.size + 1, 0, none⟩) 0 135) 0 []) := Lib.hid (by
    have h := World.ownsRow_made (base := w.heap.size + 1) (e := 5) (size := 1) (w.alloc (pgO c)) (madeCells #[.int .u8 0] 135) 135 (by simp) (by unfold maxLen; omega) (by rw [size_madeCells])
    have e : (w.alloc (pgO c)).heap.size = w.heap.size + 1 := by simp
    rwa [e] at h)
  have HE0 : Hid (Ev w ((w.alloc (pgO c)).alloc (.cells (madeCells #[.int .u8 0] 135) 5))) := Lib.hid (((Ev.refl w).alloc _).alloc _)
  go_enter Try.func29, Try.ntmps29
  go_wp2_with fail
  clear hm
  go_loopw [3, 9] (fun v i wr => ∃ k : Nat, k ≤ 8 ∧ i = .int .i64 k ∧ OwnY wr (w.heap.size + 1) v (txP c k) ∧ Ev w wr) (fun _ i _ => 8 - (intOf i).toNat)
  case atStart => exact ⟨0, by omega, rfl, HO0.out, HE0.out⟩
  case round =>
    obtain ⟨k, hk, rfl, hown, hev⟩ := hrel
    have HOWN := Lib.hid hown
    have HEV := Lib.hid hev
    have hsz : w.heap.size ≤ wr.heap.size := hev.sz
    clear hown hev
    by_cases hlt : k < 8
    · have hlt' : (k : Int) < 8 := by omega
      have HX := fun W => ixM c W k hlt
      have hlen := txP_len c k
      by_cases h0 : k = 0
      · subst h0
        clear hlt hlt' HX hlen hk
        have HX : ∀ W, (Instr.index 24 (pg c) (.int .i64 0)).run Try.prog W = .ok (.int .u64 (c 0 : Int)) W := fun W => ixM c W 0 (by omega)
        rw [show ((0 : Nat) : Int) = 0 from rfl]
        have HOA : Hid (OwnY wr (w.heap.size + 1) u3 (txA c 0)) := Lib.hid HOWN.out
        have HEA := HEV
        go_wp2_with fail
        obtain ⟨wo, hwo⟩ : ∃ wo : World, wo = wr := ⟨_, rfl⟩
        try rw [← hwo] at HOA HEA
        try rw [← hwo]
        clear hwo
        go_loopw [3, 18] (fun v i W => ∃ d : Nat, d ≤ 16 ∧ i = .int .i64 d ∧ OwnY W (w.heap.size + 1) v (txA c 0 ++ txW (c 0) d) ∧ Ev w W) (fun _ i _ => 16 - (intOf i).toNat)
        case atStart => exact ⟨0, by omega, rfl, by simpa [txW] using HOA.out, HEA.out⟩
        case round =>
          obtain ⟨d, hd, rfl, hown, hev⟩ := hrel
          have HO := Lib.hid hown
          have HE := Lib.hid hev
          have hsz := hev.sz
          clear hown hev
          have hln : (txA c 0 ++ txW (c 0) d).length = 17 * 0 + d := by rw [List.length_append, txA_len, txW_len]
          by_cases hd16 : d < 16
          · have hd16' : (d : Int) < 16 := by omega
            have h16 := dg_lt (c 0) d
            have hdd : (((c 0 : Nat) : Int) / 2 ^ (64 - 4 * (d + 1))).tmod 16 = (dg (c 0) d : Int) := dg_tmod (c 0) d
            have HS := Lib.hid (txW_succ (c 0) d)
            have hx := hex_at (dg (c 0) d) h16
            have HCV : Hid (((hexc (dg (c 0) d)).toNat : Int) = ((hexc (dg (c 0) d)).toNat : Int)) := Lib.hid rfl
            generalize hexc (dg (c 0) d) = y at *
            generalize dg (c 0) d = e at *
            have he : (e : Int) < 16 := by omega
            have he0 : (0 : Int) ≤ (e : Int) := by omega
            clear HCV
            go_wp2_with (at_builtin; go_loud (refine wpList_append_own _ rfl _ _ 66 rfl (w.heap.size + 1) 5 i0 (.int .u8 0) 1 1 Try.underlying66 hi0 hz0 hz1 hz2 rfl (by decide) _ (txA c 0 ++ txW (c 0) d).length (BV (txA c 0 ++ txW (c 0) d)) rfl (HO.out.alloc _) ⟨wr.heap.size, 0, none⟩ 1 1 [.int .u8 (y.toNat : Int)] rfl rfl (one_cell _ _ _) (by simp [Value.oneCell']) (by unfold maxLen; omega) (by omega) (by simp; omega) ?_); intro v1 w5 hown5 hg5 _)
            have hge := row_ge HO.out
            have HE5 := Lib.hid (Ev.grown (HE.out.alloc _) hg5 (fun g hg => by have := hge g hg; omega))
            have HO5 : Hid (OwnY w5 (w.heap.size + 1) v1 (txA c 0 ++ txW (c 0) (d + 1))) := Lib.hid (by
              unfold OwnY
              rw [HS.out, ← List.append_assoc, BV_app, List.length_append]
              exact hown5)
            clear hg5 hown5 hge
            go_wp2_with fail
            go_roundw
            case rel => exact ⟨d + 1, by omega, by go_num, HO5.out, HE5.out⟩
            case measure => simp [intOf]; omega
          · obtain rfl : d = 16 := by omega
            clear hd16
            go_wp2_with fail
            go_roundw
            case rel => exact ⟨0 + 1, by omega, by go_num, by rw [txP_eq]; exact HO.out, HE.out⟩
            case measure => simp [intOf]; try omega
      · have hp : (0 : Int) < (k : Int) := by omega
        go_wp2_with (at_builtin; go_loud (refine wpList_append_own _ rfl _ _ 66 rfl (w.heap.size + 1) 5 i0 (.int .u8 0) 1 1 Try.underlying66 hi0 hz0 hz1 hz2 rfl (by decide) _ (txP c k).length (BV (txP c k)) rfl (HOWN.out.alloc _) ⟨wr.heap.size, 0, none⟩ 1 1 [.int .u8 32] rfl rfl (one_cell _ _ _) (by simp [Value.oneCell']) (by unfold maxLen; omega) (by omega) (by simp; omega) ?_); intro v1 w4 hown4 hg4 _)
        have hge := row_ge HOWN.out
        have HEA := Lib.hid (Ev.grown (HEV.out.alloc _) hg4 (fun g hg => by have := hge g hg; omega))
        have HOA : Hid (OwnY w4 (w.heap.size + 1) v1 (txA c k)) := Lib.hid (by
          unfold OwnY txA
          rw [if_neg h0, BV_app, List.length_append]
          exact hown4)
        clear hg4 hown4 hge
        obtain ⟨wo, hwo⟩ : ∃ wo : World, wo = wr := ⟨_, rfl⟩
        try rw [← hwo] at HOA HEA
        try rw [← hwo]
        clear hwo
        go_loopw [3, 18] (fun v i W => ∃ d : Nat, d ≤ 16 ∧ i = .int .i64 d ∧ OwnY W (w.heap.size + 1) v (txA c k ++ txW (c k) d) ∧ Ev w W) (fun _ i _ => 16 - (intOf i).toNat)
        case atStart => exact ⟨0, by omega, rfl, by simpa [txW] using HOA.out, HEA.out⟩
        case round =>
          obtain ⟨d, hd, rfl, hown, hev⟩ := hrel
          have HO := Lib.hid hown
          have HE := Lib.hid hev
          have hsz := hev.sz
          clear hown hev
          have hln : (txA c k ++ txW (c k) d).length = 17 * k + d := by rw [List.length_append, txA_len, txW_len]
          by_cases hd16 : d < 16
          · have hd16' : (d : Int) < 16 := by omega
            have h16 := dg_lt (c k) d
            have hdd : (((c k : Nat) : Int) / 2 ^ (64 - 4 * (d + 1))).tmod 16 = (dg (c k) d : Int) := dg_tmod (c k) d
            have HS := Lib.hid (txW_succ (c k) d)
            have hx := hex_at (dg (c k) d) h16
            have HCV : Hid (((hexc (dg (c k) d)).toNat : Int) = ((hexc (dg (c k) d)).toNat : Int)) := Lib.hid rfl
            generalize hexc (dg (c k) d) = y at *
            generalize dg (c k) d = e at *
            have he : (e : Int) < 16 := by omega
            have he0 : (0 : Int) ≤ (e : Int) := by omega
            clear HCV
            go_wp2_with (at_builtin; go_loud (refine wpList_append_own _ rfl _ _ 66 rfl (w.heap.size + 1) 5 i0 (.int .u8 0) 1 1 Try.underlying66 hi0 hz0 hz1 hz2 rfl (by decide) _ (txA c k ++ txW (c k) d).length (BV (txA c k ++ txW (c k) d)) rfl (HO.out.alloc _) ⟨wr.heap.size, 0, none⟩ 1 1 [.int .u8 (y.toNat : Int)] rfl rfl (one_cell _ _ _) (by simp [Value.oneCell']) (by unfold maxLen; omega) (by omega) (by simp; omega) ?_); intro v1 w5 hown5 hg5 _)
            have hge := row_ge HO.out
            have HE5 := Lib.hid (Ev.grown (HE.out.alloc _) hg5 (fun g hg => by have := hge g hg; omega))
            have HO5 : Hid (OwnY w5 (w.heap.size + 1) v1 (txA c k ++ txW (c k) (d + 1))) := Lib.hid (by
              unfold OwnY
              rw [HS.out, ← List.append_assoc, BV_app, List.length_append]
              exact hown5)
            clear hg5 hown5 hge
            go_wp2_with fail
            go_roundw
            case rel => exact ⟨d + 1, by omega, by go_num, HO5.out, HE5.out⟩
            case measure => simp [intOf]; omega
          · obtain rfl : d = 16 := by omega
            clear hd16
            go_wp2_with fail
            go_roundw
            case rel => exact ⟨k + 1, by omega, by go_num, by rw [txP_eq]; exact HO.out, HE.out⟩
            case measure => simp [intOf]; try omega
    · obtain rfl : k = 8 := by omega
      have hlen := txP_len c 8
      obtain ⟨g, cap, rfl⟩ : ∃ g cap, u3 = .slice (some ⟨g, 0, none⟩) (txP c 8).length cap := by
        rcases HOWN.out.2 with ⟨rfl, h0⟩ | ⟨g, cap, cur, rfl, _⟩
        · rw [hlen] at h0; omega
        · exact ⟨g, cap, rfl⟩
      have hcv := fun W => str_conv W g (txP c 8).length cap (txP c 8) rfl
      have hcv2 := hcv wr (own_weaken HOWN.out (by omega))
      clear hcv hlen
      go_wp2_with fail
      go_ret
      exact ⟨rfl, HEV.out⟩
end Go.Proofs.Ytfclbnaabdlmhaa
