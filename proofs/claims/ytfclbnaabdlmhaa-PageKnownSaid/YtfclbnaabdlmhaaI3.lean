import Derived.Test.YtfclbnaabdlmhaaI2
namespace Go.Proofs.Ytfclbnaabdlmhaa
open Go.RowKit Go.Deep
theorem hex_ext (d : Nat) (h : d < 16) : (⟨#[48, 49, 50, 51, 52, 53, 54, 55, 56, 57, 97, 98, 99, 100, 101, 102]⟩ : ByteArray).extract d (d + 1) = ⟨#[hexc d]⟩ := by
  obtain rfl | rfl | rfl | rfl | rfl | rfl | rfl | rfl | rfl | rfl | rfl | rfl | rfl | rfl | rfl | rfl : d = 0 ∨ d = 1 ∨ d = 2 ∨ d = 3 ∨ d = 4 ∨ d = 5 ∨ d = 6 ∨ d = 7 ∨ d = 8 ∨ d = 9 ∨ d = 10 ∨ d = 11 ∨ d = 12 ∨ d = 13 ∨ d = 14 ∨ d = 15 := by omega
  all_goals rfl
set_option maxRecDepth 100000 in
set_option maxHeartbeats 4000000 in
theorem rtext_any (c : Nat → Nat) (w : World) : Calls Try.prog 30 #[pg c] w fun e w' => e = .returned (.string ⟨(txP c 8).toArray⟩) ∧ Ev w w' := by
  have HB0 := Lib.hid (BP.new w c)
  have HE0 : Hid (Ev w (w.alloc (pgO c))) := Lib.hid ((Ev.refl w).alloc _)
  go_enter Try.func30, Try.ntmps30
  go_wp2_with fail
  go_loopw [3, 4] (fun v i wr => ∃ k : Nat, k ≤ 8 ∧ i = .int .i64 k ∧ v = .string ⟨(txP c k).toArray⟩ ∧ BP wr w.heap.size c ∧ Ev w wr) (fun _ i _ => 8 - (intOf i).toNat)
  case atStart => exact ⟨0, by omega, rfl, rfl, HB0.out, HE0.out⟩
  case round =>
    obtain ⟨k, hk, rfl, rfl, hb, hev⟩ := hrel
    have HB := Lib.hid hb
    have HEV := Lib.hid hev
    clear hb hev
    by_cases hlt : k < 8
    · have hlt' : (k : Int) < 8 := by omega
      have hlen := txP_len c k
      by_cases h0 : k = 0
      · subst h0
        rw [show ((0 : Nat) : Int) = 0 from rfl]
        clear hlt hlt' hk hlen
        have h0 : True := trivial
        go_wp2_with fail
        obtain ⟨wo, hwo⟩ : ∃ wo : World, wo = wr := ⟨_, rfl⟩
        rw [← hwo] at HB HEV ⊢
        clear hwo
        go_loopw [3, 5] (fun v i W => ∃ d : Nat, d ≤ 16 ∧ i = .int .i64 (15 - (d : Int)) ∧ v = .string ⟨(txA c 0 ++ txW (c 0) d).toArray⟩ ∧ BP W w.heap.size c ∧ Ev w W) (fun _ i _ => (intOf i + 1).toNat)
        case atStart => exact ⟨0, by omega, rfl, by first | rfl | simp [txW, txA, h0], HB.out, HEV.out⟩
        case round =>
          obtain ⟨d, hd, rfl, rfl, hb, hev⟩ := hrel
          have HB5 := Lib.hid hb
          have HE5 := Lib.hid hev
          have ck := hb.2.1 0 (by omega)
          clear hb hev
          have hln : (txA c 0 ++ txW (c 0) d).length = 17 * 0 + d := by rw [List.length_append, txA_len, txW_len]
          by_cases hd16 : d < 16
          · obtain ⟨m, hm⟩ : ∃ m, m + d = 15 := ⟨15 - d, by omega⟩
            have hmd : (15 : Int) - (d : Int) = (m : Int) := by omega
            rw [hmd]
            have h16 := dg_lt (c 0) d
            have hdd : (((c 0 : Nat) : Int) / 2 ^ (4 * m)).tmod 16 = (dg (c 0) d : Int) := by
              have := dg_tmod (c 0) d
              rwa [show 64 - 4 * (d + 1) = 4 * m from by omega] at this
            have HS := Lib.hid (txW_succ (c 0) d)
            have hx := hex_ext (dg (c 0) d) h16
            have hap := app_str (txA c 0 ++ txW (c 0) d) [hexc (dg (c 0) d)]
            have HT : Hid (txA c 0 ++ txW (c 0) d ++ [hexc (dg (c 0) d)] = txA c 0 ++ txW (c 0) (d + 1)) := Lib.hid (by rw [HS.out, List.append_assoc])
            rw [HT.out] at hap
            have HM := Lib.hid hm
            have hll : ¬ 9223372036854775807 < (txA c 0 ++ txW (c 0) d).length + 1 := by omega
            have hln2 : (txA c 0 ++ txW (c 0) d).length ≤ 200 := by omega
            have hm15 : m ≤ 15 := by omega
            clear hmd hm HT HS hln
            generalize hT1 : txA c 0 ++ txW (c 0) (d + 1) = T1 at *
            have HT1 := Lib.hid hT1
            clear hT1
            generalize txA c 0 ++ txW (c 0) d = T0 at *
            generalize hexc (dg (c 0) d) = y at *
            generalize dg (c 0) d = e at *
            have he : (e : Int) < 16 := by omega
            have he0 : (0 : Int) ≤ (e : Int) := by omega
            go_wp2_with fail
            go_roundw
            case rel => exact ⟨d + 1, by have := HM.out; omega, by rw [show (15 : Int) - ((d + 1 : Nat) : Int) = (m : Int) - 1 from by have := HM.out; omega], by rw [HT1.out], HB5.out, HE5.out⟩
            case measure => simp [intOf]; try omega
          · obtain rfl : d = 16 := by omega
            rw [show (15 : Int) - ((16 : Nat) : Int) = -1 from rfl]
            clear hd16 ck
            go_wp2_with fail
            go_roundw
            case rel => exact ⟨0 + 1, by omega, by go_num, by rw [txP_eq], HB5.out, HE5.out⟩
            case measure => simp [intOf]; try omega
      · have hp : (0 : Int) < (k : Int) := by omega
        have hap0 := app_str (txP c k) [32]
        rw [show txP c k ++ [32] = txA c k from by unfold txA; rw [if_neg h0]] at hap0
        have hll0 : ¬ 9223372036854775807 < (txP c k).length + 1 := by omega
        clear hlen
        go_wp2_with fail
        clear hap0 hll0
        obtain ⟨wo, hwo⟩ : ∃ wo : World, wo = wr := ⟨_, rfl⟩
        rw [← hwo] at HB HEV ⊢
        clear hwo
        go_loopw [3, 5] (fun v i W => ∃ d : Nat, d ≤ 16 ∧ i = .int .i64 (15 - (d : Int)) ∧ v = .string ⟨(txA c k ++ txW (c k) d).toArray⟩ ∧ BP W w.heap.size c ∧ Ev w W) (fun _ i _ => (intOf i + 1).toNat)
        case atStart => exact ⟨0, by omega, rfl, by first | rfl | simp [txW, txA, h0], HB.out, HEV.out⟩
        case round =>
          obtain ⟨d, hd, rfl, rfl, hb, hev⟩ := hrel
          have HB5 := Lib.hid hb
          have HE5 := Lib.hid hev
          have ck := hb.2.1 k (by omega)
          clear hb hev
          have hln : (txA c k ++ txW (c k) d).length = 17 * k + d := by rw [List.length_append, txA_len, txW_len]
          by_cases hd16 : d < 16
          · obtain ⟨m, hm⟩ : ∃ m, m + d = 15 := ⟨15 - d, by omega⟩
            have hmd : (15 : Int) - (d : Int) = (m : Int) := by omega
            rw [hmd]
            have h16 := dg_lt (c k) d
            have hdd : (((c k : Nat) : Int) / 2 ^ (4 * m)).tmod 16 = (dg (c k) d : Int) := by
              have := dg_tmod (c k) d
              rwa [show 64 - 4 * (d + 1) = 4 * m from by omega] at this
            have HS := Lib.hid (txW_succ (c k) d)
            have hx := hex_ext (dg (c k) d) h16
            have hap := app_str (txA c k ++ txW (c k) d) [hexc (dg (c k) d)]
            have HT : Hid (txA c k ++ txW (c k) d ++ [hexc (dg (c k) d)] = txA c k ++ txW (c k) (d + 1)) := Lib.hid (by rw [HS.out, List.append_assoc])
            rw [HT.out] at hap
            have HM := Lib.hid hm
            have hll : ¬ 9223372036854775807 < (txA c k ++ txW (c k) d).length + 1 := by omega
            have hln2 : (txA c k ++ txW (c k) d).length ≤ 200 := by omega
            have hm15 : m ≤ 15 := by omega
            clear hmd hm HT HS hln
            generalize hT1 : txA c k ++ txW (c k) (d + 1) = T1 at *
            have HT1 := Lib.hid hT1
            clear hT1
            generalize txA c k ++ txW (c k) d = T0 at *
            generalize hexc (dg (c k) d) = y at *
            generalize dg (c k) d = e at *
            have he : (e : Int) < 16 := by omega
            have he0 : (0 : Int) ≤ (e : Int) := by omega
            go_wp2_with fail
            go_roundw
            case rel => exact ⟨d + 1, by have := HM.out; omega, by rw [show (15 : Int) - ((d + 1 : Nat) : Int) = (m : Int) - 1 from by have := HM.out; omega], by rw [HT1.out], HB5.out, HE5.out⟩
            case measure => simp [intOf]; try omega
          · obtain rfl : d = 16 := by omega
            rw [show (15 : Int) - ((16 : Nat) : Int) = -1 from rfl]
            clear hd16 ck
            go_wp2_with fail
            go_roundw
            case rel => exact ⟨k + 1, by omega, by go_num, by rw [txP_eq], HB5.out, HE5.out⟩
            case measure => simp [intOf]; try omega
    · obtain rfl : k = 8 := by omega
      go_wp2_with fail
      go_ret
      exact ⟨rfl, HEV.out⟩
end Go.Proofs.Ytfclbnaabdlmhaa
