import Derived.Test.YtdkfedbjbcaajaaDoorRD
namespace Go.Proofs.YtdkfedbjbcaajaaDoor
open Go.RowKit
def lt8 (k : Nat) : Nat := [46, 80, 83, 84, 77, 87, 82, 79].getD k 0
def fr (b : Nat) : Nat → Int
  | 0 => -1
  | k + 1 => if lt8 k = b then (k : Int) else fr b k
theorem frF : ∀ b : Fin 256, fr b.1 8 = roleV b.1 := by decide +kernel
theorem exAt : ∀ k : Fin 8, ((⟨#[46, 80, 83, 84, 77, 87, 82, 79]⟩ : ByteArray)[k.1]'(k.2)).toNat = lt8 k.1 := by decide +kernel
set_option maxRecDepth 100000 in
set_option maxHeartbeats 8000000 in
theorem rparse_long (s : ByteArray) (w : World) (hs : 256 < s.size) (hs2 : s.size < 1000000) :
    Calls Tryd.prog 32 #[.string s] w fun e w' => e = .returned (.tuple #[.slice none 0 0, .agg #[.int .i64 4, .int .i64 256]]) ∧ Ev w w' := by
  have hs' : (256 : Int) < (s.size : Int) := by omega
  go_enter Tryd.func32, Tryd.ntmps32
  go_wp2_with fail
  refine bodyPost_ret (v := .tuple #[.slice none 0 0, .agg #[.int .i64 4, .int .i64 256]]) (by simp [results, Tryd.results32, go_sem]) rfl ⟨rfl, ?_⟩
  exact Ev.alloc (Ev.refl w) (.cells #[.int .i64 4, .int .i64 256] 47)
theorem nd_bf {W : World} {b : Nat} (h : BxF W b) (m : Nat) : BxF (W.drewN m) b := by
  unfold BxF at *
  rw [← h]
  induction m with | zero => rfl | succ m ih => exact ih
set_option maxRecDepth 100000 in
set_option maxHeartbeats 8000000 in
theorem rparse_any (s : ByteArray) (w : World) (hs : s.size ≤ 256) :
    Calls Tryd.prog 32 #[.string s] w fun e w' => (∃ v, (goodTo s s.size ∧ e = .returned (.tuple #[v, .agg #[.int .i64 0, .int .i64 0]]) ∧ OwnI w' w.heap.size v (rolesOf s s.size)) ∨ (∃ i : Nat, i < s.size ∧ goodTo s i ∧ roleV (at' s i) < 0 ∧ e = .returned (.tuple #[v, .agg #[.int .i64 3, .int .i64 i]]) ∧ v = .slice none 0 0)) ∧ Ev w w' := by
  obtain ⟨i0, hi0, hz0, hz1, hz2⟩ := info_parts info3
  have hs' : (s.size : Int) ≤ 256 := by omega
  go_enter Tryd.func32, Tryd.ntmps32
  go_upto_region 5 with fail
  have HBF : Hid (BxF (w.alloc (.cells #[.int .i64 0, .int .i64 0] 47)) w.heap.size) := Lib.hid (heap_alloc_new w _)
  have HEV : Hid (Ev w (w.alloc (.cells #[.int .i64 0, .int .i64 0] 47))) := Lib.hid ((Ev.refl w).alloc _)
  have HSZ : Hid (w.heap.size + 1 ≤ (w.alloc (.cells #[.int .i64 0, .int .i64 0] 47)).heap.size) := Lib.hid (by simp)
  generalize (w.alloc (.cells #[.int .i64 0, .int .i64 0] 47)) = W0 at *
  go_loopg [4, 5] s.size (fun gh v iv wr => ∃ i : Nat, gh + i = s.size ∧ iv = .int .i64 i ∧ goodTo s i ∧ OwnI wr (w.heap.size + 1) v (rolesOf s i) ∧ BxF wr w.heap.size ∧ Ev w wr ∧ w.heap.size + 1 ≤ wr.heap.size)
  case atStart => exact ⟨0, rfl, rfl, fun j hj => by omega, nil_own _ _, HBF.out, HEV.out, HSZ.out⟩
  case round =>
    obtain ⟨i, hg, rfl, hgood, hown, hbf, hev, hsz⟩ := hrel
    have HG := Lib.hid hg
    have HGD := Lib.hid hgood
    have HO := Lib.hid hown
    have HB := Lib.hid hbf
    have HV := Lib.hid hev
    have HZ := Lib.hid hsz
    clear hgood hown hbf hev hsz HBF HEV HSZ
    by_cases hlt : i < s.size
    · have hlt' : (i : Int) < (s.size : Int) := by omega
      have hi0' : (0 : Int) ≤ (i : Int) := by omega
      have hi256 : i ≤ 256 := by omega
      have HL := Lib.hid hlt
      obtain ⟨g1, hg1⟩ : ∃ g1, g1 + 1 = gk := ⟨gk - 1, by omega⟩
      have HG1 := Lib.hid hg1
      clear hg1 hg
      have hb256 : at' s i < 256 := (s.data.toList.getD i 0).toNat_lt
      have HFR := Lib.hid (frF ⟨at' s i, hb256⟩)
      have hat : (s[i]'hlt).toNat = at' s i := (at_eq s i hlt).symm
      have hx := hat
      go_upto_region 9 with fail
      go_loopg [6, 7] 8 (fun gh rv kv W => ∃ k : Nat, gh + k = 8 ∧ kv = .int .i64 k ∧ rv = .int .i64 (fr (at' s i) k) ∧ ∃ m, W = wr.drewN m)
      case atStart => exact ⟨0, rfl, rfl, rfl, 0, rfl⟩
      case round =>
        obtain ⟨k, hg, rfl, rfl, m, rfl⟩ := hrel
        have HGK := Lib.hid hg
        by_cases hlk : k < 8
        · have hlk' : (k : Int) < 8 := by omega
          have hk0 : (0 : Int) ≤ (k : Int) := by omega
          have hy : ((⟨#[46, 80, 83, 84, 77, 87, 82, 79]⟩ : ByteArray)[k]'hlk).toNat = lt8 k := exAt ⟨k, hlk⟩
          have HST : Hid (fr (at' s i) (k + 1) = if lt8 k = at' s i then (k : Int) else fr (at' s i) k) := Lib.hid rfl
          have HLK := Lib.hid hlk
          clear hg
          by_cases he : lt8 k = at' s i
          · have HSV : Hid (fr (at' s i) (k + 1) = (k : Int)) := Lib.hid (by rw [HST.out, if_pos he])
            rw [he] at hy
            generalize at' s i = b at *
            generalize fr b k = r0 at *
            clear he HST
            go_wp2_with fail
            go_quiet (fail)
            go_wp2_with fail
            go_roundg (gk - 1)
            case rel => exact ⟨k + 1, by have := HGK.out; have := HLK.out; omega, by go_num, by rw [HSV.out], _, rfl⟩
            case measure => have := HGK.out; have := HLK.out; omega
          · have HSV : Hid (fr (at' s i) (k + 1) = fr (at' s i) k) := Lib.hid (by rw [HST.out, if_neg he])
            generalize at' s i = b at *
            generalize lt8 k = x at *
            have hne : ¬ (x : Int) = (b : Int) := by omega
            clear he HST
            go_wp2_with fail
            go_quiet (fail)
            go_wp2_with fail
            go_roundg (gk - 1)
            case rel => exact ⟨k + 1, by have := HGK.out; have := HLK.out; omega, by go_num, by rw [HSV.out], _, rfl⟩
            case measure => have := HGK.out; have := HLK.out; omega
        · obtain rfl : k = 8 := by omega
          have HFR2 := HFR.out
          rw [HFR2]
          have HR2 : Hid (BxF (wr.drewN m) w.heap.size) := Lib.hid (nd_bf HB.out m)
          have HV2 : Hid (Ev w (wr.drewN m)) := Lib.hid (HV.out.drewN _)
          have HS2 : Hid (w.heap.size + 1 ≤ (wr.drewN m).heap.size) := Lib.hid (Nat.le_trans HZ.out (Ev.sz ((Ev.refl wr).drewN _)))
          clear hg hlk hx hat HFR2 HFR
          by_cases hr : roleV (at' s i) < 0
          · have HR := Lib.hid hr
            obtain ⟨c0, c1, f0, f1⟩ := HR2.out.c
            obtain ⟨rv, hrv⟩ : ∃ rv, rv = roleV (at' s i) := ⟨_, rfl⟩
            rw [← hrv] at hr ⊢
            clear hrv
            go_wp2_with fail
            refine bodyPost_ret (v := .tuple #[.slice none 0 0, .agg #[.int .i64 3, .int .i64 i]]) (by simp [results, Tryd.results32, go_sem, c0, c1]) rfl ⟨⟨_, .inr ⟨i, HL.out, HGD.out, HR.out, rfl, rfl⟩⟩, ?_⟩
            exact (HV2.out.setC (by simp) _).setC (by simp) _
          · have hr0 : 0 ≤ roleV (at' s i) := by omega
            have HGD2 : Hid (goodTo s (i + 1)) := Lib.hid fun j hj => by
              rcases Nat.lt_or_ge j i with h | h
              · exact HGD.out j h
              · obtain rfl : j = i := by omega
                exact hr0
            have HAC := Lib.hid (rolesOf_IV s i)
            have HAL := Lib.hid (rolesOf_len s (i + 1))
            have HIV : Hid ((wr.drewN m).ownsRow (w.heap.size + 1) 3 1 u4 i (IV (rolesOf s i))) := Lib.hid (by have h := (((Ev.refl wr).drewN m).own HO.out); unfold OwnI at h; rwa [rolesOf_len] at h)
            obtain ⟨rv, hrv⟩ : ∃ rv, rv = roleV (at' s i) := ⟨_, rfl⟩
            rw [← hrv] at hr hr0 HAC ⊢
            clear hrv
            have H1 := Lib.hid (one_cell (wr.drewN m) (.int .i64 rv) 3)
            have H5 : Hid (w.heap.size + 1 ≤ ((wr.drewN m).alloc (.cells #[.int .i64 rv] 3)).heap.size) := Lib.hid (Nat.le_trans HS2.out (by simp))
            clear hr
            go_wp2_with (at_builtin; go_loud (refine wpList_append_own _ rfl (.tmp 33) (.tmp 35) 25 rfl (w.heap.size + 1) 3 i0 (.int .i64 0) 1 8 Tryd.underlying25 hi0 hz0 hz1 hz2 rfl (by decide) u4 i (IV (rolesOf s i)) rfl (HIV.out.alloc _) ⟨(wr.drewN m).heap.size, 0, none⟩ 1 1 [.int .i64 rv] rfl rfl H1.out (by simp [Value.oneCell']) (by unfold maxLen; omega) (by omega) H5.out ?_); intro v1 w4 hown4 hg4 _)
            have HW4 : Hid (Below (w.heap.size + 1) (wr.drewN m) w4) := Lib.hid (Below.grown ((Below.refl _ _).alloc HS2.out _) hg4 H5.out (fun g hg => row_ge HIV.out g hg))
            have HO4 : Hid (OwnI w4 (w.heap.size + 1) v1 (rolesOf s (i + 1))) := Lib.hid (by unfold OwnI; rw [HAL.out, HAC.out]; exact hown4)
            have HE4 : Hid (Ev w w4) := Lib.hid (Below.trans HV2.out (HW4.out.mono (by omega)))
            have HB4 : Hid (BxF w4 w.heap.size) := Lib.hid (HR2.out.bl HW4.out (by omega))
            clear hown4 hg4
            go_roundg g1
            case rel => exact ⟨i + 1, by have := HG.out; have := HG1.out; omega, by go_num, HGD2.out, HO4.out, HB4.out, HE4.out, by have := HW4.out.size; have := HS2.out; omega⟩
            case measure => have := HG1.out; omega
    · obtain rfl : i = s.size := by omega
      obtain ⟨c0, c1, f0, f1⟩ := HB.out.c
      clear hlt hg
      go_wp2_with fail
      refine bodyPost_ret (v := .tuple #[u4, .agg #[.int .i64 0, .int .i64 0]]) (by simp [results, Tryd.results32, go_sem, c0, c1]) rfl ⟨⟨u4, .inl ⟨HGD.out, rfl, ?_⟩⟩, ?_⟩
      · exact own_weaken (ownsRow_setCell_below (ownsRow_setCell_below HO.out (by simp) _) (by simp) _) (by omega)
      · exact (HV.out.setC (by simp) _).setC (by simp) _
end Go.Proofs.YtdkfedbjbcaajaaDoor
