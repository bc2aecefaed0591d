import Derived.Test.YtfiglmbnjfgdlaaDoorEC
namespace Go.Proofs.YtfiglmbnjfgdlaaDoor
open Go.RowKit Go.Shelf
theorem KpC.tab {X : Nat → Prop} {A B : World} (h : KpC X A B) (hT : Tab A) (hx : ¬ X 0) : Tab B := ⟨Nat.le_trans hT.1 h.1, fun j hj => h.cell (hT.2 j hj) hx⟩
theorem KpC.rdc {X : Nat → Prop} {A B : World} {L : Option Addr} {cs : List (Int × Int)} (h : KpC X A B) (hr : RdC A L cs) (hx : 0 < cs.length → ∀ a : Addr, L = some a → ¬ X a.block) : RdC B L cs := fun j hj => by
  obtain ⟨b, o, h1, h2, h3, h4⟩ := hr j hj
  have hb := hx (by omega) _ h1
  exact ⟨b, o, h1, Nat.lt_of_lt_of_le h2 h.1, h.cell h3 hb, h.cell h4 hb⟩
theorem RdC.set {A : World} {L : Option Addr} {cs : List (Int × Int)} (hr : RdC A L cs) (U k : Nat) (v : Value) (hx : 0 < cs.length → ∀ a : Addr, L = some a → a.block ≠ U) : RdC (A.setCell ⟨U, k, none⟩ v) L cs := fun j hj => by
  obtain ⟨b, o, h1, h2, h3, h4⟩ := hr j hj
  have hb : b ≠ U := hx (by omega) _ h1
  exact ⟨b, o, h1, by simpa using h2, by rw [World.cell?_of_block (a := ⟨b, o + j * 2, none⟩) (Below.heap_setCell A ⟨U, k, none⟩ v b hb)]; exact h3, by rw [World.cell?_of_block (a := ⟨b, o + j * 2 + 1, none⟩) (Below.heap_setCell A ⟨U, k, none⟩ v b hb)]; exact h4⟩
theorem Tab.set {A : World} (hT : Tab A) (U k : Nat) (v : Value) (hx : U ≠ 0) : Tab (A.setCell ⟨U, k, none⟩ v) := ⟨by simpa using hT.1, fun j hj => by
  rw [World.cell?_of_block (a := ⟨0, j, none⟩) (Below.heap_setCell A ⟨U, k, none⟩ v 0 (fun e => hx e.symm))]
  exact hT.2 j hj⟩
set_option maxRecDepth 100000 in
set_option maxHeartbeats 8000000 in
theorem it_run (n : Nat) (hn : 1 ≤ n) (X : Nat → Prop) (s f w : Int) (U V : Nat) (B : Option Addr) (d : Nat) (cs : List (Int × Int)) (w0 : World) (hT : Tab w0) (hU : BoxR w0 U s f w) (hV : Boxed w0 V 38 (.slice B cs.length d)) (hcs : RdC w0 B cs) (hlen : cs.length ≤ 1000)
    (x0 : ¬ X 0) (xU : ¬ X U) (xB : 0 < cs.length → ∀ a : Addr, B = some a → ¬ X a.block) (xB2 : 0 < cs.length → ∀ a : Addr, B = some a → a.block ≠ U) (hU0 : U ≠ 0) (hX : ∀ k, X k → k < w0.heap.size) :
    BoxStops Fence.wide n Tryd.prog 54 #[.pointer (some ⟨V, 0, none⟩), .pointer (some ⟨U, 0, none⟩)] enE (KpC X) U (fun xs => xs = seqE s f w cs) (fun pre => ∃ k, k < cs.length ∧ pre = (seqE s f w cs).take (k + 1)) cs.length w0 := fun lp J Jx W hW hJU hJg hJxg hY h0 => by
  have hb0 : Boxed W V 38 (.slice B cs.length d) := (Below.block hW V hV.lt).trans hV
  have hU1 : BoxR W U s f w := hU.ev hW
  have hT1 := hT.ev hW
  have hC1 := hcs.ev hW
  have hW1 := Below.size hW
  have HJU := Lib.hid hJU
  have HJG := Lib.hid hJg
  have HY := Lib.hid hY
  have HX0 := Lib.hid x0
  have HXU := Lib.hid xU
  have HXB := Lib.hid xB
  have HXB2 := Lib.hid xB2
  have HU0 := Lib.hid hU0
  have HX := Lib.hid hX
  have hlen' : (cs.length : Int) ≤ 1000 := by omega
  clear hJU hJg hJxg hY hV hU hT hcs hW x0 xU xB xB2 hU0 hX
  have hc := hb0.cell
  refine callsIn_of_wp Tryd.func54 rfl trivial ?_ rfl
  simp only [Tryd.ntmps54, List.size_toArray, List.length_cons, List.length_nil, Nat.reduceAdd, Nat.reduceSub, Array.replicate_succ, Array.replicate_zero, List.push_toArray, List.append_toArray, List.nil_append, List.cons_append]
  gi_wp2_with fail
  clear hc
  gi_loopw [12] (fun iv wr => ∃ (i : Nat) (s1 f1 w1 : Int) (pre : List El), i ≤ cs.length ∧ iv = .int .i64 i ∧ BoxR wr U s1 f1 w1 ∧ Tab wr ∧ RdC wr B cs ∧ seqE s f w cs = pre ++ seqE s1 f1 w1 (cs.drop i) ∧ pre.length = i ∧ w0.heap.size ≤ wr.heap.size ∧ J pre wr) (fun iv _ => cs.length - (intOf iv).toNat)
  case atStart => exact ⟨0, s, f, w, [], Nat.zero_le _, rfl, hU1, hT1, hC1, rfl, rfl, hW1, h0⟩
  case round =>
    obtain ⟨i, s1, f1, w1, pre, hi, rfl, hbx, htb, hrc, hsq, hpl, hsz, hJ⟩ := hrel
    have HB := Lib.hid hbx
    have HTB := Lib.hid htb
    have HRC := Lib.hid hrc
    have HSQ := Lib.hid hsq
    have HPL := Lib.hid hpl
    have HSZ := Lib.hid hsz
    have HJ := Lib.hid hJ
    have HI := Lib.hid hi
    have hi0 : (0 : Int) ≤ (i : Int) := by omega
    by_cases h1 : i < cs.length
    · have h1' : (i : Int) < (cs.length : Int) := by omega
      obtain ⟨b, o, rfl, hb, k1, k2⟩ := hrc i h1
      have hdrop : cs.drop i = cs.getD i (0, 0) :: cs.drop (i + 1) := by
        rw [List.drop_eq_getElem_cons h1, List.getD_eq_getElem?_getD, List.getElem?_eq_getElem h1]; rfl
      obtain ⟨fr, e, hfr⟩ : ∃ fr e, cs.getD i (0, 0) = (fr, e) := ⟨_, _, rfl⟩
      rw [hfr] at k1 k2 hdrop
      simp only [] at k1 k2
      have HST : Hid (seqE s f w cs = (pre ++ [((stR s1 f1 w1 e fr).s, (stR s1 f1 w1 e fr).f, (stR s1 f1 w1 e fr).w, stE s1 f1 w1 e fr)]) ++ seqE (stR s1 f1 w1 e fr).s (stR s1 f1 w1 e fr).f (stR s1 f1 w1 e fr).w (cs.drop (i + 1))) := Lib.hid (by rw [hsq, hdrop]; simp [seqE])
      have C12 := Lib.hid fun W' (h : Ev wr W') => step_any s1 f1 w1 e fr W' (htb.ev h)
      unfold StepQ at C12
      have H1 := Lib.hid h1
      have hlp : pre.length < cs.length := by omega
      have HLP := Lib.hid hlp
      generalize stE s1 f1 w1 e fr = er at *
      generalize stR s1 f1 w1 e fr = R at *
      obtain ⟨s2, f2, w2, l2, m2⟩ := R
      simp only [] at HST C12
      have hev1 : Ev wr (wr.alloc (.cells #[.int .i64 fr, .int .i64 e] 42)) := al1 _ _
      obtain ⟨b0, b1, b2⟩ := (hbx.ev hev1).c
      have HEV1 := Lib.hid hev1
      clear hdrop hfr h1 hbx htb hrc hsq hpl hsz hJ hb hlp hi hev1
      gi_wp2_with fail
      refine ⟨trivial, (callsIn_wide.2 (C12.out _ HEV1.out)).mono ?_⟩
      rintro x w5 ⟨A5, c5, rfl, _, hst⟩
      have hev : Ev wr (w5.alloc (rdO s2 f2 w2)) := (HEV1.out.step hst).alloc _
      have HBY := Lib.hid (HB.out.ev hev)
      have HTY := Lib.hid (HTB.out.ev hev)
      have HRY := Lib.hid (HRC.out.ev hev)
      have HNY := Lib.hid (BoxR.new w5 s2 f2 w2)
      have HSY : Hid (w0.heap.size ≤ w5.heap.size) := Lib.hid (Nat.le_trans HSZ.out (HEV1.out.step hst).sz)
      have HLU : Hid (U < w5.heap.size) := Lib.hid (World.rowIs.lt (HB.out.ev (HEV1.out.step hst)))
      obtain ⟨fn, tmps, assign, body, hy, hR⟩ := HY.out pre (s2, f2, w2, er) (w5.alloc (rdO s2 f2 w2)) (HJG.out _ _ _ HJ.out (gb_ev hev)) HLP.out
      simp only [enE] at hy
      have HR := Lib.hid hR
      clear hR hev hst b0 b1 b2 k1 k2
      obtain ⟨d0, d1, d2⟩ := HNY.out.c
      gi_wp2_with fail
      refine HR.out.mono ?_
      rintro x W3 (⟨rfl, hJ3, hk3⟩ | ⟨rfl, hJ3⟩)
      · have hb3 : BoxR W3 U s1 f1 w1 := hk3.row HBY.out HXU.out
        have hn3 : BoxR W3 w5.heap.size s2 f2 w2 := hk3.row HNY.out (fun h => by have := HX.out _ h; have := HSY.out; omega)
        have ht3 := hk3.tab HTY.out HX0.out
        have hr3 := hk3.rdc HRY.out HXB.out
        have HJ4 := Lib.hid (HJU.out _ _ 2 (.int .i64 w2) (HJU.out _ _ 1 (.int .i64 f2) (HJU.out _ _ 0 (.int .i64 s2) hJ3)))
        have HB4 := Lib.hid (set3_box hb3 s2 f2 w2)
        have HT4 := Lib.hid (((ht3.set U 0 (.int .i64 s2) HU0.out).set U 1 (.int .i64 f2) HU0.out).set U 2 (.int .i64 w2) HU0.out)
        have HR4 := Lib.hid (((hr3.set U 0 (.int .i64 s2) HXB2.out).set U 1 (.int .i64 f2) HXB2.out).set U 2 (.int .i64 w2) HXB2.out)
        have HS4 : Hid (w0.heap.size ≤ W3.heap.size) := Lib.hid (by have h1 := hk3.1; have h2 := HSY.out; simp at h1; omega)
        have hne : ¬ U = w5.heap.size := by have := HLU.out; omega
        clear d0 d1 d2
        obtain ⟨d0, d1, d2⟩ := hn3.c
        obtain ⟨b0, b1, b2⟩ := hb3.c
        obtain ⟨z0, z1, z2⟩ := hb3.z
        clear hk3 hJ3 hb3 hn3 ht3 hr3
        gi_wp2_with fail
        refine ⟨⟨i + 1, s2, f2, w2, pre ++ [(s2, f2, w2, er)], H1.out, by go_num, HB4.out, HT4.out, HR4.out, HST.out, by simp [HPL.out], by simpa using HS4.out, HJ4.out⟩, ?_⟩
        have := H1.out
        simp [intOf]
        omega
      · have HJ4 := Lib.hid hJ3
        have HSP : Hid (∃ k, k < cs.length ∧ pre ++ [(s2, f2, w2, er)] = (seqE s f w cs).take (k + 1)) := Lib.hid ⟨i, H1.out, by rw [HST.out, List.take_left' (by simp [HPL.out])]⟩
        clear hJ3 d0 d1 d2
        gi_wp2_with fail
        exact bodyPost_ret (results_none rfl _ _ _) rfl ⟨⟨_, rfl⟩, .inr ⟨_, HSP.out, HJ4.out⟩⟩
    · obtain rfl : i = cs.length := by omega
      have HFN : Hid (pre = seqE s f w cs) := Lib.hid (by rw [hsq, List.drop_length]; simp [seqE])
      clear h1 hbx htb hrc hsq hpl hsz hJ hi
      gi_wp2_with fail
      first
        | exact ⟨⟨_, rfl⟩, .inl ⟨_, HFN.out, HJ.out⟩⟩
        | (go_end0; exact ⟨⟨_, rfl⟩, .inl ⟨_, HFN.out, HJ.out⟩⟩)
end Go.Proofs.YtfiglmbnjfgdlaaDoor
