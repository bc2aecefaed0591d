import Derived.Test.YtkneonfhikcdkaaDoorJS
namespace Go.Proofs.YtkneonfhikcdkaaDoor
open Go.RowKit
theorem Frames_bad (A : Option Addr) (cap : Nat) (l : List (Int × Int)) (w : World) (hr : RdP w A l) (hne : (chkL 0 0 l).1 ≠ 0) :
    Calls Tryd.prog 31 #[.slice A l.length cap] w fun e w' => e = .returned (.tuple #[.slice none 0 0, .int .i64 (chkL 0 0 l).1]) ∧ Ev w w' := by
  have H := Lib.hid (checkList_any A cap l w hr)
  have hq : ((chkL 0 0 l).1 != 0) = true := by simpa using hne
  generalize (chkL 0 0 l).1 = er at *
  generalize (chkL 0 0 l).2 = at2 at *
  clear hr hne
  go_enter Tryd.func31, Tryd.ntmps31
  go_wp2_with fail
  refine H.out.mono ?_
  rintro e w1 ⟨rfl, hev⟩
  have HE := Lib.hid hev
  clear hev
  go_wp2_with fail
  go_ret2
  exact ⟨rfl, HE.out⟩
theorem rFrames_bad (A : Option Addr) (cap : Nat) (l : List (Int × Int)) (w : World) (hr : RdP w A l) (hne : (chkL 0 0 l).1 ≠ 0) :
    Calls Tryd.prog 32 #[.slice A l.length cap] w fun e w' => e = .returned (.tuple #[.slice none 0 0, .int .i64 (chkL 0 0 l).1]) ∧ Ev w w' := by
  have H := Lib.hid (rcheckList_any A cap l w hr)
  have hq : ((chkL 0 0 l).1 != 0) = true := by simpa using hne
  generalize (chkL 0 0 l).1 = er at *
  generalize (chkL 0 0 l).2 = at2 at *
  clear hr hne
  go_enter Tryd.func32, Tryd.ntmps32
  go_wp2_with fail
  refine H.out.mono ?_
  rintro e w1 ⟨rfl, hev⟩
  have HE := Lib.hid hev
  clear hev
  go_wp2_with fail
  go_ret2
  exact ⟨rfl, HE.out⟩
theorem one_cellO (w : World) (x : Value) (T : TypeId) : ∀ j u, [x][j]? = some u → (w.alloc (.cells #[x] T)).cell? ((⟨w.heap.size, 0, none⟩ : Addr).add j) = some u := cell_one_new _ _ _
set_option maxRecDepth 100000 in
set_option maxHeartbeats 8000000 in
theorem rFrames_ok (A : Option Addr) (cap : Nat) (l : List (Int × Int)) (w : World) (hr : RdP w A l) (hc : chkL 0 0 l = (0, 0)) (hok : ∀ j, j < l.length → blkE (l.getD j (0, 0)).1 (l.getD j (0, 0)).2 = 0) (hN : (frL l).length ≤ 256) (hl : l.length ≤ 1000) :
    Calls Tryd.prog 32 #[.slice A l.length cap] w fun e w' => ∃ v, e = .returned (.tuple #[v, .int .i64 0]) ∧ OwnF w' w.heap.size v (frL l) ∧ Ev w w' := by
  have H := Lib.hid (rcheckList_any A cap l w hr)
  rw [hc] at H
  simp only [] at H
  obtain ⟨i0, hi0, hz0, hz1, hz2⟩ := info_parts info3
  have HR := Lib.hid hr
  have HOKL := Lib.hid hok
  have HNN := Lib.hid hN
  have hn1000 : (l.length : Int) ≤ 1000 := by omega
  clear hr hc hok hN hl
  go_enter Tryd.func32, Tryd.ntmps32
  go_wp2_with fail
  refine H.out.mono ?_
  rintro e w1 ⟨rfl, hev⟩
  have HE1 := Lib.hid hev
  clear hev H
  go_wp2_with fail
  go_loopg [6, 7] l.length (fun gh v i wr => ∃ j : Nat, gh + j = l.length ∧ i = .int .i64 j ∧ OwnF wr w.heap.size v (frL (l.take j)) ∧ Ev w wr)
  case atStart => exact ⟨0, rfl, rfl, World.ownsRow_nil _ _ _ _, HE1.out⟩
  case round =>
    obtain ⟨j, hg, rfl, hown, hev⟩ := hrel
    have HG := Lib.hid hg
    have HEV := Lib.hid hev
    have HOWN := Lib.hid hown
    clear hg hown hev
    by_cases hlt : j < l.length
    · obtain ⟨g1, hg1⟩ : ∃ g1, g1 + 1 = gk := ⟨gk - 1, by have := HG.out; omega⟩
      have HG1 := Lib.hid hg1
      have HT := Lib.hid (frL_take l j hlt)
      have HLE := Lib.hid (frL_len l j hlt)
      have hb := HOKL.out j hlt
      have hlt' : (j : Int) < (l.length : Int) := by omega
      have hj0 : 0 ≤ (j : Int) := by omega
      have HLT := Lib.hid hlt
      obtain ⟨x, o, hxo⟩ : ∃ x o, l.getD j (0, 0) = (x, o) := ⟨_, _, rfl⟩
      rw [hxo] at HT HLE hb
      have HXO := Lib.hid hxo
      simp only [] at hb
      obtain ⟨p1, p2, p3, p4, p5⟩ := blkE_ok hb
      have HSZ := Lib.hid fun W => rsize_any o W p1 p2
      obtain ⟨s1, s2⟩ := sz_bd o
      obtain ⟨sN, hsN⟩ : ∃ sN : Nat, (sN : Int) = sz o := ⟨(sz o).toNat, by omega⟩
      have hFB : frB (x, o) = upto (frN x) sN := by unfold frB; simp only []; rw [← hsN]; simp
      rw [hFB] at HT HLE
      rw [← hsN] at HSZ s1 s2 p5
      have HSZ' := HSZ
      have hx256 : x + sN ≤ 256 := p5
      have HP := Lib.hid p5
      have HX0 := Lib.hid p3
      have HF0 := Lib.hid (show (frL (l.take j)).length + sN ≤ 256 by have h1 := HLE.out; have h2 := HNN.out; rw [upto_length] at h1; omega)
      clear hlt hb hxo p4 p5 hsN hFB hg1
      generalize frL (l.take j) = F at *
      go_wp2_with fail
      go_loopg [6, 8] sN (fun gh v k wi => ∃ m : Nat, gh + m = sN ∧ k = .int .i64 m ∧ OwnF wi w.heap.size v (F ++ upto (frN x) m) ∧ Ev w wi)
      case atStart => exact ⟨0, rfl, rfl, by simpa [upto] using HOWN.out, HEV.out⟩
      case round =>
        obtain ⟨m, hgm, rfl, hown, hev⟩ := hrel
        have HGM := Lib.hid hgm
        have HEM := Lib.hid hev
        have HOM := Lib.hid hown
        obtain ⟨b, ob, rfl, hbb, c1, c2⟩ := (HR.out.ev hev).2 j HLT.out
        rw [HXO.out] at c1 c2
        simp only [] at c1 c2
        have hm0 : 0 ≤ (m : Int) := by omega
        clear hgm hown hev hbb
        by_cases hlm : m < sN
        · have hlm' : (m : Int) < (sN : Int) := by omega
          have hxm := frN_val (x := x) (k := m) HX0.out (by have := HP.out; omega)
          have HU : Hid (upto (frN x) (m + 1) = upto (frN x) m ++ [frN x m]) := Lib.hid (upto_succ _ _)
          have hxx : x + (m : Int) ≤ 256 := by omega
          have hln : (F ++ upto (frN x) m).length ≤ 256 := by rw [List.length_append, upto_length]; have := HF0.out; omega
          have H3 : Hid ((F ++ upto (frN x) m).length + 1 ≤ maxLen) := Lib.hid (by unfold maxLen; omega)
          have H4 : Hid (((F ++ upto (frN x) m).length + 1) * 8 ≤ 140737488355328) := Lib.hid (by omega)
          have H5 : Hid (∀ ob, w.heap.size ≤ (wr.alloc ob).heap.size) := Lib.hid (fun ob => Nat.le_trans HEM.out.sz (Ev.sz (al1 _ _)))
          have HXM := Lib.hid hxm
          clear hln hxm
          go_wp2_with fail
          refine (HSZ.out _).mono ?_
          rintro e w' ⟨rfl, rfl⟩
          go_wp2_with (at_builtin; go_loud (refine wpList_append_own _ rfl _ _ 40 rfl w.heap.size 3 i0 (.int .i64 0) 1 8 Tryd.underlying40 hi0 hz0 hz1 hz2 rfl Nat.one_pos _ (F ++ upto (frN x) m).length (fcells (F ++ upto (frN x) m)) rfl (World.ownsRow.alloc HOM.out _) ⟨wr.heap.size, 0, none⟩ 1 1 [.int .i64 (x + (m : Int))] rfl rfl (one_cellO _ _ _) (by simp [Value.oneCell']) H3.out H4.out (H5.out _) ?_); intro v1 w4 hown4 hg4 _; have hrow := World.ownsRow.alloc HOM.out (.cells #[.int .i64 (x + (m : Int))] 3); have HW4 : Hid (Ev w w4) := Lib.hid (Below.grown (HEM.out.alloc (.cells #[.int .i64 (x + (m : Int))] 3)) hg4 (H5.out _) (fun g hg => (hrow.lt g hg).1)); have HO4 := Lib.hid hown4; clear hrow hg4 hown4)
          go_roundg (gk - 1)
          case rel => exact ⟨m + 1, by have := HGM.out; omega, by go_num, by rw [HU.out, ← List.append_assoc]; unfold OwnF; rw [show fcells (F ++ upto (frN x) m ++ [frN x m]) = fcells (F ++ upto (frN x) m) ++ [.int .i64 (x + (m : Int))] from by unfold fcells; rw [List.map_append]; simp only [List.map_cons, List.map_nil, HXM.out], show (F ++ upto (frN x) m ++ [frN x m]).length = (F ++ upto (frN x) m).length + 1 from by rw [List.length_append]; rfl]; exact HO4.out, HW4.out⟩
          case measure => have := HGM.out; omega
        · obtain rfl : m = sN := by have := HGM.out; omega
          clear hlm
          go_wp2_with fail
          refine (HSZ.out _).mono ?_
          rintro e w' ⟨rfl, rfl⟩
          go_wp2_with fail
          go_roundg g1
          case rel => exact ⟨j + 1, by have := HG.out; have := HG1.out; omega, by go_num, by rw [HT.out]; exact HOM.out, HEM.out⟩
          case measure => have := HG1.out; omega
    · obtain rfl : j = l.length := by have := HG.out; omega
      rw [List.take_length] at HOWN
      clear hlt
      go_wp2_with fail
      go_ret2
      exact ⟨_, rfl, HOWN.out, HEV.out⟩
end Go.Proofs.YtkneonfhikcdkaaDoor
