import Derived.Test.YtdkfedbjbcaajaaDoorRU
import Derived.Test.YtdkfedbjbcaajaaDoorRQ
namespace Go.Proofs.YtdkfedbjbcaajaaDoor
open Go.RowKit
theorem cell_newg (X : World) (c : Array Value) (T : TypeId) (j : Nat) : (X.alloc (.cells c T)).cell? ⟨X.heap.size, j, none⟩ = c[j]? := by
  have h := heap_alloc_new X (.cells c T)
  unfold World.cell?
  simp only []
  rw [h]
  rfl
theorem RdI.lit (X : World) (c : Array Value) (T : TypeId) (l : List Int) (h : c = (l.map (Value.int .i64)).toArray) (hl : l.length ≤ 9223372036854775807) : RdI (X.alloc (.cells c T)) (some ⟨X.heap.size, 0, none⟩) l :=
  ⟨hl, fun j hj => ⟨_, 0, rfl, by simp, by rw [Nat.zero_add, cell_newg, h]; simp [hj]⟩⟩
theorem RdI.lit1 (X : World) (c : Array Value) (T : TypeId) (l : List Int) (o : Obj) (h : c = (l.map (Value.int .i64)).toArray) (hl : l.length ≤ 9223372036854775807) : RdI ((X.alloc (.cells c T)).alloc o) (some ⟨X.heap.size, 0, none⟩) l := (RdI.lit X c T l h hl).ev ((Ev.refl _).alloc o)
theorem rdc_lit2 (W : World) (a b c d : Int) : RdC (W.alloc (.cells #[.int .i64 a, .int .i64 b, .int .i64 c, .int .i64 d] 39)) (some ⟨W.heap.size, 0, none⟩) [(a, b), (c, d)] := fun j hj => by
  rcases (show j = 0 ∨ j = 1 by simp at hj; omega) with rfl | rfl
  · exact ⟨_, _, rfl, by simp, by simp, by simp⟩
  · exact ⟨_, _, rfl, by simp, by simp, by simp⟩
theorem rdc_lit4 (W : World) (a b c d a' b' c' d' : Int) : RdC (W.alloc (.cells #[.int .i64 a, .int .i64 b, .int .i64 c, .int .i64 d, .int .i64 a', .int .i64 b', .int .i64 c', .int .i64 d'] 39)) (some ⟨W.heap.size, 0, none⟩) [(a, b), (c, d), (a', b'), (c', d')] := fun j hj => by
  rcases (show j = 0 ∨ j = 1 ∨ j = 2 ∨ j = 3 by simp at hj; omega) with rfl | rfl | rfl | rfl
  all_goals exact ⟨_, _, rfl, by simp, by simp, by simp⟩
theorem rdc1_2 (W : World) (o : Obj) (a b c d : Int) : RdC ((W.alloc o).alloc (.cells #[.int .i64 a, .int .i64 b, .int .i64 c, .int .i64 d] 39)) (some ⟨W.heap.size + 1, 0, none⟩) [(a, b), (c, d)] := by
  have h := rdc_lit2 (W.alloc o) a b c d
  rwa [World.size_alloc] at h
theorem rdc1_4 (W : World) (o : Obj) (a b c d a' b' c' d' : Int) : RdC ((W.alloc o).alloc (.cells #[.int .i64 a, .int .i64 b, .int .i64 c, .int .i64 d, .int .i64 a', .int .i64 b', .int .i64 c', .int .i64 d'] 39)) (some ⟨W.heap.size + 1, 0, none⟩) [(a, b), (c, d), (a', b'), (c', d')] := by
  have h := rdc_lit4 (W.alloc o) a b c d a' b' c' d'
  rwa [World.size_alloc] at h
theorem chK {l L : List Int} {f r er n : Int} {A : Addr} {c : Nat} {W : World} (hr : RdI W (some A) l) (hT : Tab W) (hrun : runS l [(f, r)] 0 = (L, er, n)) (hl : l.length ≤ 256) (hg : goodL l l.length) (hL : L.length ≤ 256) :
    Calls Tryd.prog 23 #[.slice (some A) l.length c, .int .i64 f, .int .i64 r] W fun e w' => ∃ B d, e = .returned (.tuple #[.slice B L.length d, .int .i64 er]) ∧ RdI w' B L ∧ Ev W w' :=
  (change_ok (some A) c l f r W hr hl (fun h => by cases h) hg hT).mono fun e w' ⟨v, h1, h2, h3⟩ => by
    rw [hrun] at h1 h2
    obtain ⟨A', c', rfl, h4⟩ := RdI.of_own h2 (Nat.le_trans hL (by decide))
    exact ⟨A', c', h1, h4, h3⟩
theorem ruK {l L : List Int} {cs : List (Int × Int)} {er n : Int} {A B : Addr} {c d : Nat} {W : World} (hr : RdI W (some A) l) (hc : RdC W (some B) cs) (hT : Tab W) (hrun : runS l cs 0 = (L, er, n)) (hl : l.length ≤ 256) (hg : goodL l l.length) (hL : L.length ≤ 256) (hcs : cs.length ≤ 1000) :
    Calls Tryd.prog 21 #[.slice (some A) l.length c, .slice (some B) cs.length d] W fun e w' => ∃ B d, e = .returned (.tuple #[.slice B L.length d, .int .i64 er, .int .i64 n]) ∧ RdI w' B L ∧ Ev W w' :=
  (run_ok (some A) (some B) c d l cs W hr hl (fun h => by cases h) hg hc hcs hT).mono fun e w' ⟨v, h1, h2, h3⟩ => by
    rw [hrun] at h1 h2
    obtain ⟨A', c', rfl, h4⟩ := RdI.of_own h2 (Nat.le_trans hL (by decide))
    exact ⟨A', c', h1, h4, h3⟩
theorem maK (W : World) (hT : Tab W) : Calls Tryd.prog 12 #[.int .i64 8, .int .i64 0] W fun e w' => e = .returned (.tuple #[.bool false, .int .i64 14]) ∧ W = w' := by
  have := May_any 8 0 W hT
  rw [show okM 8 0 = false from by decide] at this
  simpa using this
theorem paK (W : World) (hT : Tab W) : Calls Tryd.prog 14 #[.int .i64 1, .int .i64 0] W fun e w' => ∃ v, e = .returned (.tuple #[v, .int .i64 14]) ∧ Ev W w' := by
  have := Path_any 1 0 W hT
  rw [show pathE 1 0 = 14 from by decide +kernel] at this
  exact this.mono fun e w' ⟨v, h1, _, h3⟩ => ⟨v, h1, h3⟩
theorem coK {l : List Int} {L : List Int} {A : Addr} {c : Nat} {W : World} (hr : RdI W (some A) l) (hc : (chkV l).1 = 0) (hL : ctN l = L) :
    Calls Tryd.prog 27 #[.slice (some A) l.length c] W fun e w' => ∃ B d, e = .returned (.tuple #[.slice B L.length d, .int .i64 0]) ∧ RdI w' B L ∧ Ev W w' :=
  (counts_any (some A) c l W hr).mono fun e w' h => by
    have e1 : ctL l = L := by unfold ctL; rw [if_pos hc, hL]
    rwa [e1, hc] at h
theorem ofK {l : List Int} {r : Int} {L : List Int} {A : Addr} {c : Nat} {W : World} (hr : RdI W (some A) l) (hE : ofE l r = 0) (hL : ofN l r l.length = L) (hL2 : L.length ≤ 256) :
    Calls Tryd.prog 25 #[.slice (some A) l.length c, .int .i64 r] W fun e w' => ∃ B d, e = .returned (.tuple #[.slice B L.length d, .int .i64 0]) ∧ RdI w' B L ∧ Ev W w' :=
  (of_any (some A) c l r W hr).mono fun e w' ⟨v, h1, h2, h3⟩ => by
    have e1 : ofL l r = L := by unfold ofL; rw [if_pos hE, hL]
    rw [e1] at h2
    rw [hE] at h1
    obtain ⟨A', c', rfl, h4⟩ := RdI.of_own h2 (Nat.le_trans hL2 (by decide))
    exact ⟨A', c', h1, h4, h3⟩
def exP : ByteArray := ⟨#[46, 112]⟩
theorem prK (W : World) : Calls Tryd.prog 31 #[.string exP] W fun e w' => ∃ v, e = .returned (.tuple #[v, fl 3 1]) ∧ Ev W w' :=
  (parse_any exP W (by decide)).mono fun e w' hh => by
    obtain ⟨⟨v, h⟩, hev⟩ := hh
    have e0 : 0 ≤ roleV (at' exP 0) := by decide +kernel
    have e1 : roleV (at' exP 1) < 0 := by decide +kernel
    rcases h with ⟨h, -, -⟩ | ⟨i, hi, -, hneg, rfl, -⟩
    · have := h 1 (by decide)
      omega
    · have hi2 : i < 2 := hi
      rcases (show i = 0 ∨ i = 1 by omega) with rfl | rfl
      · omega
      · exact ⟨v, rfl, hev⟩
set_option maxRecDepth 100000 in
set_option maxHeartbeats 16000000 in
theorem known_law (w : World) (hT : Tab w) : Calls Tryd.prog 7 #[] w fun e w' => e = .returned (.bool true) ∧ Ev w w' := by
  have HTT := Lib.hid hT
  have HF : Hid (∀ e a W, Sem.run Tryd.prog (Op.equalIn 10000 47 (fl e a) (fl e a)) W = .ok true W) := Lib.hid fun e a W => by rw [eq47]; simp
  have HP := Lib.hid prK
  unfold exP at HP
  clear hT
  go_enter Tryd.func7, Tryd.ntmps7
  go_wp2_with fail
  refine (maK _ (HTT.out.ev (Ev.refl _))).mono ?_
  rintro e wx1 ⟨rfl, rfl⟩
  go_wp2_with fail
  refine (chK (l := [0, 4]) (L := [0, 5]) (er := 0) (n := 0) (RdI.lit _ _ _ [0, 4] rfl (by decide)) (HTT.out.ev ((Ev.refl _).step ((Ev.refl _).alloc _))) (by decide +kernel) (by decide) (by unfold goodL; decide +kernel) (by decide)).mono ?_
  rintro e wk2 ⟨Ba, da, rfl, hRa, hev⟩
  have HEV2 := Lib.hid hev
  have HRa := Lib.hid hRa
  clear hev hRa
  go_wp2_with fail
  refine (chK (l := [0, 4]) (L := []) (er := 14) (n := 0) (RdI.lit _ _ _ [0, 4] rfl (by decide)) (HTT.out.ev ((((Ev.refl _).step ((Ev.refl _).alloc _)).step HEV2.out).step ((Ev.refl _).alloc _))) (by decide +kernel) (by decide) (by unfold goodL; decide +kernel) (by decide)).mono ?_
  rintro e wk3 ⟨Bb, db, rfl, hRb, hev⟩
  have HEV3 := Lib.hid hev
  have HRb := Lib.hid hRb
  clear hev hRb
  go_wp2_with fail
  refine (chK (l := [0, 4]) (L := []) (er := 2) (n := 0) (RdI.lit _ _ _ [0, 4] rfl (by decide)) (HTT.out.ev ((((((Ev.refl _).step ((Ev.refl _).alloc _)).step HEV2.out).step ((Ev.refl _).alloc _)).step HEV3.out).step ((Ev.refl _).alloc _))) (by decide +kernel) (by decide) (by unfold goodL; decide +kernel) (by decide)).mono ?_
  rintro e wk4 ⟨Bc, dc, rfl, hRc, hev⟩
  have HEV4 := Lib.hid hev
  have HRc := Lib.hid hRc
  clear hev hRc
  go_wp2_with fail
  refine (lmay_any 0 0 false _ (HTT.out.ev (((((((Ev.refl _).step ((Ev.refl _).alloc _)).step HEV2.out).step ((Ev.refl _).alloc _)).step HEV3.out).step ((Ev.refl _).alloc _)).step HEV4.out)) (by decide) (by decide +kernel)).mono ?_
  rintro e wx5 ⟨rfl, rfl⟩
  go_wp2_with fail
  refine (sameI _ _ _ _ [0, 5] _ (HRa.out.ev ((((((Ev.refl _).step ((Ev.refl _).alloc _)).step HEV3.out).step ((Ev.refl _).alloc _)).step HEV4.out).step ((Ev.refl _).alloc _))) (RdI.lit _ _ _ [0, 5] rfl (by decide))).mono ?_
  rintro e wk6 ⟨rfl, hev⟩
  have HEV6 := Lib.hid hev
  clear hev
  go_wp2_with fail
  refine (ruK (l := [0]) (L := [0]) (cs := [(0, 6), (0, 4), (0, 5), (0, 0)]) (er := 0) (n := 0) (RdI.lit1 _ _ _ [0] _ rfl (by decide)) (rdc1_4 _ _ _ _ _ _ _ _ _ _) (HTT.out.ev (((((((((((Ev.refl _).step ((Ev.refl _).alloc _)).step HEV2.out).step ((Ev.refl _).alloc _)).step HEV3.out).step ((Ev.refl _).alloc _)).step HEV4.out).step ((Ev.refl _).alloc _)).step HEV6.out).step ((Ev.refl _).alloc _)).step ((Ev.refl _).alloc _))) (by decide +kernel) (by decide) (by unfold goodL; decide +kernel) (by decide) (by decide)).mono ?_
  rintro e wk7 ⟨Bd, dd, rfl, hRd, hev⟩
  have HEV7 := Lib.hid hev
  have HRd := Lib.hid hRd
  clear hev hRd
  go_wp2_with fail
  refine (ruK (l := [0, 0]) (L := []) (cs := [(0, 3), (1, 7)]) (er := 14) (n := 1) (RdI.lit1 _ _ _ [0, 0] _ rfl (by decide)) (rdc1_2 _ _ _ _ _ _) (HTT.out.ev ((((((((((((((Ev.refl _).step ((Ev.refl _).alloc _)).step HEV2.out).step ((Ev.refl _).alloc _)).step HEV3.out).step ((Ev.refl _).alloc _)).step HEV4.out).step ((Ev.refl _).alloc _)).step HEV6.out).step ((Ev.refl _).alloc _)).step ((Ev.refl _).alloc _)).step HEV7.out).step ((Ev.refl _).alloc _)).step ((Ev.refl _).alloc _))) (by decide +kernel) (by decide) (by unfold goodL; decide +kernel) (by decide) (by decide)).mono ?_
  rintro e wk8 ⟨Be, de, rfl, hRe, hev⟩
  have HEV8 := Lib.hid hev
  have HRe := Lib.hid hRe
  clear hev hRe
  go_wp2_with fail
  refine (paK _ (HTT.out.ev (((((((((((((((Ev.refl _).step ((Ev.refl _).alloc _)).step HEV2.out).step ((Ev.refl _).alloc _)).step HEV3.out).step ((Ev.refl _).alloc _)).step HEV4.out).step ((Ev.refl _).alloc _)).step HEV6.out).step ((Ev.refl _).alloc _)).step ((Ev.refl _).alloc _)).step HEV7.out).step ((Ev.refl _).alloc _)).step ((Ev.refl _).alloc _)).step HEV8.out))).mono ?_
  rintro e wk9 ⟨vp, rfl, hev⟩
  have HEV9 := Lib.hid hev
  clear hev
  go_wp2_with fail
  refine (sameI _ _ _ _ [0] _ (HRd.out.ev ((((((Ev.refl _).step ((Ev.refl _).alloc _)).step ((Ev.refl _).alloc _)).step HEV8.out).step HEV9.out).step ((Ev.refl _).alloc _))) (RdI.lit _ _ _ [0] rfl (by decide))).mono ?_
  rintro e wk10 ⟨rfl, hev⟩
  have HEV10 := Lib.hid hev
  clear hev
  go_wp2_with fail
  refine (lpath_any 0 5 [6, 4, 5] _ _ _ (HTT.out.ev (((((((((((((((((((Ev.refl _).step ((Ev.refl _).alloc _)).step HEV2.out).step ((Ev.refl _).alloc _)).step HEV3.out).step ((Ev.refl _).alloc _)).step HEV4.out).step ((Ev.refl _).alloc _)).step HEV6.out).step ((Ev.refl _).alloc _)).step ((Ev.refl _).alloc _)).step HEV7.out).step ((Ev.refl _).alloc _)).step ((Ev.refl _).alloc _)).step HEV8.out).step HEV9.out).step ((Ev.refl _).alloc _)).step HEV10.out).step ((Ev.refl _).alloc _))) (by decide +kernel) (by decide +kernel) (by decide) (RdI.lit _ _ _ [6, 4, 5] rfl (by decide))).mono ?_
  rintro e wk11 ⟨rfl, hev⟩
  have HEV11 := Lib.hid hev
  clear hev
  go_wp2_with fail
  refine (lpath_any 0 0 [] none 0 _ (HTT.out.ev ((((((((((((((((((((Ev.refl _).step ((Ev.refl _).alloc _)).step HEV2.out).step ((Ev.refl _).alloc _)).step HEV3.out).step ((Ev.refl _).alloc _)).step HEV4.out).step ((Ev.refl _).alloc _)).step HEV6.out).step ((Ev.refl _).alloc _)).step ((Ev.refl _).alloc _)).step HEV7.out).step ((Ev.refl _).alloc _)).step ((Ev.refl _).alloc _)).step HEV8.out).step HEV9.out).step ((Ev.refl _).alloc _)).step HEV10.out).step ((Ev.refl _).alloc _)).step HEV11.out)) (by decide +kernel) (by decide +kernel) (by decide) ⟨by decide, fun j hj => by simp at hj⟩).mono ?_
  rintro e wk12 ⟨rfl, hev⟩
  have HEV12 := Lib.hid hev
  clear hev
  go_wp2_with fail
  refine (coK (l := [0, 1, 2, 3, 4]) (L := [1, 1, 1, 1, 1, 0, 0, 0]) (RdI.lit _ _ _ [0, 1, 2, 3, 4] rfl (by decide)) (by decide +kernel) (by decide +kernel)).mono ?_
  rintro e wk13 ⟨Bf, df, rfl, hRf, hev⟩
  have HEV13 := Lib.hid hev
  have HRf := Lib.hid hRf
  clear hev hRf
  go_wp2_with fail
  refine (ofK (l := [4, 0, 4]) (r := 4) (L := [0, 2]) (RdI.lit _ _ _ [4, 0, 4] rfl (by decide)) (by decide +kernel) (by decide +kernel) (by decide)).mono ?_
  rintro e wk14 ⟨Bg, dg, rfl, hRg, hev⟩
  have HEV14 := Lib.hid hev
  have HRg := Lib.hid hRg
  clear hev hRg
  go_wp2_with fail
  refine (HP.out _).mono ?_
  rintro e wk15 ⟨vq, rfl, hev⟩
  have HEV15 := Lib.hid hev
  clear hev
  obtain ⟨d0, d1⟩ := box2_new wk15 3 1 47
  have HEW : Hid (Ev wk15 (wk15.alloc (.cells #[.int .i64 3, .int .i64 1] 47))) := Lib.hid ((Ev.refl _).alloc _)
  go_upto_region 15 with fail
  generalize (wk15.alloc (.cells #[.int .i64 3, .int .i64 1] 47)) = WB at *
  have hf := HF.out
  go_wp2_with fail
  refine (sameI _ _ _ _ [1, 1, 1, 1, 1, 0, 0, 0] _ (HRf.out.ev ((((((Ev.refl _).step ((Ev.refl _).alloc _)).step HEV14.out).step HEV15.out).step HEW.out).step ((Ev.refl _).alloc _))) (RdI.lit _ _ _ [1, 1, 1, 1, 1, 0, 0, 0] rfl (by decide))).mono ?_
  rintro e wk16 ⟨rfl, hev⟩
  have HEV16 := Lib.hid hev
  clear hev
  clear hf d0 d1
  go_wp2_with fail
  refine (sameI _ _ _ _ [0, 2] _ (HRg.out.ev ((((((Ev.refl _).step HEV15.out).step HEW.out).step ((Ev.refl _).alloc _)).step HEV16.out).step ((Ev.refl _).alloc _))) (RdI.lit _ _ _ [0, 2] rfl (by decide))).mono ?_
  rintro e wk17 ⟨rfl, hev⟩
  have HEV17 := Lib.hid hev
  clear hev
  go_wp2_with fail
  refine (awake_any _ (HTT.out.ev (((((((((((((((((((((((((((((((Ev.refl _).step ((Ev.refl _).alloc _)).step HEV2.out).step ((Ev.refl _).alloc _)).step HEV3.out).step ((Ev.refl _).alloc _)).step HEV4.out).step ((Ev.refl _).alloc _)).step HEV6.out).step ((Ev.refl _).alloc _)).step ((Ev.refl _).alloc _)).step HEV7.out).step ((Ev.refl _).alloc _)).step ((Ev.refl _).alloc _)).step HEV8.out).step HEV9.out).step ((Ev.refl _).alloc _)).step HEV10.out).step ((Ev.refl _).alloc _)).step HEV11.out).step HEV12.out).step ((Ev.refl _).alloc _)).step HEV13.out).step ((Ev.refl _).alloc _)).step HEV14.out).step HEV15.out).step HEW.out).step ((Ev.refl _).alloc _)).step HEV16.out).step ((Ev.refl _).alloc _)).step HEV17.out))).mono ?_
  rintro e wk18 ⟨rfl, hev⟩
  have HEV18 := Lib.hid hev
  clear hev
  go_wp2_with fail
  go_ret
  exact ⟨rfl, ((((((((((((((((((((((((((((((((Ev.refl _).step ((Ev.refl _).alloc _)).step HEV2.out).step ((Ev.refl _).alloc _)).step HEV3.out).step ((Ev.refl _).alloc _)).step HEV4.out).step ((Ev.refl _).alloc _)).step HEV6.out).step ((Ev.refl _).alloc _)).step ((Ev.refl _).alloc _)).step HEV7.out).step ((Ev.refl _).alloc _)).step ((Ev.refl _).alloc _)).step HEV8.out).step HEV9.out).step ((Ev.refl _).alloc _)).step HEV10.out).step ((Ev.refl _).alloc _)).step HEV11.out).step HEV12.out).step ((Ev.refl _).alloc _)).step HEV13.out).step ((Ev.refl _).alloc _)).step HEV14.out).step HEV15.out).step HEW.out).step ((Ev.refl _).alloc _)).step HEV16.out).step ((Ev.refl _).alloc _)).step HEV17.out).step HEV18.out)⟩
end Go.Proofs.YtdkfedbjbcaajaaDoor
