import Derived.Test.YtfiglmbnjfgdlaaDoorDG2
namespace Go.Proofs.YtfiglmbnjfgdlaaDoor
open Go.RowKit
theorem tmod_lt (n m : Int) (h : 1 ≤ m) : -m < n.tmod m ∧ n.tmod m < m := by
  have h1 := Int.emod_nonneg n (show m ≠ 0 by omega)
  have h2 := Int.emod_lt_of_pos n (show 0 < m by omega)
  rw [Int.tmod_eq_emod]
  split <;> omega
theorem tmod_neg (n m : Int) (h : 1 ≤ m) : n.tmod m < 0 → n.tmod m + m = n % m := by
  have h1 := Int.emod_nonneg n (show m ≠ 0 by omega)
  have h2 := Int.emod_lt_of_pos n (show 0 < m by omega)
  rw [Int.tmod_eq_emod]
  split <;> omega
theorem tmod_pos (n m : Int) (h : 1 ≤ m) : 0 ≤ n.tmod m → n.tmod m = n % m := by
  have h2 := Int.emod_lt_of_pos n (show 0 < m by omega)
  rw [Int.tmod_eq_emod]
  split <;> omega
theorem mod_any (n m : Int) (w : World) (h1 : 1 ≤ m) (h2 : m ≤ 1099511627776) : Calls Tryd.prog 51 #[.int .i64 n, .int .i64 m] w fun e w' => e = .returned (.int .i64 (n % m)) ∧ w = w' := by
  obtain ⟨t1, t2⟩ := tmod_lt n m h1
  have t3 := Lib.hid (tmod_neg n m h1)
  have t4 := Lib.hid (tmod_pos n m h1)
  have t5 : IntKind.i64.wrap (n.tmod m) = n.tmod m := IntWalk.i64_in _ (by omega)
  have hm : (m == 0) = false := by simp; omega
  go_enter Tryd.func51, Tryd.ntmps51
  go_wp2
  · go_ret
    exact ⟨ret_i64 (t3.out (by omega)), rfl⟩
  · go_ret
    exact ⟨ret_i64 (t4.out (by omega)), rfl⟩
theorem mod_nat (n : Int) (m : Nat) (hm : 1 ≤ m) (hm2 : m ≤ 1099511627776) (W : World) : Calls Tryd.prog 51 #[.int .i64 n, .int .i64 (m : Int)] W fun e w' => ∃ k : Int, 0 ≤ k ∧ k < (m : Int) ∧ e = .returned (.int .i64 k) ∧ W = w' :=
  (mod_any n m W (by omega) (by omega)).mono fun e w' h => ⟨n % (m : Int), Int.emod_nonneg _ (by omega), Int.emod_lt_of_pos _ (by omega), h.1, h.2⟩
theorem bg_of (n : Int) (h1 : -1 ≤ n) (h2 : n < 256) : bgV n = rd 1 (-1) n ∧ bgE n = 0 := by
  have h : bgE n = 0 := by
    unfold bgE inF
    rw [if_pos (by simp; omega)]
  exact ⟨by unfold bgV; rw [if_pos h], h⟩
theorem begin_of (n : Int) (h1 : -1 ≤ n) (h2 : n < 256) (W : World) : Calls Tryd.prog 8 #[.int .i64 n] W fun x w' => x = .returned (.tuple #[rd 1 (-1) n, .int .i64 0]) ∧ Ev W w' := by
  have h := begin_any n W
  rwa [(bg_of n h1 h2).1, (bg_of n h1 h2).2] at h
set_option maxRecDepth 100000 in
set_option maxHeartbeats 4000000 in
theorem made_any (n : Int) (W : World) : Calls Tryd.prog 31 #[.int .i64 n] W fun x w' => ∃ wv : Int, -1 ≤ wv ∧ wv < 256 ∧ x = .returned (.tuple #[rd 1 (-1) wv, .bool true]) ∧ Ev W w' := by
  have HE0 : Hid (Ev W (W.alloc (rdO 0 0 0))) := Lib.hid (al1 _ _)
  have HR0 := Lib.hid (BoxR.new W 0 0 0)
  go_enter Tryd.func31, Tryd.ntmps31
  go_wp2_with fail
  refine (mod_nat n 1000 (by decide) (by decide) _).mono ?_
  rintro e w1 ⟨k, hk0, hk1, rfl, rfl⟩
  rcases hb : (k % 2 == 1) with _ | _
  · go_wp2_with fail
    refine (begin_of (-1) (by decide) (by decide) _).mono ?_
    rintro e w2 ⟨rfl, hev⟩
    obtain ⟨r0, r1, r2⟩ := ((HR0.out.ev hev).al (rdO 1 (-1) (-1))).c
    obtain ⟨z0, z1, z2⟩ := ((HR0.out.ev hev).al (rdO 1 (-1) (-1))).z
    have hlt := World.rowIs.lt (HR0.out.ev hev)
    obtain ⟨y0, y1, y2⟩ := (BoxR.new w2 1 (-1) (-1)).c
    have HE2 := Lib.hid ((HE0.out.step hev).alloc (rdO 1 (-1) (-1)))
    clear hev
    go_upto_region 6 with fail
    generalize (w2.alloc (rdO 1 (-1) (-1))) = w3 at *
    generalize w2.heap.size = p at *
    have hn : ¬ p = W.heap.size := by omega
    have HF : Hid (Ev W (((w3.setCell ⟨W.heap.size, 0, none⟩ (.int .i64 1)).setCell ⟨W.heap.size, 1, none⟩ (.int .i64 (-1))).setCell ⟨W.heap.size, 2, none⟩ (.int .i64 (-1)))) := Lib.hid (((HE2.out.setC (Nat.le_refl _) _).setC (Nat.le_refl _) _).setC (Nat.le_refl _) _)
    clear hlt
    go_wp2_with fail
    exact bodyPost_ret (v := .tuple #[rd 1 (-1) (-1), .bool true]) (by simp [results, Tryd.results31, go_sem, *]) rfl ⟨-1, by decide, by decide, rfl, HF.out⟩
  · obtain ⟨wv, hwv⟩ : ∃ wv : Int, wv = k / 2 % 256 := ⟨_, rfl⟩
    have h1 : 0 ≤ wv := by omega
    have h2 : wv < 256 := by omega
    have hq : k / 2 % 256 = wv := hwv.symm
    have g0 : 0 ≤ k / 2 := by omega
    clear hwv
    go_wp2_with fail
    clear hq g0
    refine (begin_of wv (by omega) h2 _).mono ?_
    rintro e w2 ⟨rfl, hev⟩
    obtain ⟨r0, r1, r2⟩ := ((HR0.out.ev hev).al (rdO 1 (-1) wv)).c
    obtain ⟨z0, z1, z2⟩ := ((HR0.out.ev hev).al (rdO 1 (-1) wv)).z
    have hlt := World.rowIs.lt (HR0.out.ev hev)
    obtain ⟨y0, y1, y2⟩ := (BoxR.new w2 1 (-1) wv).c
    have HE2 := Lib.hid ((HE0.out.step hev).alloc (rdO 1 (-1) wv))
    clear hev
    go_upto_region 6 with fail
    generalize (w2.alloc (rdO 1 (-1) wv)) = w3 at *
    generalize w2.heap.size = p at *
    have hn : ¬ p = W.heap.size := by omega
    have HF : Hid (Ev W (((w3.setCell ⟨W.heap.size, 0, none⟩ (.int .i64 1)).setCell ⟨W.heap.size, 1, none⟩ (.int .i64 (-1))).setCell ⟨W.heap.size, 2, none⟩ (.int .i64 wv))) := Lib.hid (((HE2.out.setC (Nat.le_refl _) _).setC (Nat.le_refl _) _).setC (Nat.le_refl _) _)
    clear hlt
    go_wp2_with fail
    exact bodyPost_ret (v := .tuple #[rd 1 (-1) wv, .bool true]) (by simp [results, Tryd.results31, go_sem, *]) rfl ⟨wv, by omega, h2, rfl, HF.out⟩
/-- some number, and the world as it was -/
def SomeI (W : World) (x : Ending) (w' : World) : Prop := ∃ v : Int, x = .returned (.int .i64 v) ∧ W = w'
theorem at33 (A : Option Addr) (c : Nat) (l : List Int) (i : Nat) (W : World) (hr : RdI W A l) : Calls Tryd.prog 33 #[.slice A l.length c, .int .i64 (i : Int)] W fun e w' => SomeI W e w' := by
  have i0 : ¬ (i : Int) < 0 := by omega
  by_cases h : i < l.length
  · obtain ⟨b, o, rfl, hb, c1⟩ := hr.2 i h
    have h1 : ¬ (l.length : Int) ≤ (i : Int) := by omega
    have h2 : (i : Int) < (l.length : Int) := by omega
    have h3 : (0 : Int) ≤ (i : Int) := by omega
    generalize l.getD i 0 = x at *
    clear hr h
    go_enter Tryd.func33, Tryd.ntmps33
    go_wp2_with fail
    go_ret
    exact ⟨x, rfl, rfl⟩
  · have h1 : (l.length : Int) ≤ (i : Int) := by omega
    clear hr h
    go_enter Tryd.func33, Tryd.ntmps33
    go_wp2_with fail
    go_ret
    exact ⟨0, rfl, rfl⟩
theorem rdl1 {W : World} {A : Option Addr} {x : Int} (h : RdI W A [x]) : ∃ b o, A = some ⟨b, o, none⟩ ∧ W.cell? ⟨b, o, none⟩ = some (.int .i64 x) := by
  obtain ⟨b, o, rfl, _, c0⟩ := h.2 0 (by simp)
  exact ⟨b, o, rfl, c0⟩
theorem rdl2 {W : World} {A : Option Addr} {x y : Int} (h : RdI W A [x, y]) : ∃ b o, A = some ⟨b, o, none⟩ ∧ W.cell? ⟨b, o, none⟩ = some (.int .i64 x) ∧ W.cell? ⟨b, o + 1, none⟩ = some (.int .i64 y) := by
  obtain ⟨b, o, rfl, _, c0⟩ := h.2 0 (by simp)
  obtain ⟨b', o', e, _, c1⟩ := h.2 1 (by simp)
  cases e
  exact ⟨b, o, rfl, c0, c1⟩
theorem rdl3 {W : World} {A : Option Addr} {x y z : Int} (h : RdI W A [x, y, z]) : ∃ b o, A = some ⟨b, o, none⟩ ∧ W.cell? ⟨b, o, none⟩ = some (.int .i64 x) ∧ W.cell? ⟨b, o + 1, none⟩ = some (.int .i64 y) ∧ W.cell? ⟨b, o + 2, none⟩ = some (.int .i64 z) := by
  obtain ⟨b, o, rfl, _, c0⟩ := h.2 0 (by simp)
  obtain ⟨b', o', e, _, c1⟩ := h.2 1 (by simp)
  cases e
  obtain ⟨b', o', e, _, c2⟩ := h.2 2 (by simp)
  cases e
  exact ⟨b, o, rfl, c0, c1, c2⟩
/-- an event that was picked from a list, and its frame -/
def PickQ (W : World) (L : List Int) (x : Ending) (w' : World) : Prop := ∃ e fr : Int, e ∈ L ∧ (e = 1 ∧ 0 ≤ fr ∧ fr < 256 ∨ e ≠ 1 ∧ fr = -1) ∧ x = .returned (.tuple #[.int .i64 e, .int .i64 fr, .bool true]) ∧ Ev W w'
theorem evN_v (s w : Int) (b : Bool) (hb : (w != -1) = b) (i : Nat) : evN s w i = ((List.range i).filter (fun k : Nat => mayB s b ((k : Int) + 1))).map (fun k : Nat => (k : Int) + 1) := by
  unfold evN mayV
  rw [hb]
set_option maxRecDepth 100000 in
set_option maxHeartbeats 4000000 in
theorem pick_0_10 (f w n : Int) (W : World) (hT : Tab W) (hc : ck 1 f w = 0) (hb : (w != -1) = false) :
    Calls Tryd.prog 32 #[rd 1 f w, .int .i64 n, .bool false] W fun x w' => PickQ W [1] x w' := by
  have HE0 : Hid (Ev W (W.alloc (rdO 1 f w))) := Lib.hid (al1 _ _)
  have HB0 := Lib.hid (BoxR.new W 1 f w)
  have C0 := eventsC 1 f w (W.alloc (rdO 1 f w)) (hT.ev HE0.out) hc
  unfold ListC at C0
  rw [show evN 1 w 6 = [1, 6] from by rw [evN_v _ _ _ hb]; rfl] at C0
  have C := Lib.hid C0
  clear C0 hT hc hb
  obtain ⟨b0, b1, b2⟩ := HB0.out.c
  go_enter Tryd.func32, Tryd.ntmps32
  go_wp2_with fail
  refine (mod_nat n 1048576 (by decide) (by decide) _).mono ?_
  rintro e w1 ⟨k, hk0, hk1, rfl, rfl⟩
  go_wp2_with fail
  refine C.out.mono ?_
  rintro e w5 ⟨A, c, rfl, hcap, hr, hev⟩
  have hcap' : 1 ≤ c := by simp at hcap; omega
  have hcap2 : ((1 : Nat) : Int) ≤ (c : Int) := by omega
  have HE5 := Lib.hid (HE0.out.step hev)
  obtain ⟨b, o, rfl, c0, c1⟩ := rdl2 hr
  clear hr hev b0 b1 b2 hcap
  have hj : k % 1 = 0 := by omega
  obtain ⟨fr, hfr⟩ : ∃ fr : Int, fr = k / 8 % 256 := ⟨_, rfl⟩
  have h1 : 0 ≤ fr := by omega
  have h2 : fr < 256 := by omega
  have hq : k / 8 % 256 = fr := hfr.symm
  have g0 : 0 ≤ k / 8 := by omega
  clear hfr
  go_wp2_with fail
  exact bodyPost_ret (v := .tuple #[.int .i64 1, .int .i64 fr, .bool true]) (by simp [results, Tryd.results32, go_sem, hq]) rfl ⟨1, fr, by decide, .inl ⟨rfl, h1, h2⟩, rfl, HE5.out⟩
set_option maxRecDepth 100000 in
set_option maxHeartbeats 4000000 in
theorem pick_0_11 (f w n : Int) (W : World) (hT : Tab W) (hc : ck 1 f w = 0) (hb : (w != -1) = true) :
    Calls Tryd.prog 32 #[rd 1 f w, .int .i64 n, .bool false] W fun x w' => PickQ W [2, 4] x w' := by
  have HE0 : Hid (Ev W (W.alloc (rdO 1 f w))) := Lib.hid (al1 _ _)
  have HB0 := Lib.hid (BoxR.new W 1 f w)
  have C0 := eventsC 1 f w (W.alloc (rdO 1 f w)) (hT.ev HE0.out) hc
  unfold ListC at C0
  rw [show evN 1 w 6 = [2, 4, 6] from by rw [evN_v _ _ _ hb]; rfl] at C0
  have C := Lib.hid C0
  clear C0 hT hc hb
  obtain ⟨b0, b1, b2⟩ := HB0.out.c
  go_enter Tryd.func32, Tryd.ntmps32
  go_wp2_with fail
  refine (mod_nat n 1048576 (by decide) (by decide) _).mono ?_
  rintro e w1 ⟨k, hk0, hk1, rfl, rfl⟩
  go_wp2_with fail
  refine C.out.mono ?_
  rintro e w5 ⟨A, c, rfl, hcap, hr, hev⟩
  have hcap' : 2 ≤ c := by simp at hcap; omega
  have hcap2 : ((2 : Nat) : Int) ≤ (c : Int) := by omega
  have HE5 := Lib.hid (HE0.out.step hev)
  obtain ⟨b, o, rfl, c0, c1, c2⟩ := rdl3 hr
  clear hr hev b0 b1 b2 hcap
  rcases (show k % 2 = 0 ∨ k % 2 = 1 by omega) with hj | hj
  · go_wp2_with fail
    exact bodyPost_ret (v := .tuple #[.int .i64 2, .int .i64 (-1), .bool true]) (by simp [results, Tryd.results32, go_sem]) rfl ⟨2, -1, by decide, .inr ⟨by decide, rfl⟩, rfl, HE5.out⟩
  · go_wp2_with fail
    exact bodyPost_ret (v := .tuple #[.int .i64 4, .int .i64 (-1), .bool true]) (by simp [results, Tryd.results32, go_sem]) rfl ⟨4, -1, by decide, .inr ⟨by decide, rfl⟩, rfl, HE5.out⟩
set_option maxRecDepth 100000 in
set_option maxHeartbeats 4000000 in
theorem pick_0_20 (f w n : Int) (W : World) (hT : Tab W) (hc : ck 2 f w = 0) (hb : (w != -1) = false) :
    Calls Tryd.prog 32 #[rd 2 f w, .int .i64 n, .bool false] W fun x w' => PickQ W [3] x w' := by
  have HE0 : Hid (Ev W (W.alloc (rdO 2 f w))) := Lib.hid (al1 _ _)
  have HB0 := Lib.hid (BoxR.new W 2 f w)
  have C0 := eventsC 2 f w (W.alloc (rdO 2 f w)) (hT.ev HE0.out) hc
  unfold ListC at C0
  rw [show evN 2 w 6 = [3, 6] from by rw [evN_v _ _ _ hb]; rfl] at C0
  have C := Lib.hid C0
  clear C0 hT hc hb
  obtain ⟨b0, b1, b2⟩ := HB0.out.c
  go_enter Tryd.func32, Tryd.ntmps32
  go_wp2_with fail
  refine (mod_nat n 1048576 (by decide) (by decide) _).mono ?_
  rintro e w1 ⟨k, hk0, hk1, rfl, rfl⟩
  go_wp2_with fail
  refine C.out.mono ?_
  rintro e w5 ⟨A, c, rfl, hcap, hr, hev⟩
  have hcap' : 1 ≤ c := by simp at hcap; omega
  have hcap2 : ((1 : Nat) : Int) ≤ (c : Int) := by omega
  have HE5 := Lib.hid (HE0.out.step hev)
  obtain ⟨b, o, rfl, c0, c1⟩ := rdl2 hr
  clear hr hev b0 b1 b2 hcap
  have hj : k % 1 = 0 := by omega
  go_wp2_with fail
  exact bodyPost_ret (v := .tuple #[.int .i64 3, .int .i64 (-1), .bool true]) (by simp [results, Tryd.results32, go_sem]) rfl ⟨3, -1, by decide, .inr ⟨by decide, rfl⟩, rfl, HE5.out⟩
set_option maxRecDepth 100000 in
set_option maxHeartbeats 4000000 in
theorem pick_0_21 (f w n : Int) (W : World) (hT : Tab W) (hc : ck 2 f w = 0) (hb : (w != -1) = true) :
    Calls Tryd.prog 32 #[rd 2 f w, .int .i64 n, .bool false] W fun x w' => PickQ W [2, 4] x w' := by
  have HE0 : Hid (Ev W (W.alloc (rdO 2 f w))) := Lib.hid (al1 _ _)
  have HB0 := Lib.hid (BoxR.new W 2 f w)
  have C0 := eventsC 2 f w (W.alloc (rdO 2 f w)) (hT.ev HE0.out) hc
  unfold ListC at C0
  rw [show evN 2 w 6 = [2, 4, 6] from by rw [evN_v _ _ _ hb]; rfl] at C0
  have C := Lib.hid C0
  clear C0 hT hc hb
  obtain ⟨b0, b1, b2⟩ := HB0.out.c
  go_enter Tryd.func32, Tryd.ntmps32
  go_wp2_with fail
  refine (mod_nat n 1048576 (by decide) (by decide) _).mono ?_
  rintro e w1 ⟨k, hk0, hk1, rfl, rfl⟩
  go_wp2_with fail
  refine C.out.mono ?_
  rintro e w5 ⟨A, c, rfl, hcap, hr, hev⟩
  have hcap' : 2 ≤ c := by simp at hcap; omega
  have hcap2 : ((2 : Nat) : Int) ≤ (c : Int) := by omega
  have HE5 := Lib.hid (HE0.out.step hev)
  obtain ⟨b, o, rfl, c0, c1, c2⟩ := rdl3 hr
  clear hr hev b0 b1 b2 hcap
  rcases (show k % 2 = 0 ∨ k % 2 = 1 by omega) with hj | hj
  · go_wp2_with fail
    exact bodyPost_ret (v := .tuple #[.int .i64 2, .int .i64 (-1), .bool true]) (by simp [results, Tryd.results32, go_sem]) rfl ⟨2, -1, by decide, .inr ⟨by decide, rfl⟩, rfl, HE5.out⟩
  · go_wp2_with fail
    exact bodyPost_ret (v := .tuple #[.int .i64 4, .int .i64 (-1), .bool true]) (by simp [results, Tryd.results32, go_sem]) rfl ⟨4, -1, by decide, .inr ⟨by decide, rfl⟩, rfl, HE5.out⟩
set_option maxRecDepth 100000 in
set_option maxHeartbeats 4000000 in
theorem pick_0_30 (f w n : Int) (W : World) (hT : Tab W) (hc : ck 3 f w = 0) (hb : (w != -1) = false) :
    Calls Tryd.prog 32 #[rd 3 f w, .int .i64 n, .bool false] W fun x w' => PickQ W [5] x w' := by
  have HE0 : Hid (Ev W (W.alloc (rdO 3 f w))) := Lib.hid (al1 _ _)
  have HB0 := Lib.hid (BoxR.new W 3 f w)
  have C0 := eventsC 3 f w (W.alloc (rdO 3 f w)) (hT.ev HE0.out) hc
  unfold ListC at C0
  rw [show evN 3 w 6 = [5, 6] from by rw [evN_v _ _ _ hb]; rfl] at C0
  have C := Lib.hid C0
  clear C0 hT hc hb
  obtain ⟨b0, b1, b2⟩ := HB0.out.c
  go_enter Tryd.func32, Tryd.ntmps32
  go_wp2_with fail
  refine (mod_nat n 1048576 (by decide) (by decide) _).mono ?_
  rintro e w1 ⟨k, hk0, hk1, rfl, rfl⟩
  go_wp2_with fail
  refine C.out.mono ?_
  rintro e w5 ⟨A, c, rfl, hcap, hr, hev⟩
  have hcap' : 1 ≤ c := by simp at hcap; omega
  have hcap2 : ((1 : Nat) : Int) ≤ (c : Int) := by omega
  have HE5 := Lib.hid (HE0.out.step hev)
  obtain ⟨b, o, rfl, c0, c1⟩ := rdl2 hr
  clear hr hev b0 b1 b2 hcap
  have hj : k % 1 = 0 := by omega
  go_wp2_with fail
  exact bodyPost_ret (v := .tuple #[.int .i64 5, .int .i64 (-1), .bool true]) (by simp [results, Tryd.results32, go_sem]) rfl ⟨5, -1, by decide, .inr ⟨by decide, rfl⟩, rfl, HE5.out⟩
set_option maxRecDepth 100000 in
set_option maxHeartbeats 4000000 in
theorem pick_0_41 (f w n : Int) (W : World) (hT : Tab W) (hc : ck 4 f w = 0) (hb : (w != -1) = true) :
    Calls Tryd.prog 32 #[rd 4 f w, .int .i64 n, .bool false] W fun x w' => PickQ W [4] x w' := by
  have HE0 : Hid (Ev W (W.alloc (rdO 4 f w))) := Lib.hid (al1 _ _)
  have HB0 := Lib.hid (BoxR.new W 4 f w)
  have C0 := eventsC 4 f w (W.alloc (rdO 4 f w)) (hT.ev HE0.out) hc
  unfold ListC at C0
  rw [show evN 4 w 6 = [4, 6] from by rw [evN_v _ _ _ hb]; rfl] at C0
  have C := Lib.hid C0
  clear C0 hT hc hb
  obtain ⟨b0, b1, b2⟩ := HB0.out.c
  go_enter Tryd.func32, Tryd.ntmps32
  go_wp2_with fail
  refine (mod_nat n 1048576 (by decide) (by decide) _).mono ?_
  rintro e w1 ⟨k, hk0, hk1, rfl, rfl⟩
  go_wp2_with fail
  refine C.out.mono ?_
  rintro e w5 ⟨A, c, rfl, hcap, hr, hev⟩
  have hcap' : 1 ≤ c := by simp at hcap; omega
  have hcap2 : ((1 : Nat) : Int) ≤ (c : Int) := by omega
  have HE5 := Lib.hid (HE0.out.step hev)
  obtain ⟨b, o, rfl, c0, c1⟩ := rdl2 hr
  clear hr hev b0 b1 b2 hcap
  have hj : k % 1 = 0 := by omega
  go_wp2_with fail
  exact bodyPost_ret (v := .tuple #[.int .i64 4, .int .i64 (-1), .bool true]) (by simp [results, Tryd.results32, go_sem]) rfl ⟨4, -1, by decide, .inr ⟨by decide, rfl⟩, rfl, HE5.out⟩
set_option maxRecDepth 100000 in
set_option maxHeartbeats 4000000 in
theorem pick_0_50 (f w n : Int) (W : World) (hT : Tab W) (hc : ck 5 f w = 0) (hb : (w != -1) = false) :
    Calls Tryd.prog 32 #[rd 5 f w, .int .i64 n, .bool false] W fun x w' => x = .returned (.tuple #[.int .i64 0, .int .i64 0, .bool false]) ∧ Ev W w' := by
  have HE0 : Hid (Ev W (W.alloc (rdO 5 f w))) := Lib.hid (al1 _ _)
  have HB0 := Lib.hid (BoxR.new W 5 f w)
  have C0 := eventsC 5 f w (W.alloc (rdO 5 f w)) (hT.ev HE0.out) hc
  unfold ListC at C0
  rw [show evN 5 w 6 = [] from by rw [evN_v _ _ _ hb]; rfl] at C0
  have C := Lib.hid C0
  clear C0 hT hc hb
  obtain ⟨b0, b1, b2⟩ := HB0.out.c
  go_enter Tryd.func32, Tryd.ntmps32
  go_wp2_with fail
  refine (mod_nat n 1048576 (by decide) (by decide) _).mono ?_
  rintro e w1 ⟨k, hk0, hk1, rfl, rfl⟩
  go_wp2_with fail
  refine C.out.mono ?_
  rintro e w5 ⟨A, c, rfl, hcap, hr, hev⟩
  have hcap' : 0 ≤ c := by simp at hcap; omega
  have hcap2 : ((0 : Nat) : Int) ≤ (c : Int) := by omega
  have HE5 := Lib.hid (HE0.out.step hev)
  clear hr hev b0 b1 b2 hcap
  go_wp2_with fail
  exact bodyPost_ret (v := .tuple #[.int .i64 0, .int .i64 0, .bool false]) (by simp [results, Tryd.results32, go_sem]) rfl ⟨rfl, HE5.out⟩
end Go.Proofs.YtfiglmbnjfgdlaaDoor
