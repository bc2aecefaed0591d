import Derived.Test.YtfiglmbnjfgdlaaDoorDQ
namespace Go.Proofs.YtfiglmbnjfgdlaaDoor
open Go.RowKit
set_option maxRecDepth 100000 in
set_option maxHeartbeats 4000000 in
theorem pick_1_10 (f w n : Int) (W : World) (hT : Tab W) (hc : ck 1 f w = 0) (hb : (w != -1) = false) :
    Calls Tryd.prog 32 #[rd 1 f w, .int .i64 n, .bool true] W fun x w' => PickQ W [1, 6] x w' := by
  have HE0 : Hid (Ev W (W.alloc (rdO 1 f w))) := Lib.hid (al1 _ _)
  have HB0 := Lib.hid (BoxR.new W 1 f w)
  have C0 := eventsC 1 f w (W.alloc (rdO 1 f w)) (hT.ev HE0.out) hc
  unfold ListC at C0
  rw [show evN 1 w 6 = [1, 6] from by rw [evN_v _ _ _ hb]; rfl] at C0
  have C := Lib.hid C0
  clear C0 hT hc hb
  obtain ⟨b0, b1, b2⟩ := HB0.out.c
  go_enter Tryd.func32, Tryd.ntmps32
  go_wp2_with fail
  refine (mod_nat n 1048576 (by decide) (by decide) _).mono ?_
  rintro e w1 ⟨k, hk0, hk1, rfl, rfl⟩
  go_wp2_with fail
  refine C.out.mono ?_
  rintro e w5 ⟨A, c, rfl, hcap, hr, hev⟩
  have hcap' : 1 ≤ c := by simp at hcap; omega
  have hcap2 : ((1 : Nat) : Int) ≤ (c : Int) := by omega
  have HE5 := Lib.hid (HE0.out.step hev)
  obtain ⟨b, o, rfl, c0, c1⟩ := rdl2 hr
  clear hr hev b0 b1 b2 hcap
  rcases (show k % 2 = 0 ∨ k % 2 = 1 by omega) with hj | hj
  · obtain ⟨fr, hfr⟩ : ∃ fr : Int, fr = k / 8 % 256 := ⟨_, rfl⟩
    have h1 : 0 ≤ fr := by omega
    have h2 : fr < 256 := by omega
    have hq : k / 8 % 256 = fr := hfr.symm
    have g0 : 0 ≤ k / 8 := by omega
    clear hfr
    go_wp2_with fail
    exact bodyPost_ret (v := .tuple #[.int .i64 1, .int .i64 fr, .bool true]) (by simp [results, Tryd.results32, go_sem, hq]) rfl ⟨1, fr, by decide, .inl ⟨rfl, h1, h2⟩, rfl, HE5.out⟩
  · go_wp2_with fail
    exact bodyPost_ret (v := .tuple #[.int .i64 6, .int .i64 (-1), .bool true]) (by simp [results, Tryd.results32, go_sem]) rfl ⟨6, -1, by decide, .inr ⟨by decide, rfl⟩, rfl, HE5.out⟩
set_option maxRecDepth 100000 in
set_option maxHeartbeats 4000000 in
theorem pick_1_11 (f w n : Int) (W : World) (hT : Tab W) (hc : ck 1 f w = 0) (hb : (w != -1) = true) :
    Calls Tryd.prog 32 #[rd 1 f w, .int .i64 n, .bool true] W fun x w' => PickQ W [2, 4, 6] x w' := by
  have HE0 : Hid (Ev W (W.alloc (rdO 1 f w))) := Lib.hid (al1 _ _)
  have HB0 := Lib.hid (BoxR.new W 1 f w)
  have C0 := eventsC 1 f w (W.alloc (rdO 1 f w)) (hT.ev HE0.out) hc
  unfold ListC at C0
  rw [show evN 1 w 6 = [2, 4, 6] from by rw [evN_v _ _ _ hb]; rfl] at C0
  have C := Lib.hid C0
  clear C0 hT hc hb
  obtain ⟨b0, b1, b2⟩ := HB0.out.c
  go_enter Tryd.func32, Tryd.ntmps32
  go_wp2_with fail
  refine (mod_nat n 1048576 (by decide) (by decide) _).mono ?_
  rintro e w1 ⟨k, hk0, hk1, rfl, rfl⟩
  go_wp2_with fail
  refine C.out.mono ?_
  rintro e w5 ⟨A, c, rfl, hcap, hr, hev⟩
  have hcap' : 2 ≤ c := by simp at hcap; omega
  have hcap2 : ((2 : Nat) : Int) ≤ (c : Int) := by omega
  have HE5 := Lib.hid (HE0.out.step hev)
  obtain ⟨b, o, rfl, c0, c1, c2⟩ := rdl3 hr
  clear hr hev b0 b1 b2 hcap
  rcases (show k % 3 = 0 ∨ k % 3 = 1 ∨ k % 3 = 2 by omega) with hj | hj | hj
  · go_wp2_with fail
    exact bodyPost_ret (v := .tuple #[.int .i64 2, .int .i64 (-1), .bool true]) (by simp [results, Tryd.results32, go_sem]) rfl ⟨2, -1, by decide, .inr ⟨by decide, rfl⟩, rfl, HE5.out⟩
  · go_wp2_with fail
    exact bodyPost_ret (v := .tuple #[.int .i64 4, .int .i64 (-1), .bool true]) (by simp [results, Tryd.results32, go_sem]) rfl ⟨4, -1, by decide, .inr ⟨by decide, rfl⟩, rfl, HE5.out⟩
  · go_wp2_with fail
    exact bodyPost_ret (v := .tuple #[.int .i64 6, .int .i64 (-1), .bool true]) (by simp [results, Tryd.results32, go_sem]) rfl ⟨6, -1, by decide, .inr ⟨by decide, rfl⟩, rfl, HE5.out⟩
set_option maxRecDepth 100000 in
set_option maxHeartbeats 4000000 in
theorem pick_1_20 (f w n : Int) (W : World) (hT : Tab W) (hc : ck 2 f w = 0) (hb : (w != -1) = false) :
    Calls Tryd.prog 32 #[rd 2 f w, .int .i64 n, .bool true] W fun x w' => PickQ W [3, 6] x w' := by
  have HE0 : Hid (Ev W (W.alloc (rdO 2 f w))) := Lib.hid (al1 _ _)
  have HB0 := Lib.hid (BoxR.new W 2 f w)
  have C0 := eventsC 2 f w (W.alloc (rdO 2 f w)) (hT.ev HE0.out) hc
  unfold ListC at C0
  rw [show evN 2 w 6 = [3, 6] from by rw [evN_v _ _ _ hb]; rfl] at C0
  have C := Lib.hid C0
  clear C0 hT hc hb
  obtain ⟨b0, b1, b2⟩ := HB0.out.c
  go_enter Tryd.func32, Tryd.ntmps32
  go_wp2_with fail
  refine (mod_nat n 1048576 (by decide) (by decide) _).mono ?_
  rintro e w1 ⟨k, hk0, hk1, rfl, rfl⟩
  go_wp2_with fail
  refine C.out.mono ?_
  rintro e w5 ⟨A, c, rfl, hcap, hr, hev⟩
  have hcap' : 1 ≤ c := by simp at hcap; omega
  have hcap2 : ((1 : Nat) : Int) ≤ (c : Int) := by omega
  have HE5 := Lib.hid (HE0.out.step hev)
  obtain ⟨b, o, rfl, c0, c1⟩ := rdl2 hr
  clear hr hev b0 b1 b2 hcap
  rcases (show k % 2 = 0 ∨ k % 2 = 1 by omega) with hj | hj
  · go_wp2_with fail
    exact bodyPost_ret (v := .tuple #[.int .i64 3, .int .i64 (-1), .bool true]) (by simp [results, Tryd.results32, go_sem]) rfl ⟨3, -1, by decide, .inr ⟨by decide, rfl⟩, rfl, HE5.out⟩
  · go_wp2_with fail
    exact bodyPost_ret (v := .tuple #[.int .i64 6, .int .i64 (-1), .bool true]) (by simp [results, Tryd.results32, go_sem]) rfl ⟨6, -1, by decide, .inr ⟨by decide, rfl⟩, rfl, HE5.out⟩
set_option maxRecDepth 100000 in
set_option maxHeartbeats 4000000 in
theorem pick_1_21 (f w n : Int) (W : World) (hT : Tab W) (hc : ck 2 f w = 0) (hb : (w != -1) = true) :
    Calls Tryd.prog 32 #[rd 2 f w, .int .i64 n, .bool true] W fun x w' => PickQ W [2, 4, 6] x w' := by
  have HE0 : Hid (Ev W (W.alloc (rdO 2 f w))) := Lib.hid (al1 _ _)
  have HB0 := Lib.hid (BoxR.new W 2 f w)
  have C0 := eventsC 2 f w (W.alloc (rdO 2 f w)) (hT.ev HE0.out) hc
  unfold ListC at C0
  rw [show evN 2 w 6 = [2, 4, 6] from by rw [evN_v _ _ _ hb]; rfl] at C0
  have C := Lib.hid C0
  clear C0 hT hc hb
  obtain ⟨b0, b1, b2⟩ := HB0.out.c
  go_enter Tryd.func32, Tryd.ntmps32
  go_wp2_with fail
  refine (mod_nat n 1048576 (by decide) (by decide) _).mono ?_
  rintro e w1 ⟨k, hk0, hk1, rfl, rfl⟩
  go_wp2_with fail
  refine C.out.mono ?_
  rintro e w5 ⟨A, c, rfl, hcap, hr, hev⟩
  have hcap' : 2 ≤ c := by simp at hcap; omega
  have hcap2 : ((2 : Nat) : Int) ≤ (c : Int) := by omega
  have HE5 := Lib.hid (HE0.out.step hev)
  obtain ⟨b, o, rfl, c0, c1, c2⟩ := rdl3 hr
  clear hr hev b0 b1 b2 hcap
  rcases (show k % 3 = 0 ∨ k % 3 = 1 ∨ k % 3 = 2 by omega) with hj | hj | hj
  · go_wp2_with fail
    exact bodyPost_ret (v := .tuple #[.int .i64 2, .int .i64 (-1), .bool true]) (by simp [results, Tryd.results32, go_sem]) rfl ⟨2, -1, by decide, .inr ⟨by decide, rfl⟩, rfl, HE5.out⟩
  · go_wp2_with fail
    exact bodyPost_ret (v := .tuple #[.int .i64 4, .int .i64 (-1), .bool true]) (by simp [results, Tryd.results32, go_sem]) rfl ⟨4, -1, by decide, .inr ⟨by decide, rfl⟩, rfl, HE5.out⟩
  · go_wp2_with fail
    exact bodyPost_ret (v := .tuple #[.int .i64 6, .int .i64 (-1), .bool true]) (by simp [results, Tryd.results32, go_sem]) rfl ⟨6, -1, by decide, .inr ⟨by decide, rfl⟩, rfl, HE5.out⟩
set_option maxRecDepth 100000 in
set_option maxHeartbeats 4000000 in
theorem pick_1_30 (f w n : Int) (W : World) (hT : Tab W) (hc : ck 3 f w = 0) (hb : (w != -1) = false) :
    Calls Tryd.prog 32 #[rd 3 f w, .int .i64 n, .bool true] W fun x w' => PickQ W [5, 6] x w' := by
  have HE0 : Hid (Ev W (W.alloc (rdO 3 f w))) := Lib.hid (al1 _ _)
  have HB0 := Lib.hid (BoxR.new W 3 f w)
  have C0 := eventsC 3 f w (W.alloc (rdO 3 f w)) (hT.ev HE0.out) hc
  unfold ListC at C0
  rw [show evN 3 w 6 = [5, 6] from by rw [evN_v _ _ _ hb]; rfl] at C0
  have C := Lib.hid C0
  clear C0 hT hc hb
  obtain ⟨b0, b1, b2⟩ := HB0.out.c
  go_enter Tryd.func32, Tryd.ntmps32
  go_wp2_with fail
  refine (mod_nat n 1048576 (by decide) (by decide) _).mono ?_
  rintro e w1 ⟨k, hk0, hk1, rfl, rfl⟩
  go_wp2_with fail
  refine C.out.mono ?_
  rintro e w5 ⟨A, c, rfl, hcap, hr, hev⟩
  have hcap' : 1 ≤ c := by simp at hcap; omega
  have hcap2 : ((1 : Nat) : Int) ≤ (c : Int) := by omega
  have HE5 := Lib.hid (HE0.out.step hev)
  obtain ⟨b, o, rfl, c0, c1⟩ := rdl2 hr
  clear hr hev b0 b1 b2 hcap
  rcases (show k % 2 = 0 ∨ k % 2 = 1 by omega) with hj | hj
  · go_wp2_with fail
    exact bodyPost_ret (v := .tuple #[.int .i64 5, .int .i64 (-1), .bool true]) (by simp [results, Tryd.results32, go_sem]) rfl ⟨5, -1, by decide, .inr ⟨by decide, rfl⟩, rfl, HE5.out⟩
  · go_wp2_with fail
    exact bodyPost_ret (v := .tuple #[.int .i64 6, .int .i64 (-1), .bool true]) (by simp [results, Tryd.results32, go_sem]) rfl ⟨6, -1, by decide, .inr ⟨by decide, rfl⟩, rfl, HE5.out⟩
set_option maxRecDepth 100000 in
set_option maxHeartbeats 4000000 in
theorem pick_1_41 (f w n : Int) (W : World) (hT : Tab W) (hc : ck 4 f w = 0) (hb : (w != -1) = true) :
    Calls Tryd.prog 32 #[rd 4 f w, .int .i64 n, .bool true] W fun x w' => PickQ W [4, 6] x w' := by
  have HE0 : Hid (Ev W (W.alloc (rdO 4 f w))) := Lib.hid (al1 _ _)
  have HB0 := Lib.hid (BoxR.new W 4 f w)
  have C0 := eventsC 4 f w (W.alloc (rdO 4 f w)) (hT.ev HE0.out) hc
  unfold ListC at C0
  rw [show evN 4 w 6 = [4, 6] from by rw [evN_v _ _ _ hb]; rfl] at C0
  have C := Lib.hid C0
  clear C0 hT hc hb
  obtain ⟨b0, b1, b2⟩ := HB0.out.c
  go_enter Tryd.func32, Tryd.ntmps32
  go_wp2_with fail
  refine (mod_nat n 1048576 (by decide) (by decide) _).mono ?_
  rintro e w1 ⟨k, hk0, hk1, rfl, rfl⟩
  go_wp2_with fail
  refine C.out.mono ?_
  rintro e w5 ⟨A, c, rfl, hcap, hr, hev⟩
  have hcap' : 1 ≤ c := by simp at hcap; omega
  have hcap2 : ((1 : Nat) : Int) ≤ (c : Int) := by omega
  have HE5 := Lib.hid (HE0.out.step hev)
  obtain ⟨b, o, rfl, c0, c1⟩ := rdl2 hr
  clear hr hev b0 b1 b2 hcap
  rcases (show k % 2 = 0 ∨ k % 2 = 1 by omega) with hj | hj
  · go_wp2_with fail
    exact bodyPost_ret (v := .tuple #[.int .i64 4, .int .i64 (-1), .bool true]) (by simp [results, Tryd.results32, go_sem]) rfl ⟨4, -1, by decide, .inr ⟨by decide, rfl⟩, rfl, HE5.out⟩
  · go_wp2_with fail
    exact bodyPost_ret (v := .tuple #[.int .i64 6, .int .i64 (-1), .bool true]) (by simp [results, Tryd.results32, go_sem]) rfl ⟨6, -1, by decide, .inr ⟨by decide, rfl⟩, rfl, HE5.out⟩
set_option maxRecDepth 100000 in
set_option maxHeartbeats 4000000 in
theorem pick_1_50 (f w n : Int) (W : World) (hT : Tab W) (hc : ck 5 f w = 0) (hb : (w != -1) = false) :
    Calls Tryd.prog 32 #[rd 5 f w, .int .i64 n, .bool true] W fun x w' => x = .returned (.tuple #[.int .i64 0, .int .i64 0, .bool false]) ∧ Ev W w' := by
  have HE0 : Hid (Ev W (W.alloc (rdO 5 f w))) := Lib.hid (al1 _ _)
  have HB0 := Lib.hid (BoxR.new W 5 f w)
  have C0 := eventsC 5 f w (W.alloc (rdO 5 f w)) (hT.ev HE0.out) hc
  unfold ListC at C0
  rw [show evN 5 w 6 = [] from by rw [evN_v _ _ _ hb]; rfl] at C0
  have C := Lib.hid C0
  clear C0 hT hc hb
  obtain ⟨b0, b1, b2⟩ := HB0.out.c
  go_enter Tryd.func32, Tryd.ntmps32
  go_wp2_with fail
  refine (mod_nat n 1048576 (by decide) (by decide) _).mono ?_
  rintro e w1 ⟨k, hk0, hk1, rfl, rfl⟩
  go_wp2_with fail
  refine C.out.mono ?_
  rintro e w5 ⟨A, c, rfl, hcap, hr, hev⟩
  have hcap' : 0 ≤ c := by simp at hcap; omega
  have hcap2 : ((0 : Nat) : Int) ≤ (c : Int) := by omega
  have HE5 := Lib.hid (HE0.out.step hev)
  clear hr hev b0 b1 b2 hcap
  go_wp2_with fail
  exact bodyPost_ret (v := .tuple #[.int .i64 0, .int .i64 0, .bool false]) (by simp [results, Tryd.results32, go_sem]) rfl ⟨rfl, HE5.out⟩
set_option maxRecDepth 100000 in
set_option maxHeartbeats 4000000 in
theorem pick_1_60 (f w n : Int) (W : World) (hT : Tab W) (hc : ck 6 f w = 0) (hb : (w != -1) = false) :
    Calls Tryd.prog 32 #[rd 6 f w, .int .i64 n, .bool true] W fun x w' => PickQ W [5] x w' := by
  have HE0 : Hid (Ev W (W.alloc (rdO 6 f w))) := Lib.hid (al1 _ _)
  have HB0 := Lib.hid (BoxR.new W 6 f w)
  have C0 := eventsC 6 f w (W.alloc (rdO 6 f w)) (hT.ev HE0.out) hc
  unfold ListC at C0
  rw [show evN 6 w 6 = [5] from by rw [evN_v _ _ _ hb]; rfl] at C0
  have C := Lib.hid C0
  clear C0 hT hc hb
  obtain ⟨b0, b1, b2⟩ := HB0.out.c
  go_enter Tryd.func32, Tryd.ntmps32
  go_wp2_with fail
  refine (mod_nat n 1048576 (by decide) (by decide) _).mono ?_
  rintro e w1 ⟨k, hk0, hk1, rfl, rfl⟩
  go_wp2_with fail
  refine C.out.mono ?_
  rintro e w5 ⟨A, c, rfl, hcap, hr, hev⟩
  have hcap' : 0 ≤ c := by simp at hcap; omega
  have hcap2 : ((0 : Nat) : Int) ≤ (c : Int) := by omega
  have HE5 := Lib.hid (HE0.out.step hev)
  obtain ⟨b, o, rfl, c0⟩ := rdl1 hr
  clear hr hev b0 b1 b2 hcap
  have hj : k % 1 = 0 := by omega
  go_wp2_with fail
  exact bodyPost_ret (v := .tuple #[.int .i64 5, .int .i64 (-1), .bool true]) (by simp [results, Tryd.results32, go_sem]) rfl ⟨5, -1, by decide, .inr ⟨by decide, rfl⟩, rfl, HE5.out⟩
set_option maxRecDepth 100000 in
set_option maxHeartbeats 4000000 in
theorem pick_1_70 (f w n : Int) (W : World) (hT : Tab W) (hc : ck 7 f w = 0) (hb : (w != -1) = false) :
    Calls Tryd.prog 32 #[rd 7 f w, .int .i64 n, .bool true] W fun x w' => x = .returned (.tuple #[.int .i64 0, .int .i64 0, .bool false]) ∧ Ev W w' := by
  have HE0 : Hid (Ev W (W.alloc (rdO 7 f w))) := Lib.hid (al1 _ _)
  have HB0 := Lib.hid (BoxR.new W 7 f w)
  have C0 := eventsC 7 f w (W.alloc (rdO 7 f w)) (hT.ev HE0.out) hc
  unfold ListC at C0
  rw [show evN 7 w 6 = [] from by rw [evN_v _ _ _ hb]; rfl] at C0
  have C := Lib.hid C0
  clear C0 hT hc hb
  obtain ⟨b0, b1, b2⟩ := HB0.out.c
  go_enter Tryd.func32, Tryd.ntmps32
  go_wp2_with fail
  refine (mod_nat n 1048576 (by decide) (by decide) _).mono ?_
  rintro e w1 ⟨k, hk0, hk1, rfl, rfl⟩
  go_wp2_with fail
  refine C.out.mono ?_
  rintro e w5 ⟨A, c, rfl, hcap, hr, hev⟩
  have hcap' : 0 ≤ c := by simp at hcap; omega
  have hcap2 : ((0 : Nat) : Int) ≤ (c : Int) := by omega
  have HE5 := Lib.hid (HE0.out.step hev)
  clear hr hev b0 b1 b2 hcap
  go_wp2_with fail
  exact bodyPost_ret (v := .tuple #[.int .i64 0, .int .i64 0, .bool false]) (by simp [results, Tryd.results32, go_sem]) rfl ⟨rfl, HE5.out⟩
set_option maxRecDepth 100000 in
set_option maxHeartbeats 4000000 in
theorem pick_1_71 (f w n : Int) (W : World) (hT : Tab W) (hc : ck 7 f w = 0) (hb : (w != -1) = true) :
    Calls Tryd.prog 32 #[rd 7 f w, .int .i64 n, .bool true] W fun x w' => PickQ W [4] x w' := by
  have HE0 : Hid (Ev W (W.alloc (rdO 7 f w))) := Lib.hid (al1 _ _)
  have HB0 := Lib.hid (BoxR.new W 7 f w)
  have C0 := eventsC 7 f w (W.alloc (rdO 7 f w)) (hT.ev HE0.out) hc
  unfold ListC at C0
  rw [show evN 7 w 6 = [4] from by rw [evN_v _ _ _ hb]; rfl] at C0
  have C := Lib.hid C0
  clear C0 hT hc hb
  obtain ⟨b0, b1, b2⟩ := HB0.out.c
  go_enter Tryd.func32, Tryd.ntmps32
  go_wp2_with fail
  refine (mod_nat n 1048576 (by decide) (by decide) _).mono ?_
  rintro e w1 ⟨k, hk0, hk1, rfl, rfl⟩
  go_wp2_with fail
  refine C.out.mono ?_
  rintro e w5 ⟨A, c, rfl, hcap, hr, hev⟩
  have hcap' : 0 ≤ c := by simp at hcap; omega
  have hcap2 : ((0 : Nat) : Int) ≤ (c : Int) := by omega
  have HE5 := Lib.hid (HE0.out.step hev)
  obtain ⟨b, o, rfl, c0⟩ := rdl1 hr
  clear hr hev b0 b1 b2 hcap
  have hj : k % 1 = 0 := by omega
  go_wp2_with fail
  exact bodyPost_ret (v := .tuple #[.int .i64 4, .int .i64 (-1), .bool true]) (by simp [results, Tryd.results32, go_sem]) rfl ⟨4, -1, by decide, .inr ⟨by decide, rfl⟩, rfl, HE5.out⟩
set_option maxRecDepth 100000 in
set_option maxHeartbeats 4000000 in
theorem pick_1_80 (f w n : Int) (W : World) (hT : Tab W) (hc : ck 8 f w = 0) (hb : (w != -1) = false) :
    Calls Tryd.prog 32 #[rd 8 f w, .int .i64 n, .bool true] W fun x w' => x = .returned (.tuple #[.int .i64 0, .int .i64 0, .bool false]) ∧ Ev W w' := by
  have HE0 : Hid (Ev W (W.alloc (rdO 8 f w))) := Lib.hid (al1 _ _)
  have HB0 := Lib.hid (BoxR.new W 8 f w)
  have C0 := eventsC 8 f w (W.alloc (rdO 8 f w)) (hT.ev HE0.out) hc
  unfold ListC at C0
  rw [show evN 8 w 6 = [] from by rw [evN_v _ _ _ hb]; rfl] at C0
  have C := Lib.hid C0
  clear C0 hT hc hb
  obtain ⟨b0, b1, b2⟩ := HB0.out.c
  go_enter Tryd.func32, Tryd.ntmps32
  go_wp2_with fail
  refine (mod_nat n 1048576 (by decide) (by decide) _).mono ?_
  rintro e w1 ⟨k, hk0, hk1, rfl, rfl⟩
  go_wp2_with fail
  refine C.out.mono ?_
  rintro e w5 ⟨A, c, rfl, hcap, hr, hev⟩
  have hcap' : 0 ≤ c := by simp at hcap; omega
  have hcap2 : ((0 : Nat) : Int) ≤ (c : Int) := by omega
  have HE5 := Lib.hid (HE0.out.step hev)
  clear hr hev b0 b1 b2 hcap
  go_wp2_with fail
  exact bodyPost_ret (v := .tuple #[.int .i64 0, .int .i64 0, .bool false]) (by simp [results, Tryd.results32, go_sem]) rfl ⟨rfl, HE5.out⟩
end Go.Proofs.YtfiglmbnjfgdlaaDoor
