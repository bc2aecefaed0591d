import Derived.Test.YtfclbnaabdlmhaaK1
namespace Go.Proofs.Ytfclbnaabdlmhaa
open Go.RowKit Go.Deep
theorem eq25 (n : Nat) (a b : Int) (w : World) : Sem.run Try.prog (Op.equalIn (n + 1) 25 (.int .i64 a) (.int .i64 b)) w = .ok (a == b) w := by
  unfold Op.equalIn
  simp [run_underlying Try.underlying25]
theorem eq3 (n : Nat) (a b : Int) (w : World) : Sem.run Try.prog (Op.equalIn (n + 1) 3 (.int .i64 a) (.int .i64 b)) w = .ok (a == b) w := by
  unfold Op.equalIn
  simp [run_underlying Try.underlying3]
set_option maxHeartbeats 1000000 in
theorem eq47 (e a f b : Int) (w : World) : Sem.run Try.prog (Op.equalIn 10000 47 (fl e a) (fl f b)) w = .ok ((e == f) && (a == b)) w := by
  rw [show (10000 : Nat) = 9998 + 1 + 1 from rfl]
  unfold Op.equalIn
  simp [run_underlying Try.underlying47, go_sem, eq25, eq3]
  repeat' split
  all_goals simp_all
/-- a box with a fault -/
def BF (W : World) (b : Nat) (e a : Int) : Prop := b < W.heap.size ∧ W.cell? ⟨b, 0, none⟩ = some (.int .i64 e) ∧ W.cell? ⟨b, 1, none⟩ = some (.int .i64 a)
abbrev flO (e a : Int) : Obj := .cells #[.int .i64 e, .int .i64 a] 47
theorem BF.new1 (w : World) (e a : Int) (o : Obj) : BF ((w.alloc o).alloc (flO e a)) (w.heap.size + 1) e a := by
  have h : BF ((w.alloc o).alloc (flO e a)) (w.alloc o).heap.size e a := ⟨by simp, by simp, by simp⟩
  have e : (w.alloc o).heap.size = w.heap.size + 1 := by simp
  rwa [e] at h
theorem BF.ev {w W : World} {b : Nat} {e a : Int} (h : BF w b e a) (ev : Ev w W) : BF W b e a := by
  obtain ⟨h0, h1, h2⟩ := h
  obtain ⟨p, -⟩ := bc ev
  exact ⟨Nat.lt_of_lt_of_le h0 ev.sz, by rw [p _ _ h0, h1], by rw [p _ _ h0, h2]⟩
set_option maxRecDepth 100000 in
set_option maxHeartbeats 4000000 in
theorem parses_law (s : ByteArray) (w : World) : Calls Try.prog 6 #[.string s] w fun e w' => e = .returned (.bool true) ∧ Ev w w' := by
  by_cases hs : 200 < s.size
  · have hs' : 200 < (s.size : Int) := by omega
    clear hs
    go_enter Try.func6, Try.ntmps6
    go_wp2_with fail
    refine (awake_any _).mono ?_
    rintro e w1 ⟨rfl, h1⟩
    have HE := Lib.hid h1
    clear h1
    go_wp2_with fail
    go_ret
    exact ⟨rfl, HE.out⟩
  · have hs' : ¬ 200 < (s.size : Int) := by omega
    clear hs
    have H1 := Lib.hid fun W => parse_all s W
    have H2 := Lib.hid fun W => rparse_all s W
    have HQ : Hid (∀ d W, Sem.run Try.prog (Op.equalIn 10000 24 (pg d) (pg d)) W = .ok true W) := Lib.hid fun d W => by rw [eq24, eqB_self]
    have HF : Hid (∀ e a W, Sem.run Try.prog (Op.equalIn 10000 47 (fl e a) (fl e a)) W = .ok true W) := Lib.hid fun e a W => by rw [eq47]; simp
    generalize prC s.data.toList = d at *
    generalize prE s.data.toList = er at *
    generalize prA s.data.toList = a at *
    go_enter Try.func6, Try.ntmps6
    go_wp2_with fail
    refine (H1.out _).mono ?_
    rintro e w1 ⟨rfl, h1⟩
    have HE1 := Lib.hid ((h1.alloc (pgO d)).alloc (flO er a))
    have HC1 := Lib.hid ((BP.new w1 d).ev ((Ev.refl _).alloc (flO er a)))
    have HB1 := Lib.hid (BF.new1 w1 er a (pgO d))
    clear h1
    go_wp2_with fail
    refine (H2.out _).mono ?_
    rintro e w2 ⟨rfl, h2⟩
    have HE2 := Lib.hid ((HE1.out.step h2).alloc (pgO d) |>.alloc (flO er a))
    have HC2 := Lib.hid ((HC1.out.ev h2).ev (((Ev.refl _).alloc (pgO d) : Ev w2 _).alloc (flO er a)))
    have HB2 := Lib.hid ((HB1.out.ev h2).ev (((Ev.refl _).alloc (pgO d) : Ev w2 _).alloc (flO er a)))
    have HD2 := Lib.hid ((BP.new w2 d).ev ((Ev.refl _).alloc (flO er a)))
    have HG2 := Lib.hid (BF.new1 w2 er a (pgO d))
    clear h2
    obtain ⟨-, h8, -⟩ := HC2.out
    have c0 := h8 0 (by omega)
    have c1 := h8 1 (by omega)
    have c2 := h8 2 (by omega)
    have c3 := h8 3 (by omega)
    have c4 := h8 4 (by omega)
    have c5 := h8 5 (by omega)
    have c6 := h8 6 (by omega)
    have c7 := h8 7 (by omega)
    clear h8
    obtain ⟨-, h8, -⟩ := HD2.out
    have d0 := h8 0 (by omega)
    have d1 := h8 1 (by omega)
    have d2 := h8 2 (by omega)
    have d3 := h8 3 (by omega)
    have d4 := h8 4 (by omega)
    have d5 := h8 5 (by omega)
    have d6 := h8 6 (by omega)
    have d7 := h8 7 (by omega)
    clear h8
    obtain ⟨-, b0, b1⟩ := HB2.out
    obtain ⟨-, g0, g1⟩ := HG2.out
    have hq := HQ.out
    have hf := HF.out
    go_wp2_with fail
    refine (awake_any _).mono ?_
    rintro e w3 ⟨rfl, h3⟩
    have HE3 := Lib.hid (HE2.out.step h3)
    clear h3
    go_wp2_with fail
    go_ret
    exact ⟨rfl, HE3.out⟩
theorem ba_eq {l : List UInt8} {s : ByteArray} (h : l = s.data.toList) : (⟨l.toArray⟩ : ByteArray) = s := by
  subst h
  apply ByteArray.ext
  simp
theorem ba_beq (t : ByteArray) : (t == t) = true := by first | exact beq_self_eq_true t | (cases t; simp [BEq.beq]; done) | (show (t.data == t.data) = true; simp) | (unfold BEq.beq; simp)
set_option maxRecDepth 100000 in
set_option maxHeartbeats 4000000 in
theorem back_law (c : Nat → Nat) (s : ByteArray) (w : World) (hP : Pg c) : Calls Try.prog 9 #[pg c, .string s] w fun e w' => e = .returned (.bool true) ∧ Ev w w' := by
  obtain ⟨t1, t2, t3⟩ := text_back c hP
  have H0 := Lib.hid fun W => text_any c W
  have H1 : Hid (∀ W, Calls Try.prog 31 #[.string ⟨(txP c 8).toArray⟩] W fun e w' => e = .returned (.tuple #[pg c, fl 0 0]) ∧ Ev W w') := Lib.hid fun W => by
    have h := parse_all ⟨(txP c 8).toArray⟩ W
    have e : (⟨(txP c 8).toArray⟩ : ByteArray).data.toList = txP c 8 := by simp
    rw [e, t1, t2, t3] at h
    exact h
  have HC := Lib.hid (BP.new w c)
  have HE0 : Hid (Ev w (w.alloc (pgO c))) := Lib.hid ((Ev.refl w).alloc _)
  have HQ : Hid (∀ d W, Sem.run Try.prog (Op.equalIn 10000 24 (pg d) (pg d)) W = .ok true W) := Lib.hid fun d W => by rw [eq24, eqB_self]
  have HF : Hid (∀ e a W, Sem.run Try.prog (Op.equalIn 10000 47 (fl e a) (fl e a)) W = .ok true W) := Lib.hid fun e a W => by rw [eq47]; simp
  have H2 := Lib.hid fun W => parse_all s W
  have HT := Lib.hid fun d W => text_any d W
  have HBK : Hid (prE s.data.toList = 0 → (⟨(txP (prC s.data.toList) 8).toArray⟩ : ByteArray) = s) := Lib.hid fun h => ba_eq (back_text h)
  generalize (⟨(txP c 8).toArray⟩ : ByteArray) = tx at *
  clear t1 t2 t3 hP
  generalize prC s.data.toList = d at *
  generalize prE s.data.toList = er at *
  generalize prA s.data.toList = a at *
  have hcase : (200 < s.size ∧ True) ∨ (¬ 200 < s.size ∧ er = 0) ∨ (¬ 200 < s.size ∧ er ≠ 0) := by
    by_cases h : 200 < s.size
    · exact .inl ⟨h, trivial⟩
    · by_cases h2 : er = 0
      · exact .inr (.inl ⟨h, h2⟩)
      · exact .inr (.inr ⟨h, h2⟩)
  rcases hcase with ⟨hs, -⟩ | ⟨hs, her⟩ | ⟨hs, her⟩
  · have hs' : 200 < (s.size : Int) := by omega
    clear hs HBK
    go_enter Try.func9, Try.ntmps9
    go_wp2_with fail
    refine (H0.out _).mono ?_
    rintro e w1 ⟨rfl, h1⟩
    have HC1 := Lib.hid (HC.out.ev h1)
    have HE1 := Lib.hid (HE0.out.step h1)
    clear h1
    go_wp2_with fail
    refine (H1.out _).mono ?_
    rintro e w2 ⟨rfl, h2⟩
    have HE2 := Lib.hid ((HE1.out.step h2).alloc (pgO c) |>.alloc (flO 0 0))
    have HC2 := Lib.hid ((HC1.out.ev h2).ev (((Ev.refl _).alloc (pgO c) : Ev w2 _).alloc (flO 0 0)))
    have HD2 := Lib.hid ((BP.new w2 c).ev ((Ev.refl _).alloc (flO 0 0)))
    have HG2 := Lib.hid (BF.new1 w2 0 0 (pgO c))
    clear h2
    obtain ⟨-, h8, -⟩ := HC2.out
    have c0 := h8 0 (by omega)
    have c1 := h8 1 (by omega)
    have c2 := h8 2 (by omega)
    have c3 := h8 3 (by omega)
    have c4 := h8 4 (by omega)
    have c5 := h8 5 (by omega)
    have c6 := h8 6 (by omega)
    have c7 := h8 7 (by omega)
    clear h8
    obtain ⟨-, h8, -⟩ := HD2.out
    have d0 := h8 0 (by omega)
    have d1 := h8 1 (by omega)
    have d2 := h8 2 (by omega)
    have d3 := h8 3 (by omega)
    have d4 := h8 4 (by omega)
    have d5 := h8 5 (by omega)
    have d6 := h8 6 (by omega)
    have d7 := h8 7 (by omega)
    clear h8
    obtain ⟨-, b0, b1⟩ := HG2.out
    have hq := HQ.out
    have hf := HF.out
    go_wp2_with fail
    refine (awake_any _).mono ?_
    rintro e w3 ⟨rfl, h3⟩
    have HE3 := Lib.hid (HE2.out.step h3)
    clear h3
    go_wp2_with fail
    go_ret
    exact ⟨rfl, HE3.out⟩
  · have hs' : ¬ 200 < (s.size : Int) := by omega
    have hbk := HBK.out her
    subst her
    clear hs HBK
    have HT1 : Hid (∀ W, Calls Try.prog 29 #[pg d] W fun e w' => e = .returned (.string s) ∧ Ev W w') := Lib.hid fun W => by have h := HT.out d W; rwa [hbk] at h
    clear hbk
    have q1 : (s == s) = true := ba_beq s
    go_enter Try.func9, Try.ntmps9
    go_wp2_with fail
    refine (H0.out _).mono ?_
    rintro e w1 ⟨rfl, h1⟩
    have HC1 := Lib.hid (HC.out.ev h1)
    have HE1 := Lib.hid (HE0.out.step h1)
    clear h1
    go_wp2_with fail
    refine (H1.out _).mono ?_
    rintro e w2 ⟨rfl, h2⟩
    have HE2 := Lib.hid ((HE1.out.step h2).alloc (pgO c) |>.alloc (flO 0 0))
    have HC2 := Lib.hid ((HC1.out.ev h2).ev (((Ev.refl _).alloc (pgO c) : Ev w2 _).alloc (flO 0 0)))
    have HD2 := Lib.hid ((BP.new w2 c).ev ((Ev.refl _).alloc (flO 0 0)))
    have HG2 := Lib.hid (BF.new1 w2 0 0 (pgO c))
    clear h2
    obtain ⟨-, h8, -⟩ := HC2.out
    have c0 := h8 0 (by omega)
    have c1 := h8 1 (by omega)
    have c2 := h8 2 (by omega)
    have c3 := h8 3 (by omega)
    have c4 := h8 4 (by omega)
    have c5 := h8 5 (by omega)
    have c6 := h8 6 (by omega)
    have c7 := h8 7 (by omega)
    clear h8
    obtain ⟨-, h8, -⟩ := HD2.out
    have d0 := h8 0 (by omega)
    have d1 := h8 1 (by omega)
    have d2 := h8 2 (by omega)
    have d3 := h8 3 (by omega)
    have d4 := h8 4 (by omega)
    have d5 := h8 5 (by omega)
    have d6 := h8 6 (by omega)
    have d7 := h8 7 (by omega)
    clear h8
    obtain ⟨-, b0, b1⟩ := HG2.out
    have hq := HQ.out
    have hf := HF.out
    go_wp2_with fail
    refine (H2.out _).mono ?_
    rintro e w3 ⟨rfl, h3⟩
    have HE3 := Lib.hid ((HE2.out.step h3).alloc (pgO d) |>.alloc (flO 0 a))
    have HD3 := Lib.hid ((BP.new w3 d).ev ((Ev.refl _).alloc (flO 0 a)))
    have HG3 := Lib.hid (BF.new1 w3 0 a (pgO d))
    clear h3
    clear c0 c1 c2 c3 c4 c5 c6 c7 d0 d1 d2 d3 d4 d5 d6 d7
    clear b0 b1
    obtain ⟨-, h8, -⟩ := HD3.out
    have d0 := h8 0 (by omega)
    have d1 := h8 1 (by omega)
    have d2 := h8 2 (by omega)
    have d3 := h8 3 (by omega)
    have d4 := h8 4 (by omega)
    have d5 := h8 5 (by omega)
    have d6 := h8 6 (by omega)
    have d7 := h8 7 (by omega)
    clear h8
    obtain ⟨-, b0, b1⟩ := HG3.out
    go_wp2_with fail
    refine (HT1.out _).mono ?_
    rintro e w4 ⟨rfl, h4⟩
    have HE4 := Lib.hid (HE3.out.step h4)
    clear h4
    clear d0 d1 d2 d3 d4 d5 d6 d7
    clear b0 b1
    go_wp2_with fail
    refine (awake_any _).mono ?_
    rintro e w5 ⟨rfl, h5⟩
    have HE5 := Lib.hid (HE4.out.step h5)
    clear h5
    go_wp2_with fail
    go_ret
    exact ⟨rfl, HE5.out⟩
  · have hs' : ¬ 200 < (s.size : Int) := by omega
    clear hs HBK
    have q1 : (er != 0) = true := by simpa using her
    clear her
    go_enter Try.func9, Try.ntmps9
    go_wp2_with fail
    refine (H0.out _).mono ?_
    rintro e w1 ⟨rfl, h1⟩
    have HC1 := Lib.hid (HC.out.ev h1)
    have HE1 := Lib.hid (HE0.out.step h1)
    clear h1
    go_wp2_with fail
    refine (H1.out _).mono ?_
    rintro e w2 ⟨rfl, h2⟩
    have HE2 := Lib.hid ((HE1.out.step h2).alloc (pgO c) |>.alloc (flO 0 0))
    have HC2 := Lib.hid ((HC1.out.ev h2).ev (((Ev.refl _).alloc (pgO c) : Ev w2 _).alloc (flO 0 0)))
    have HD2 := Lib.hid ((BP.new w2 c).ev ((Ev.refl _).alloc (flO 0 0)))
    have HG2 := Lib.hid (BF.new1 w2 0 0 (pgO c))
    clear h2
    obtain ⟨-, h8, -⟩ := HC2.out
    have c0 := h8 0 (by omega)
    have c1 := h8 1 (by omega)
    have c2 := h8 2 (by omega)
    have c3 := h8 3 (by omega)
    have c4 := h8 4 (by omega)
    have c5 := h8 5 (by omega)
    have c6 := h8 6 (by omega)
    have c7 := h8 7 (by omega)
    clear h8
    obtain ⟨-, h8, -⟩ := HD2.out
    have d0 := h8 0 (by omega)
    have d1 := h8 1 (by omega)
    have d2 := h8 2 (by omega)
    have d3 := h8 3 (by omega)
    have d4 := h8 4 (by omega)
    have d5 := h8 5 (by omega)
    have d6 := h8 6 (by omega)
    have d7 := h8 7 (by omega)
    clear h8
    obtain ⟨-, b0, b1⟩ := HG2.out
    have hq := HQ.out
    have hf := HF.out
    go_wp2_with fail
    refine (H2.out _).mono ?_
    rintro e w3 ⟨rfl, h3⟩
    have HE3 := Lib.hid ((HE2.out.step h3).alloc (pgO d) |>.alloc (flO er a))
    have HD3 := Lib.hid ((BP.new w3 d).ev ((Ev.refl _).alloc (flO er a)))
    have HG3 := Lib.hid (BF.new1 w3 er a (pgO d))
    clear h3
    clear c0 c1 c2 c3 c4 c5 c6 c7 d0 d1 d2 d3 d4 d5 d6 d7
    clear b0 b1
    obtain ⟨-, h8, -⟩ := HD3.out
    have d0 := h8 0 (by omega)
    have d1 := h8 1 (by omega)
    have d2 := h8 2 (by omega)
    have d3 := h8 3 (by omega)
    have d4 := h8 4 (by omega)
    have d5 := h8 5 (by omega)
    have d6 := h8 6 (by omega)
    have d7 := h8 7 (by omega)
    clear h8
    obtain ⟨-, b0, b1⟩ := HG3.out
    go_wp2_with fail
    refine (awake_any _).mono ?_
    rintro e w5 ⟨rfl, h5⟩
    have HE5 := Lib.hid (HE3.out.step h5)
    clear h5
    go_wp2_with fail
    go_ret
    exact ⟨rfl, HE5.out⟩
end Go.Proofs.Ytfclbnaabdlmhaa
