import Derived.Test.YtpgghbabhgfchaaA7
namespace Go.Proofs.Ytpgghbabhgfchaa
open Go.RowKit
theorem jx0 (a b c d : Value) (w : World) : (Instr.index 54 (.agg #[a, b, c, d]) (.int .i64 0)).run Try.prog w = .ok (.agg #[a, b]) w := by kernel_rfl
theorem jx1 (a b c d : Value) (w : World) : (Instr.index 54 (.agg #[a, b, c, d]) (.int .i64 1)).run Try.prog w = .ok (.agg #[c, d]) w := by kernel_rfl
abbrev oR (a b : Int) : Obj := .cells #[.int .i64 a, .int .i64 b] 30
theorem box2_new (w : World) (a b : Int) : (w.alloc (oR a b)).cell? ⟨w.heap.size, 0, none⟩ = some (.int .i64 a) ∧ (w.alloc (oR a b)).cell? ⟨w.heap.size, 1, none⟩ = some (.int .i64 b) ∧ (w.alloc (oR a b)).frozen? ⟨w.heap.size, 0, none⟩ = false ∧ (w.alloc (oR a b)).frozen? ⟨w.heap.size, 1, none⟩ = false := by simp
/-- a box of two numbers -/
def B2 (W : World) (k : Nat) (a b : Int) : Prop := k < W.heap.size ∧ W.cell? ⟨k, 0, none⟩ = some (.int .i64 a) ∧ W.cell? ⟨k, 1, none⟩ = some (.int .i64 b) ∧ W.frozen? ⟨k, 0, none⟩ = false ∧ W.frozen? ⟨k, 1, none⟩ = false
theorem B2.new (w : World) (a b : Int) : B2 (w.alloc (oR a b)) w.heap.size a b := ⟨by simp, box2_new w a b⟩
theorem B2.ev {w W : World} {k : Nat} {a b : Int} (h : B2 w k a b) (e : Ev w W) : B2 W k a b := by
  obtain ⟨h0, h1, h2, h3, h4⟩ := h
  obtain ⟨c, f⟩ := bc e
  exact ⟨Nat.lt_of_lt_of_le h0 e.sz, by rw [c _ _ h0, h1], by rw [c _ _ h0, h2], by rw [f _ _ h0, h3], by rw [f _ _ h0, h4]⟩
theorem b3 (w : World) (a b c d : Int) : B2 (((w.alloc (oR a b)).alloc (oR c d)).alloc (oR 0 0)) w.heap.size a b ∧ B2 (((w.alloc (oR a b)).alloc (oR c d)).alloc (oR 0 0)) (w.heap.size + 1) c d ∧ B2 (((w.alloc (oR a b)).alloc (oR c d)).alloc (oR 0 0)) (w.heap.size + 1 + 1) 0 0 := by
  have s1 : (w.alloc (oR a b)).heap.size = w.heap.size + 1 := by simp
  have s2 : ((w.alloc (oR a b)).alloc (oR c d)).heap.size = w.heap.size + 1 + 1 := by simp
  refine ⟨((B2.new w a b).ev ((Ev.refl _).alloc _)).ev ((Ev.refl _).alloc _), ?_, ?_⟩
  · have := (B2.new (w.alloc (oR a b)) c d).ev ((Ev.refl _).alloc (oR 0 0))
    rwa [s1] at this
  · have := B2.new ((w.alloc (oR a b)).alloc (oR c d)) 0 0
    rwa [s2] at this
theorem Ev.setC {w W : World} (h : Ev w W) {p : Addr} (hp : w.heap.size ≤ p.block) (v : Value) : Ev w (W.setCell p v) := Below.setCell h hp v
theorem fin25 {w w2 : World} {k : Nat} (h : B2 w2 k 0 0) (e : Ev w w2) (hk : w.heap.size ≤ k) (x y : Int) :
    (∀ o, (((w2.setCell ⟨k, 0, none⟩ (.int .i64 x)).setCell ⟨k, 1, none⟩ (.int .i64 y)).alloc o).cell? ⟨k, 0, none⟩ = some (.int .i64 x)) ∧
    (∀ o, (((w2.setCell ⟨k, 0, none⟩ (.int .i64 x)).setCell ⟨k, 1, none⟩ (.int .i64 y)).alloc o).cell? ⟨k, 1, none⟩ = some (.int .i64 y)) ∧
    (∀ o, Ev w (((w2.setCell ⟨k, 0, none⟩ (.int .i64 x)).setCell ⟨k, 1, none⟩ (.int .i64 y)).alloc o)) := by
  obtain ⟨h0, h1, h2, -, -⟩ := h
  have hl : k < ((w2.setCell ⟨k, 0, none⟩ (.int .i64 x)).setCell ⟨k, 1, none⟩ (.int .i64 y)).heap.size := by simpa using h0
  refine ⟨fun o => ?_, fun o => ?_, fun o => ((e.setC hk _).setC hk _).alloc o⟩
  · rw [(bc (al1 _ o)).1 _ _ hl]; simp [h1, go_sem]
  · rw [(bc (al1 _ o)).1 _ _ hl]; simp [h2, go_sem]
set_option maxHeartbeats 4000000 in
theorem overlap_at (a b c d f t F T : Int) (o : Bool) (w : World) (h : 0 ≤ a ∧ a ≤ b ∧ b < 64) (h' : 0 ≤ c ∧ c ≤ d ∧ d < 64) (hf : (a < c ∧ f = c) ∨ (c < a ∧ f = a) ∨ (a = c ∧ f = a)) (ht : (b < d ∧ t = b) ∨ (d < b ∧ t = d) ∨ (b = d ∧ t = b)) (hr : (t < f ∧ F = 0 ∧ T = 0 ∧ o = false) ∨ (f ≤ t ∧ F = f ∧ T = t ∧ o = true)) :
    Calls Try.prog 25 #[rg a b, rg c d] w fun e w' => e = .returned (.tuple #[rg F T, .bool o, .int .i64 0]) ∧ Ev w w' := by
  have H1 : Hid (∀ W, Calls Try.prog 19 #[rg a b] W fun e w' => e = .returned (.int .i64 0) ∧ Ev W w') := Lib.hid fun W => check_ok a b W h
  have H2 : Hid (∀ W, Calls Try.prog 19 #[rg c d] W fun e w' => e = .returned (.int .i64 0) ∧ Ev W w') := Lib.hid fun W => check_ok c d W h'
  have HB := Lib.hid (b3 w a b c d)
  have HE : Hid (Ev w (((w.alloc (oR a b)).alloc (oR c d)).alloc (oR 0 0))) := Lib.hid ((((Ev.refl w).alloc _).alloc _).alloc _)
  have j0 := jx0
  have j1 := jx1
  clear h h'
  go_enter Try.func25, Try.ntmps25
  go_wp2_with fail
  refine wp_loop_rounds 3 ?_
  rw [rounds_succ]
  go_wp2_with fail
  refine (H1.out _).mono ?_
  rintro e w1 ⟨rfl, hev⟩
  have HB1 := Lib.hid ((HB.out.1.ev ((Ev.refl _).alloc _)).ev hev)
  have HB2 := Lib.hid ((HB.out.2.1.ev ((Ev.refl _).alloc _)).ev hev)
  have HB3 := Lib.hid ((HB.out.2.2.ev ((Ev.refl _).alloc _)).ev hev)
  have HE1 := Lib.hid ((HE.out.alloc _).step hev)
  clear hev
  go_wp2_with fail
  rw [rounds_succ]
  go_wp2_with fail
  refine (H2.out _).mono ?_
  rintro e w2 ⟨rfl, hev⟩
  have HB1 := Lib.hid ((HB1.out.ev ((Ev.refl _).alloc _)).ev hev)
  have HB2 := Lib.hid ((HB2.out.ev ((Ev.refl _).alloc _)).ev hev)
  have HB3 := Lib.hid ((HB3.out.ev ((Ev.refl _).alloc _)).ev hev)
  have HE2 := Lib.hid ((HE1.out.alloc _).step hev)
  clear hev
  obtain ⟨l1, c1, c2, -, -⟩ := HB1.out
  obtain ⟨l2, c3, c4, -, -⟩ := HB2.out
  obtain ⟨l3, c5, c6, c7, c8⟩ := HB3.out
  go_wp2_with fail
  rw [rounds_succ]
  have HF := Lib.hid (fin25 HB3.out HE2.out (by omega))
  rcases hr with ⟨hft, rfl, rfl, rfl⟩ | ⟨hft, rfl, rfl, rfl⟩
  · rcases hf with ⟨h1, rfl⟩ | ⟨h1, rfl⟩ | ⟨h1, rfl⟩ <;> rcases ht with ⟨h2, rfl⟩ | ⟨h2, rfl⟩ | ⟨h2, rfl⟩
    all_goals
      (try subst h1)
      (try subst h2)
      go_wp2_with fail
      obtain ⟨t0, t1, hE⟩ := HF.out 0 0
      refine bodyPost_ret (v := .tuple #[rg 0 0, .bool false, .int .i64 0]) (by simp [results, Try.results25, go_sem, t0, t1]) rfl ⟨rfl, ?_⟩
      exact hE _
  · rcases hf with ⟨h1, rfl⟩ | ⟨h1, rfl⟩ | ⟨h1, rfl⟩ <;> rcases ht with ⟨h2, rfl⟩ | ⟨h2, rfl⟩ | ⟨h2, rfl⟩
    all_goals
      (try subst h1)
      (try subst h2)
      go_wp2_with fail
      obtain ⟨t0, t1, hE⟩ := HF.out F T
      refine bodyPost_ret (v := .tuple #[rg F T, .bool true, .int .i64 0]) (by simp [results, Try.results25, go_sem, t0, t1]) rfl ⟨rfl, ?_⟩
      exact hE _
end Go.Proofs.Ytpgghbabhgfchaa
