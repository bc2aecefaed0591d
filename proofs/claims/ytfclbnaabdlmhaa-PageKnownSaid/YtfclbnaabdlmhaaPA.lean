import Derived.Test.YtfclbnaabdlmhaaP9
import Derived.Deep.RegionWith
namespace Go.Proofs.Ytfclbnaabdlmhaa
open Go.RowKit
abbrev zO : Obj := .cells #[.int .u64 0, .int .u64 0, .int .u64 0, .int .u64 0, .int .u64 0, .int .u64 0, .int .u64 0, .int .u64 0] 24
abbrev pgA (c : Nat → Nat) : Array Value := #[.int .u64 (c 0 : Int), .int .u64 (c 1 : Int), .int .u64 (c 2 : Int), .int .u64 (c 3 : Int), .int .u64 (c 4 : Int), .int .u64 (c 5 : Int), .int .u64 (c 6 : Int), .int .u64 (c 7 : Int)]
theorem pgA_one (c : Nat → Nat) : (pgA c).all (·.oneCell') = true := by simp [Value.oneCell']
theorem BP.set {W : World} {b : Nat} {d : Nat → Nat} (h : BP W b d) (q u : Nat) (hq : q < 8) : BP (W.setCell ⟨b, q, none⟩ (.int .u64 (u : Int))) b (upd d q u) := by
  obtain ⟨h0, h1, h2⟩ := h
  refine ⟨by simpa using h0, fun k hk => ?_, fun k => by rw [World.frozen?_setCell]; exact h2 k⟩
  unfold upd
  by_cases e : k = q
  · subst e
    rw [if_pos rfl]
    exact World.cell?_setCell_same _ _ _ (h1 k hk)
  · rw [if_neg e, World.cell?_setCell_other _ _ _ _ (by intro x; injection x with _ x; exact e x.symm)]
    exact h1 k hk
theorem BP.far {W : World} {b : Nat} {d : Nat → Nat} (h : BP W b d) {p : Addr} (hp : p.block ≠ b) (v : Value) : BP (W.setCell p v) b d := by
  obtain ⟨h0, h1, h2⟩ := h
  exact ⟨by simpa using h0, fun k hk => by rw [World.cell?_setCell_far _ _ _ _ hp]; exact h1 k hk, fun k => by rw [World.frozen?_setCell]; exact h2 k⟩
/-- a word with one byte changed, by its bytes -/
def wput (x s z : Nat) : Nat := num (fun i => if i = s then z % 256 else x / 256 ^ i % 256) 0 8
theorem wput_lt (x s z : Nat) : wput x s z < 18446744073709551616 := num_lt (b := fun i => if i = s then z % 256 else x / 256 ^ i % 256) (fun i => by simp only []; split <;> omega) 0 8
theorem wput_byte (x s z t : Nat) (ht : t < 8) : wput x s z / 256 ^ t % 256 = if t = s then z % 256 else x / 256 ^ t % 256 := by
  have := byt_num (b := fun i => if i = s then z % 256 else x / 256 ^ i % 256) (fun i => by simp only []; split <;> omega) 0 8 t ht
  unfold wput
  rw [this]; simp
theorem num8 (f : Nat → Nat) : num f 0 8 = f 0 + f 1 * 256 + f 2 * 65536 + f 3 * 16777216 + f 4 * 4294967296 + f 5 * 1099511627776 + f 6 * 281474976710656 + f 7 * 72057594037927936 := by
  have e : num f 0 8 = 0 + f (0 + 0) * 256 ^ 0 + f (0 + 1) * 256 ^ 1 + f (0 + 2) * 256 ^ 2 + f (0 + 3) * 256 ^ 3 + f (0 + 4) * 256 ^ 4 + f (0 + 5) * 256 ^ 5 + f (0 + 6) * 256 ^ 6 + f (0 + 7) * 256 ^ 7 := rfl
  rw [e]
  simp
theorem num_put (f : Nat → Nat) (s z : Nat) (hs : s < 8) : num f 0 8 + z * 256 ^ s = num (fun i => if i = s then z else f i) 0 8 + f s * 256 ^ s ∧ f s * 256 ^ s ≤ num f 0 8 := by
  rw [num8, num8]
  rcases (show s = 0 ∨ s = 1 ∨ s = 2 ∨ s = 3 ∨ s = 4 ∨ s = 5 ∨ s = 6 ∨ s = 7 by omega) with rfl | rfl | rfl | rfl | rfl | rfl | rfl | rfl
  all_goals
    simp only [Nat.reduceEqDiff, if_true, if_false, Nat.reducePow]
    omega
theorem wput_eq (x s z : Nat) (hx : x < 18446744073709551616) (hs : s < 8) : x + (z % 256) * 256 ^ s = wput x s z + (x / 256 ^ s % 256) * 256 ^ s ∧ (x / 256 ^ s % 256) * 256 ^ s ≤ x := by
  have e : num (fun i => x / 256 ^ i % 256) 0 8 = x := by rw [num_dig]; exact Nat.mod_eq_of_lt hx
  have h := num_put (fun i => x / 256 ^ i % 256) s (z % 256) hs
  rw [e] at h
  exact h
theorem put_word (x s z : Nat) (hx : x < 18446744073709551616) (hs : s < 8) :
    IntKind.u64.wrap (IntKind.u64.wrap ((x : Int) - IntKind.u64.wrap (((x / 256 ^ s % 256 : Nat) : Int) * 2 ^ (8 * s))) + IntKind.u64.wrap ((z : Int) % 256 * 2 ^ (8 * s))) = (wput x s z : Int) := by
  obtain ⟨e1, e2⟩ := wput_eq x s z hx hs
  have e3 := wput_lt x s z
  have p : (2 : Int) ^ (8 * s) = ((256 ^ s : Nat) : Int) := by rw [show (256 : Nat) ^ s = 2 ^ (8 * s) from by rw [Nat.pow_mul], Int.natCast_pow]; rfl
  have h1 : (256 : Nat) ^ s * 256 ≤ 256 ^ 8 := by rw [← Nat.pow_succ]; exact Nat.pow_le_pow_right (by omega) (by omega)
  have h2 : (256 : Nat) ^ 8 = 18446744073709551616 := by decide
  have h3 : z % 256 * 256 ^ s ≤ 255 * 256 ^ s := Nat.mul_le_mul_right _ (by omega)
  rw [p, show ((z : Int) % 256) = ((z % 256 : Nat) : Int) from by omega, ← Int.natCast_mul, ← Int.natCast_mul]
  generalize x / 256 ^ s % 256 * 256 ^ s = A at *
  generalize z % 256 * 256 ^ s = B at *
  generalize wput x s z = R at *
  rw [wraps_u64 (A : Int) (by omega) (by omega), wraps_u64 (B : Int) (by omega) (by omega), wraps_u64 ((x : Int) - A) (by omega) (by omega), wraps_u64 _ (by omega) (by omega)]
  omega
theorem div_step (v k : Nat) : v / 256 ^ (k + 1) = v / 256 ^ k / 256 := by rw [Nat.pow_succ, Nat.div_div_eq_div_mul]
theorem upd_byt (b d : Nat → Nat) (a k v z : Nat) (hby : ∀ j, byt d j = pb b a k v j) (hz : z = v / 256 ^ k) (j : Nat) :
    byt (upd d ((a + k) / 8) (wput (d ((a + k) / 8)) ((a + k) % 8) z)) j = pb b a (k + 1) v j := by
  have e : byt (upd d ((a + k) / 8) (wput (d ((a + k) / 8)) ((a + k) % 8) z)) j = if j = a + k then z % 256 else byt d j := by
    unfold byt upd
    by_cases h : j / 8 = (a + k) / 8
    · rw [if_pos h, wput_byte _ _ _ _ (by omega), ← h]
      by_cases h2 : j = a + k
      · rw [if_pos h2, if_pos (by rw [h2])]
      · rw [if_neg h2, if_neg (by omega)]
    · rw [if_neg h, if_neg (by intro x; exact h (by rw [x]))]
  rw [e, hby]
  unfold pb
  by_cases h : j = a + k
  · subst h
    rw [if_pos rfl, if_pos (by omega), show a + k - a = k from by omega, hz]
  · rw [if_neg h]
    by_cases h2 : a ≤ j ∧ j < a + k
    · rw [if_pos h2, if_pos (by omega)]
    · rw [if_neg h2, if_neg (by omega)]
set_option maxRecDepth 100000 in
set_option maxHeartbeats 4000000 in
theorem rputb_ok (c : Nat → Nat) (a n v : Nat) (w : World) (hP : Pg c) (h1 : 1 ≤ n) (h2 : n ≤ 8) (h3 : a + n ≤ 64) (hv : v < 18446744073709551616) :
    Calls Try.prog 21 #[pg c, .int .i64 (a : Int), .int .i64 (n : Int), .int .u64 (v : Int)] w fun e w' => e = .returned (.tuple #[pg (wrd (pb (byt c) a n v)), .int .i64 0]) ∧ Ev w w' := by
  have H1 := Lib.hid fun W => rin_yes a n W (by omega)
  have HP := Lib.hid hP
  clear hP
  go_enter Try.func21, Try.ntmps21
  go_wp2_with fail
  refine (H1.out _).mono ?_
  rintro e w1 ⟨rfl, rfl⟩
  go_wp2_with fail
  go_loopw [3, 10] (fun x i wr => ∃ (k : Nat) (d : Nat → Nat), k ≤ n ∧ i = .int .i64 k ∧ x = .int .u64 ((v / 256 ^ k : Nat) : Int) ∧ BP wr w.heap.size d ∧ wr.heap[w.heap.size + 1]? = some zO ∧ Pg d ∧ (∀ j, byt d j = pb (byt c) a k v j) ∧ Ev w wr) (fun _ i _ => n - (intOf i).toNat)
  case atStart =>
    exact ⟨0, c, by omega, rfl, by simp, (BP.new w c).ev ((Ev.refl _).alloc _), heap_alloc2_new w _ _, HP.out, fun j => by rw [pb0], ((Ev.refl _).alloc _).alloc _⟩
  case round =>
    obtain ⟨k, d, hk, rfl, rfl, hb, hb2, hd, hby, hev⟩ := hrel
    by_cases hlt : k < n
    · have hlt' : (k : Int) < n := by omega
      have HB := Lib.hid hb
      have HB2 := Lib.hid hb2
      have HD := Lib.hid hd
      have HBY := Lib.hid hby
      have HEV := Lib.hid hev
      obtain ⟨-, hc, hf⟩ := hb
      have cq := hc ((a + k) / 8) (by omega)
      have fq := hf ((a + k) / 8)
      have c0 := hc 0 (by omega)
      have c1 := hc 1 (by omega)
      have c2 := hc 2 (by omega)
      have c3 := hc 3 (by omega)
      have c4 := hc 4 (by omega)
      have c5 := hc 5 (by omega)
      have c6 := hc 6 (by omega)
      have c7 := hc 7 (by omega)
      have HO := Lib.hid fun z W h => one_at d (a + k) z W hd (by omega) h
      have hq : ((a + k) / 8 : Nat) < 8 := by omega
      have hq1 : (0 : Int) ≤ ((a : Int) + (k : Int)) / 8 := by omega
      have hq2 : ((a : Int) + (k : Int)) / 8 < 8 := by omega
      have hq3 : (((a : Int) + (k : Int)) / 8).toNat = (a + k) / 8 := by omega
      have HW := Lib.hid (show ∀ z : Nat, _ from fun z => put_word (d ((a + k) / 8)) ((a + k) % 8) z (hd _) (by omega))
      have HU := Lib.hid fun z hz => upd_byt (byt c) d a k v z hby hz
      have HYE : Hid (byt d (a + k) = d ((a + k) / 8) / 256 ^ ((a + k) % 8) % 256) := Lib.hid rfl
      have HX := Lib.hid (div_step v k)
      clear hc hf hb2 hby hev hd
      have hx : v / 256 ^ k < 18446744073709551616 := Nat.lt_of_le_of_lt (Nat.div_le_self _ _) hv
      have HXE : Hid (v / 256 ^ k = v / 256 ^ k) := Lib.hid rfl
      generalize hxx : v / 256 ^ k = x at *
      have HXX := Lib.hid hxx
      clear hxx HXE
      have HZ := Lib.hid (show (a : Int) + (k : Int) = ((a + k : Nat) : Int) by omega)
      have HQ := Lib.hid hq
      go_wp2_with fail
      have e1 : ((a : Int) + (k : Int)).tdiv 8 = ((a : Int) + (k : Int)) / 8 := Int.tdiv_eq_ediv_of_nonneg (by omega)
      have e2 : IntKind.i64.wrap (((a : Int) + (k : Int)) / 8) = ((a : Int) + (k : Int)) / 8 := IntWalk.i64_in _ (by omega)
      have e3 : IntKind.i64.wrap ((a : Int) + (k : Int)) = (a : Int) + (k : Int) := IntWalk.i64_in _ (by omega)
      go_region_with (go_at_call 39; refine (HO.out _ _ HZ.out).mono ?_; rintro e w5 ⟨rfl, hev⟩; have hev := (Ev.refl wr).drew.step hev; obtain ⟨-, hc, hf⟩ := HB.out.ev hev; have dq := hc ((a + k) / 8) HQ.out; have gq := hf ((a + k) / 8); have HEV5 := Lib.hid hev; clear hev hc hf)
      clear e1 e2 e3 cq fq c0 c1 c2 c3 c4 c5 c6 c7
      all_goals go_wp2_with fail
      all_goals go_roundw
      case rel =>
        rw [HYE.out, HW.out x]
        exact ⟨k + 1, _, by omega, by go_num, by rw [HX.out]; rfl, (HB.out.ev HEV5.out).set _ _ HQ.out, (heap_setCell_other _ _ _ _ (by simp)).trans ((HEV5.out.block _ (heap_lt HB2.out)).trans HB2.out), fun j => by
          unfold upd; split
          · exact wput_lt _ _ _
          · exact HD.out j, HU.out x rfl, (HEV.out.step HEV5.out).setC (Nat.le_refl _) _⟩
      case measure => simp [intOf]; omega
      case rel =>
        rw [HYE.out, HW.out x]
        exact ⟨k + 1, _, by omega, by go_num, by rw [HX.out]; rfl, (HB.out.ev HEV5.out).set _ _ HQ.out, (heap_setCell_other _ _ _ _ (by simp)).trans ((HEV5.out.block _ (heap_lt HB2.out)).trans HB2.out), fun j => by
          unfold upd; split
          · exact wput_lt _ _ _
          · exact HD.out j, HU.out x rfl, (HEV.out.step HEV5.out).setC (Nat.le_refl _) _⟩
      case measure => simp [intOf]; omega
      case rel =>
        rw [HYE.out, HW.out x]
        exact ⟨k + 1, _, by omega, by go_num, by rw [HX.out]; rfl, (HB.out.ev HEV5.out).set _ _ HQ.out, (heap_setCell_other _ _ _ _ (by simp)).trans ((HEV5.out.block _ (heap_lt HB2.out)).trans HB2.out), fun j => by
          unfold upd; split
          · exact wput_lt _ _ _
          · exact HD.out j, HU.out x rfl, (HEV.out.step HEV5.out).setC (Nat.le_refl _) _⟩
      case measure => simp [intOf]; omega
    · obtain rfl : k = n := by omega
      obtain ⟨-, hc, hf⟩ := hb
      have HB2 := Lib.hid hb2
      have c0 := hc 0 (by omega)
      have c1 := hc 1 (by omega)
      have c2 := hc 2 (by omega)
      have c3 := hc 3 (by omega)
      have c4 := hc 4 (by omega)
      have c5 := hc 5 (by omega)
      have c6 := hc 6 (by omega)
      have c7 := hc 7 (by omega)
      have HEV := Lib.hid hev
      have HPG : Hid (pg d = pg (wrd (pb (byt c) a k v))) := by
        refine Lib.hid ?_
        have e : ∀ q, d q = wrd (pb (byt c) a k v) q := fun q => by
          have e1 := num_byt d q (hd q)
          have e2 : num (byt d) (q * 8) 8 = num (pb (byt c) a k v) (q * 8) 8 := num_congr 8 fun i _ => hby _
          rw [← e1, e2]; rfl
        rw [show d = wrd (pb (byt c) a k v) from funext e]
      clear hc hf hb2 hev hd hby
      go_wp2_with (refine wpList_store_row rfl 24 (.tmp 8) (.tmp 54) (by rfl) (w.heap.size + 1) (pgA d) (by rfl) (by rfl) 24 _ HB2.out info24 rfl (pgA_one d) ?_)
      refine bodyPost_ret (v := .tuple #[pg d, .int .i64 0]) (results_cell_row2 Try.results21 _ _ (w.heap.size + 1) 24 (pgA d) (0, 0) _ (by rfl) (setRow_heap _ _ _ (pgA d) 24 (0, 0) HB2.out) Try.underlying24 rfl info24) rfl ⟨by rw [HPG.out], HEV.out.setRow (by omega) _⟩
theorem rputb_bad (c : Nat → Nat) (a n : Int) (v : Nat) (w : World) (h : ¬ (1 ≤ n ∧ n ≤ 8 ∧ 0 ≤ a ∧ a ≤ 64 - n)) :
    Calls Try.prog 21 #[pg c, .int .i64 a, .int .i64 n, .int .u64 (v : Int)] w fun e w' => e = .returned (.tuple #[pg (fun _ => 0), .int .i64 2]) ∧ Ev w w' := by
  have H1 := Lib.hid fun W => rin_no a n W h
  clear h
  go_enter Try.func21, Try.ntmps21
  go_wp2_with fail
  refine (H1.out _).mono ?_
  rintro e w1 ⟨rfl, rfl⟩
  go_wp2_with fail
  refine bodyPost_ret (v := .tuple #[pg (fun _ => 0), .int .i64 2]) (by simp [results, Try.results21, go_sem]) rfl ⟨rfl, ?_⟩
  exact ((Ev.refl _).alloc _).alloc _
end Go.Proofs.Ytfclbnaabdlmhaa
