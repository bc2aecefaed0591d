import Derived.Test.YtfclbnaabdlmhaaP7
namespace Go.Proofs.Ytfclbnaabdlmhaa
open Go.RowKit
theorem and63F : ∀ k : Fin 64, bits BinOp.and IntKind.u64 (k.1 : Int) 63 = (k.1 : Int) := by decide +kernel
theorem rot_or (x k : Nat) (hx : x < 18446744073709551616) (hk : k < 64) : bits BinOp.or IntKind.u64 (IntKind.u64.wrap ((x : Int) * 2 ^ k)) ((x : Int) / 2 ^ (64 - k)) = (rot k x : Int) := by
  have h : (18446744073709551616 : Nat) = 2 ^ (64 - k) * 2 ^ k := by rw [← Nat.pow_add, show 64 - k + k = 64 from by omega]
  have e1 : x * 2 ^ k % 18446744073709551616 = x % 2 ^ (64 - k) * 2 ^ k := by rw [h]; exact Nat.mul_mod_mul_right _ _ _
  have e2 : x / 2 ^ (64 - k) < 2 ^ k := Nat.div_lt_of_lt_mul (by rw [← h]; exact hx)
  have e0 : x * 2 ^ k % 18446744073709551616 < 18446744073709551616 := Nat.mod_lt _ (by omega)
  have e3 : x / 2 ^ (64 - k) ≤ x := Nat.div_le_self _ _
  have a1 : IntKind.u64.wrap ((x : Int) * 2 ^ k) = ((x * 2 ^ k % 18446744073709551616 : Nat) : Int) := by
    rw [IntKind.wrap_u64, show ((x : Int) * 2 ^ k) = ((x * 2 ^ k : Nat) : Int) from by rw [Int.natCast_mul, Int.natCast_pow]; rfl]; rfl
  have a2 : ((x : Int) / 2 ^ (64 - k)) = ((x / 2 ^ (64 - k) : Nat) : Int) := by rw [Int.natCast_ediv, Int.natCast_pow]; rfl
  have a3 : ((x * 2 ^ k % 18446744073709551616 : Nat) : Int) % 2 ^ k = 0 := by
    have : (x * 2 ^ k % 18446744073709551616) % 2 ^ k = 0 := by rw [e1]; exact Nat.mul_mod_left _ _
    exact_mod_cast this
  have a4 : ((x / 2 ^ (64 - k) : Nat) : Int) < 2 ^ k := by exact_mod_cast e2
  unfold rot
  rw [a1, a2]
  clear a1 a2 e1 h
  generalize x * 2 ^ k % 18446744073709551616 = p at *
  generalize x / 2 ^ (64 - k) = q at *
  rw [bits_join .u64 64 (by decide) wraps_u64 k _ _ (by omega) a3 (by omega) (by omega) a4 (by omega)]
  exact (Int.natCast_add _ _).symm
theorem rotl_any (x k : Nat) (w : World) (hx : x < 18446744073709551616) (hk : k < 64) : Calls Try.prog 43 #[.int .u64 (x : Int), .int .i64 (k : Int)] w fun e w' => e = .returned (.int .u64 (rot k x : Int)) ∧ w = w' := by
  have ha := and63F ⟨k, hk⟩
  have HR := Lib.hid (rot_or x k hx hk)
  go_enter Try.func43, Try.ntmps43
  go_wp2
  go_ret
  exact ⟨by rw [← HR.out]; rfl, rfl⟩
theorem rotl_at (x k : Nat) (z : Int) (w : World) (hx : x < 18446744073709551616) (hk : k < 64) (hz : z = (k : Int)) : Calls Try.prog 43 #[.int .u64 (x : Int), .int .i64 z] w fun e w' => e = .returned (.int .u64 (rot k x : Int)) ∧ w = w' := by
  subst hz; exact rotl_any x k w hx hk
theorem rt_wrap (y : Nat) (h : y * 2 % 18446744073709551616 + y / 9223372036854775808 < 18446744073709551616) : IntKind.u64.wrap (IntKind.u64.wrap ((y : Int) * 2) + (y : Int) / 9223372036854775808) = ((y * 2 % 18446744073709551616 + y / 9223372036854775808 : Nat) : Int) := by
  rw [IntKind.wrap_u64, IntKind.wrap_u64]; omega
/-- the reference's turning -/
theorem turned_any (x n : Nat) (w : World) (hx : x < 18446744073709551616) (hn : n < 64) : Calls Try.prog 44 #[.int .u64 (x : Int), .int .i64 (n : Int)] w fun e w' => e = .returned (.int .u64 (rot n x : Int)) ∧ w = w' := by
  go_enter Try.func44, Try.ntmps44
  go_wp2
  go_loopw [0, 5] (fun v i wr => ∃ k : Nat, k ≤ n ∧ i = .int .i64 k ∧ v = .int .u64 (rot k x : Int) ∧ w = wr) (fun _ i _ => n - (intOf i).toNat)
  case atStart => exact ⟨0, by omega, rfl, by rw [rot_zero x hx], rfl⟩
  case round =>
    obtain ⟨k, hk, rfl, rfl, rfl⟩ := hrel
    by_cases hlt : k < n
    · have hlt' : (k : Int) < n := by omega
      have hr := rot_lt k x (by omega) hx
      have HS := Lib.hid (rot_step k x (by omega) hx)
      have HL := Lib.hid (rot_lt (k + 1) x (by omega) hx)
      generalize rot k x = y at *
      go_wp2
      go_roundw
      case rel => exact ⟨k + 1, by omega, by go_num, by
        have h1 := HS.out
        have h2 := HL.out
        rw [rt_wrap y (by omega), h1], by first | rfl | trivial⟩
      case measure => simp [intOf]; omega
    · obtain rfl : k = n := by omega
      go_wp2
      go_ret
      exact ⟨rfl, rfl⟩
theorem turned_at (x n : Nat) (z : Int) (w : World) (hx : x < 18446744073709551616) (hn : n < 64) (hz : z = (n : Int)) : Calls Try.prog 44 #[.int .u64 (x : Int), .int .i64 z] w fun e w' => e = .returned (.int .u64 (rot n x : Int)) ∧ w = w' := by
  subst hz; exact turned_any x n w hx hn
theorem row8 {X : Array Value} {f : Nat → Nat} (hs : X.size = 8) (hx : ∀ i, i < 8 → X[i]? = some (.int .u64 (f i : Int))) :
    X = #[.int .u64 (f 0 : Int), .int .u64 (f 1 : Int), .int .u64 (f 2 : Int), .int .u64 (f 3 : Int), .int .u64 (f 4 : Int), .int .u64 (f 5 : Int), .int .u64 (f 6 : Int), .int .u64 (f 7 : Int)] := by
  apply Array.ext
  · rw [hs]; rfl
  · intro i h1 h2
    have h := hx i (by omega)
    rw [Array.getElem?_eq_getElem h1] at h
    injection h with h
    rw [h]
    rcases (show i = 0 ∨ i = 1 ∨ i = 2 ∨ i = 3 ∨ i = 4 ∨ i = 5 ∨ i = 6 ∨ i = 7 by omega) with rfl | rfl | rfl | rfl | rfl | rfl | rfl | rfl <;> rfl
theorem one8 {X : Array Value} {f : Nat → Nat} (hs : X.size = 8) (hx : ∀ i, i < 8 → X[i]? = some (.int .u64 (f i : Int))) : X.all (·.oneCell') = true := by
  rw [Array.all_eq_true]
  intro i hi
  have := hx i (by omega)
  rw [Array.getElem?_eq_getElem hi] at this
  injection this with this
  rw [this]; rfl
theorem box0 (w : World) (x : Value) (t : TypeId) (o2 o3 : Obj) : (((w.alloc (.cells #[x] t)).alloc o2).alloc o3).cell? ⟨w.heap.size, 0, none⟩ = some x := by
  have e : Ev (w.alloc (.cells #[x] t)) _ := ((Ev.refl _).alloc o2).alloc o3
  rw [(bc e).1 _ _ (by simp)]
  simp
theorem mk8 (W : World) : (Instr.makeSlice 62 (.int .i64 8) (.int .i64 8)).run Try.prog W = .ok (.slice (some ⟨W.heap.size, 0, none⟩) 8 8) (W.alloc (.cells (madeCells #[.int .u64 0] 8) 22)) :=
  run_make_row' 62 22 (.int .u64 0) 8 Try.underlying62 info22 rfl .i64 .i64 8 (by omega) (by omega) W
theorem fillf_any (v B k : Nat) (w : World) (hv : v < 18446744073709551616) (hk : k < 8) (hc : w.cell? ⟨B, 0, none⟩ = some (.int .u64 (v : Int))) : Calls Try.prog 42 #[.int .i64 (k : Int), .pointer (some ⟨B, 0, none⟩)] w fun e w' => e = .returned (.int .u64 (rot (k * 8) v : Int)) ∧ Ev w w' := by
  have H := Lib.hid fun z h => rotl_at v (k * 8) z w hv (by omega) h
  go_enter Try.func42, Try.ntmps42
  go_wp2_with fail
  refine (H.out _ (by omega)).mono ?_
  rintro e w1 ⟨rfl, rfl⟩
  go_wp2_with fail
  go_ret
  exact ⟨rfl, Ev.refl _⟩
theorem putf_any (X : Array Value) (b : Nat → Nat) (B k : Nat) (w : World) (hX : IsB X b) (hb : B8 b) (hk : k < 8) (hg : w.heap[B]? = some (.cells X 59 (0, 0))) : Calls Try.prog 41 #[.int .i64 (k : Int), .pointer (some ⟨B, 0, none⟩)] w fun e w' => e = .returned (.int .u64 (wrd b k : Int)) ∧ Ev w w' := by
  have h1 := Lib.hid hg
  have h3 := Lib.hid hX.1
  have HN := Lib.hid fun z W (h : z = ((k * 8 : Nat) : Int)) => show Calls Try.prog 36 #[.agg X, .int .i64 z, .int .i64 8] W fun e w' => e = .returned (.int .u64 (num b (k * 8) 8 : Int)) ∧ Ev W w' from by subst h; exact number_any X b (k * 8) 8 W hX hb (by omega) (by omega)
  clear hg hX
  go_enter Try.func41, Try.ntmps41
  go_wp2_with (refine wpList_load_row rfl 59 (.tmp 1) (by rfl) B (by rfl) 59 X (0, 0) _ h1.out Try.underlying59 rfl (by rw [h3.out]; exact info59) ?_)
  refine (HN.out _ _ (by omega)).mono ?_
  rintro e w1 ⟨rfl, hev⟩
  have HEV := Lib.hid hev
  clear hev
  go_wp2_with fail
  go_ret
  exact ⟨rfl, HEV.out⟩
theorem Ev.below {g : Nat} {w W W' : World} (h : Below g w W) (e : Ev W W') (hg : g ≤ w.heap.size) : Below g w W' := Below.trans h (e.mono (Nat.le_trans hg h.size))
theorem rowIs_ev {w W : World} {b : Nat} {t : TypeId} {n : Nat} {f : Nat → Value} (h : w.rowIs b t n f) (e : Ev w W) : W.rowIs b t n f := h.of_block (e.block _ h.lt)
theorem fillv_any (f : Nat → Nat) (B g : Nat) (w : World) (HC : Hid (∀ (k : Nat) W, k < 8 → Below g w W → Calls Try.prog 42 #[.int .i64 (k : Int), .pointer (some ⟨B, 0, none⟩)] W fun e w' => e = .returned (.int .u64 (f k : Int)) ∧ Ev W w')) (hg : w.rowIs g 22 8 (fun _ => .int .u64 0)) :
    Calls Try.prog 40 #[.slice (some ⟨g, 0, none⟩) 8 8, .func (.func 42) #[] #[.pointer (some ⟨B, 0, none⟩)]] w fun e w' => e = .returned (.slice (some ⟨g, 0, none⟩) 8 8) ∧ w'.rowIs g 22 8 (fun i => .int .u64 (f i : Int)) ∧ Below g w w' := by
  have hgl := hg.lt
  have HG := Lib.hid hg
  clear hg
  go_enter Try.func40, Try.ntmps40
  go_wp2_with fail
  go_loopw [8] (fun i wr => ∃ k : Nat, k ≤ 8 ∧ i = .int .i64 k ∧ wr.rowIs g 22 8 (fun j => .int .u64 (if j < k then (f j : Int) else 0)) ∧ Below g w wr) (fun i _ => 8 - (intOf i).toNat)
  case atStart => exact ⟨0, by omega, rfl, HG.out.congr (fun i hi => by simp), Below.refl _ _⟩
  case round =>
    obtain ⟨k, hk, rfl, hr, hb⟩ := hrel
    by_cases hlt : k < 8
    · have H1 := Lib.hid (HC.out k wr hlt hb)
      have HR := Lib.hid hr
      have HBB := Lib.hid hb
      clear hr hb
      have hlt' : (k : Int) < 8 := by omega
      go_wp2_with fail
      refine H1.out.mono ?_
      rintro e w' ⟨rfl, hev⟩
      have hr := rowIs_ev HR.out hev
      have HBE := Lib.hid (Ev.below HBB.out hev (by omega))
      have c1 := hr.cell hlt
      have f1 := hr.frozen k
      have HR1 := Lib.hid hr
      clear hr hev
      go_wp2_with fail
      go_roundw
      case rel => exact ⟨k + 1, by omega, by go_num, (HR1.out.set k (.int .u64 (f k : Int))).congr (fun i hi => by
        by_cases e : i = k
        · subst e; simp
        · rw [if_neg e]
          by_cases e2 : i < k
          · rw [if_pos e2, if_pos (by omega)]
          · rw [if_neg e2, if_neg (by omega)]), HBE.out.setCell (Nat.le_refl _) _⟩
      case measure => simp [intOf]; omega
    · obtain rfl : k = 8 := by omega
      have HR := Lib.hid hr
      have HBB := Lib.hid hb
      clear hr hb
      go_wp2_with fail
      go_ret
      exact ⟨rfl, HR.out.congr (fun i hi => by simp [hi]), HBB.out⟩
theorem fillb_any (f : Nat → Nat) (B g : Nat) (w : World) (HC : Hid (∀ (k : Nat) W, k < 8 → Below g w W → Calls Try.prog 41 #[.int .i64 (k : Int), .pointer (some ⟨B, 0, none⟩)] W fun e w' => e = .returned (.int .u64 (f k : Int)) ∧ Ev W w')) (hg : w.rowIs g 22 8 (fun _ => .int .u64 0)) :
    Calls Try.prog 40 #[.slice (some ⟨g, 0, none⟩) 8 8, .func (.func 41) #[] #[.pointer (some ⟨B, 0, none⟩)]] w fun e w' => e = .returned (.slice (some ⟨g, 0, none⟩) 8 8) ∧ w'.rowIs g 22 8 (fun i => .int .u64 (f i : Int)) ∧ Below g w w' := by
  have hgl := hg.lt
  have HG := Lib.hid hg
  clear hg
  go_enter Try.func40, Try.ntmps40
  go_wp2_with fail
  go_loopw [8] (fun i wr => ∃ k : Nat, k ≤ 8 ∧ i = .int .i64 k ∧ wr.rowIs g 22 8 (fun j => .int .u64 (if j < k then (f j : Int) else 0)) ∧ Below g w wr) (fun i _ => 8 - (intOf i).toNat)
  case atStart => exact ⟨0, by omega, rfl, HG.out.congr (fun i hi => by simp), Below.refl _ _⟩
  case round =>
    obtain ⟨k, hk, rfl, hr, hb⟩ := hrel
    by_cases hlt : k < 8
    · have H1 := Lib.hid (HC.out k wr hlt hb)
      have HR := Lib.hid hr
      have HBB := Lib.hid hb
      clear hr hb
      have hlt' : (k : Int) < 8 := by omega
      go_wp2_with fail
      refine H1.out.mono ?_
      rintro e w' ⟨rfl, hev⟩
      have hr := rowIs_ev HR.out hev
      have HBE := Lib.hid (Ev.below HBB.out hev (by omega))
      have c1 := hr.cell hlt
      have f1 := hr.frozen k
      have HR1 := Lib.hid hr
      clear hr hev
      go_wp2_with fail
      go_roundw
      case rel => exact ⟨k + 1, by omega, by go_num, (HR1.out.set k (.int .u64 (f k : Int))).congr (fun i hi => by
        by_cases e : i = k
        · subst e; simp
        · rw [if_neg e]
          by_cases e2 : i < k
          · rw [if_pos e2, if_pos (by omega)]
          · rw [if_neg e2, if_neg (by omega)]), HBE.out.setCell (Nat.le_refl _) _⟩
      case measure => simp [intOf]; omega
    · obtain rfl : k = 8 := by omega
      have HR := Lib.hid hr
      have HBB := Lib.hid hb
      clear hr hb
      go_wp2_with fail
      go_ret
      exact ⟨rfl, HR.out.congr (fun i hi => by simp [hi]), HBB.out⟩
set_option maxRecDepth 100000 in
set_option maxHeartbeats 2000000 in
theorem fill_any (v : Nat) (w : World) (hv : v < 18446744073709551616) : Calls Try.prog 22 #[.int .u64 (v : Int)] w fun e w' => e = .returned (pg fun k => rot (k * 8) v) ∧ Ev w w' := by
  have hm := mk8
  have ha := arr24
  go_enter Try.func22, Try.ntmps22
  go_wp2_with fail
  clear hm
  refine (fillv_any (fun k => rot (k * 8) v) w.heap.size _ _ (Lib.hid fun (k : Nat) W hk hb => fillf_any v w.heap.size k W hv hk ((hb.cell (p := ⟨w.heap.size, 0, none⟩) (by simp; omega)).trans (box0 _ _ _ _ _))) (row2 _ _ _ _ _ _)).mono ?_
  rintro e w1 ⟨rfl, ⟨X, hX, hs, hx⟩, hb⟩
  have HE : Ev w w1 := Below.trans (((((Ev.refl w).alloc _).alloc _).alloc _ : Ev w _)) (hb.mono (by omega))
  obtain ⟨Z, hZs, hz⟩ : ∃ Z : Array Value, Z.size = 8 ∧ w1.heap[w.heap.size + 1]? = some (.cells Z 24 (0, 0)) := by
    refine ⟨_, ?_, heap2 hb rfl⟩
    rfl
  clear hb
  have hR := row8 hs hx
  have h1 := Lib.hid hX
  have h2 := Lib.hid hz
  have h3 := Lib.hid hs
  have h4 := Lib.hid hZs
  have h5 := Lib.hid hR
  have h6 := Lib.hid HE
  have h7 := Lib.hid (one8 hs hx)
  clear hX hz hs hx hZs hR HE
  go_wp2_with (first | (refine wpList_load_row rfl 24 (.tmp 6) (by rfl) (w.heap.size + 1 + 1) (by rfl) 22 X (0, 0) _ h1.out Try.underlying24 rfl (by rw [h3.out]; exact info24) ?_) | (refine wpList_store_row rfl 24 (.tmp 2) (.tmp 7) (by rfl) (w.heap.size + 1) X (by rfl) (by rfl) 24 Z h2.out (by rw [h3.out]; exact info24) (by rw [h3.out, h4.out]) h7.out ?_))
  refine bodyPost_ret (v := .agg X) (results_cell_row Try.results22 _ _ (w.heap.size + 1) 24 X (0, 0) _ (by rfl) (setRow_heap _ _ Z X 24 (0, 0) h2.out) Try.underlying24 rfl (by rw [h3.out]; exact info24)) rfl ⟨by rw [h5.out], h6.out.setRow (by omega) _⟩
end Go.Proofs.Ytfclbnaabdlmhaa
