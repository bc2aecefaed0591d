import Derived.Test.YtfclbnaabdlmhaaPA
import Derived.OwnWalk
import Derived.Laws.AppendOwn
import Derived.Laws.OwnMore
namespace Go.Proofs.Ytfclbnaabdlmhaa
open Go.RowKit
theorem own_below {w w' : World} {base : Nat} {e : TypeId} {size : Nat} {v : Value} {n : Nat} {xs : List Value} (h : w.ownsRow base e size v n xs) (hb : Below w.heap.size w w') : w'.ownsRow base e size v n xs :=
  h.kept (row := none) ⟨hb.os, hb.tape, hb.output, hb.size, fun i hi _ => hb.block i hi⟩ (by cases hv : v.ownBlock <;> simp)
theorem Ev.own {w w' : World} {base : Nat} {e : TypeId} {size : Nat} {v : Value} {n : Nat} {xs : List Value} (h : Ev w w') (ho : w.ownsRow base e size v n xs) : w'.ownsRow base e size v n xs := own_below ho h
theorem Ev.grown {w W W' : World} {row : Option Nat} (h : Ev w W) (hg : W.grownBy W' row) (hr : ∀ k, row = some k → w.heap.size ≤ k) : Ev w W' := Below.grown h hg h.sz hr
theorem Ev.cell {w W : World} (e : Ev w W) {p : Addr} (h : p.block < w.heap.size) : W.cell? p = w.cell? p := Below.cell e h
theorem one_cell (w : World) (x : Value) (T : TypeId) : ∀ j u, [x][j]? = some u → (w.alloc (.cells #[x] T)).cell? ((⟨w.heap.size, 0, none⟩ : Addr).add j) = some u := by
  intro j u h
  rcases j with _ | j
  · simp at h
    subst h
    simp [Addr.add]
  · simp at h
theorem own_weaken {w : World} {base base' : Nat} {e : TypeId} {size : Nat} {v : Value} {n : Nat} {xs : List Value} (h : w.ownsRow base e size v n xs) (hb : base' ≤ base) : w.ownsRow base' e size v n xs := by
  refine ⟨h.1, ?_⟩
  rcases h.2 with h0 | ⟨g, cap, cur, h1, h2, h3⟩
  · exact .inl h0
  · exact .inr ⟨g, cap, cur, h1, by omega, h3⟩
theorem info3 : (Try.prog.info? 3).map (fun i => (i.zero, i.size, i.bytes)) = some (some (.int .i64 0), 1, 8) := by kernel_rfl
def IV (l : List Int) : List Value := l.map (Value.int .i64)
def OwnI (w : World) (base : Nat) (v : Value) (L : List Int) : Prop := w.ownsRow base 3 1 v L.length (IV L)
/-- The slice at A reads as the numbers l. -/
def RdI (w : World) (A : Option Addr) (l : List Int) : Prop :=
  l.length ≤ 9223372036854775807 ∧ ∀ j, j < l.length → ∃ b o, A = some ⟨b, o, none⟩ ∧ b < w.heap.size ∧ w.cell? ⟨b, o + j, none⟩ = some (.int .i64 (l.getD j 0))
theorem RdI.ev {w w' : World} {A : Option Addr} {l : List Int} (h : RdI w A l) (e : Ev w w') : RdI w' A l := ⟨h.1, fun j hj => by
  obtain ⟨b, o, h1, h2, h3⟩ := h.2 j hj
  have := e.sz
  exact ⟨b, o, h1, by omega, by rw [e.cell (p := ⟨b, o + j, none⟩) h2]; exact h3⟩⟩
theorem RdI.of_own {w : World} {base : Nat} {v : Value} {L : List Int} (h : OwnI w base v L) (hl : L.length ≤ 9223372036854775807) : ∃ A cap, v = .slice A L.length cap ∧ RdI w A L := by
  rcases h.2 with ⟨rfl, h0⟩ | ⟨g, cap, cur, rfl, hbg, hh, hn, hc, hs, ht⟩
  · have e : L = [] := List.eq_nil_of_length_eq_zero h0
    subst e
    exact ⟨none, 0, rfl, by simp, fun j hj => by simp at hj⟩
  · refine ⟨some ⟨g, 0, none⟩, cap, rfl, hl, fun j hj => ⟨g, 0, rfl, (h.lt g rfl).2, ?_⟩⟩
    rw [Nat.zero_add, World.ownsRow.cellAt h j (by omega)]
    unfold IV
    simp [hj]
set_option maxHeartbeats 400000 in
theorem sameI (A B : Option Addr) (c d : Nat) (l : List Int) (w : World) (hx : RdI w A l) (hy : RdI w B l) :
    Calls Try.prog 24 #[.slice A l.length c, .slice B l.length d] w fun e w' => e = .returned (.bool true) ∧ Ev w w' := by
  have hn := hx.1
  have hq : ((l.length : Int) != (l.length : Int)) = false := by simp
  go_enter Try.func24, Try.ntmps24
  go_wp2
  go_loopw [5] (fun i wr => ∃ k m : Nat, k ≤ l.length ∧ i = .int .i64 k ∧ wr = w.drewN m) (fun i _ => l.length - (intOf i).toNat)
  case atStart => exact ⟨0, 0, Nat.zero_le _, rfl, rfl⟩
  case round =>
    obtain ⟨k, m, hk, rfl, rfl⟩ := hrel
    by_cases hlt : k < l.length
    · obtain ⟨b, o, rfl, hb, c1⟩ := hx.2 k hlt
      obtain ⟨b', o', rfl, hb', c1'⟩ := hy.2 k hlt
      generalize l.getD k 0 = x at *
      have hlt' : (k : Int) < (l.length : Int) := by omega
      have hk0 : 0 ≤ (k : Int) := by omega
      clear hx hy
      go_wp2
      go_quiet (fail)
      go_wp2
      go_roundw
      case rel => exact ⟨k + 1, m + nq, by omega, by go_num, rfl⟩
      case measure => simp [intOf]; omega
    · obtain rfl : k = l.length := by omega
      go_wp2
      go_ret
      exact ⟨rfl, below_drewN (Below.refl _ _) _⟩
theorem row_ge {w : World} {base : Nat} {e : TypeId} {size : Nat} {v : Value} {n : Nat} {xs : List Value} (h : w.ownsRow base e size v n xs) : ∀ g, v.ownBlock = some g → base ≤ g := by
  intro g eg
  rcases h.2 with ⟨rfl, _⟩ | ⟨g', cap, cur, rfl, hb, _, _⟩
  · simp [Value.ownBlock] at eg
  · obtain rfl : g' = g := by simpa [Value.ownBlock] using eg
    exact hb

def dfN (c d : Nat → Nat) (k : Nat) : List Nat := (List.range k).filter fun i => decide (c i ≠ d i)
theorem dfN_succ (c d : Nat → Nat) (k : Nat) : dfN c d (k + 1) = dfN c d k ++ if c k = d k then [] else [k] := by
  unfold dfN
  rw [List.range_succ, List.filter_append]
  congr 1
  by_cases h : c k = d k <;> simp [h]
theorem dfN_len (c d : Nat → Nat) (k : Nat) : (dfN c d k).length ≤ k := by
  have := List.length_filter_le (fun i => decide (c i ≠ d i)) (List.range k)
  simpa [dfN] using this
def dfL (c d : Nat → Nat) (k : Nat) : List Int := (dfN c d k).map fun p : Nat => (p : Int)
theorem dfL_succ (c d : Nat → Nat) (k : Nat) : dfL c d (k + 1) = dfL c d k ++ if c k = d k then [] else [(k : Int)] := by
  unfold dfL
  rw [dfN_succ, List.map_append]
  congr 1
  split <;> simp
theorem dfL_len (c d : Nat → Nat) (k : Nat) : (dfL c d k).length ≤ k := by simpa [dfL] using dfN_len c d k
theorem BP.new1 (w : World) (c : Nat → Nat) (o : Obj) : BP ((w.alloc o).alloc (pgO c)) (w.heap.size + 1) c := by
  have h := BP.new (w.alloc o) c
  have e : (w.alloc o).heap.size = w.heap.size + 1 := by simp
  rwa [e] at h
theorem BP.grown {W W' : World} {b : Nat} {c : Nat → Nat} {row : Option Nat} (h : BP W b c) (hg : W.grownBy W' row) (hne : row ≠ some b) : BP W' b c := by
  have hb : W'.heap[b]? = W.heap[b]? := hg.block b h.1 (fun e => hne e.symm)
  exact ⟨Nat.lt_of_lt_of_le h.1 hg.size, fun k hk => by rw [World.cell?_of_block (a := ⟨b, k, none⟩) hb]; exact h.2.1 k hk, fun k => by unfold World.frozen?; simp only []; rw [hb]; exact h.2.2 k⟩
set_option maxHeartbeats 2000000 in
theorem diff_any (c d : Nat → Nat) (w : World) : Calls Try.prog 25 #[pg c, pg d] w fun e w' => ∃ v, e = .returned v ∧ OwnI w' w.heap.size v (dfL c d 8) ∧ Ev w w' := by
  obtain ⟨i0, hi0, hz0, hz1, hz2⟩ := info_parts info3
  have HC0 := Lib.hid ((BP.new w c).ev ((Ev.refl _).alloc (pgO d)))
  have HD0 := Lib.hid (BP.new1 w d (pgO c))
  have HE0 : Hid (Ev w ((w.alloc (pgO c)).alloc (pgO d))) := Lib.hid (((Ev.refl w).alloc _).alloc _)
  go_enter Try.func25, Try.ntmps25
  go_wp2_with fail
  go_loopw [5, 7] (fun v i wr => ∃ k : Nat, k ≤ 8 ∧ i = .int .i64 k ∧ wr.ownsRow (w.heap.size + 2) 3 1 v (dfL c d k).length (IV (dfL c d k)) ∧ BP wr w.heap.size c ∧ BP wr (w.heap.size + 1) d ∧ Ev w wr) (fun _ i _ => 8 - (intOf i).toNat)
  case atStart => exact ⟨0, by omega, rfl, World.ownsRow_nil _ _ _ _, HC0.out, HD0.out, HE0.out⟩
  case round =>
    obtain ⟨k, hk, rfl, hown, hbc, hbd, hev⟩ := hrel
    by_cases hlt : k < 8
    · have ck := hbc.2.1 k hlt
      have dk := hbd.2.1 k hlt
      have HOWN := Lib.hid hown
      have HBC := Lib.hid hbc
      have HBD := Lib.hid hbd
      have HEV := Lib.hid hev
      have HS := Lib.hid (dfL_succ c d k)
      have hsl := dfL_len c d k
      have hlt' : (k : Int) < 8 := by omega
      have hk0 : (0 : Int) ≤ (k : Int) := by omega
      clear hown hbc hbd hev
      by_cases hb : c k = d k
      · rw [if_pos hb, List.append_nil] at HS
        rw [← hb] at dk
        clear hb
        generalize c k = x at *
        have hq : ((x : Int) != (x : Int)) = false := by simp
        go_wp2_with fail
        go_quiet (fail)
        go_wp2_with fail
        go_roundw
        case rel => exact ⟨k + 1, by omega, by go_num, by rw [HS.out]; exact Ev.own ((Ev.refl _).drewN nq) HOWN.out, HBC.out.ev ((Ev.refl _).drewN nq), HBD.out.ev ((Ev.refl _).drewN nq), HEV.out.drewN nq⟩
        case measure => simp [intOf]; omega
      · rw [if_neg hb] at HS
        have hq : ((c k : Int) != (d k : Int)) = true := by simp; omega
        generalize c k = x at *
        generalize d k = y at *
        clear hb
        go_wp2_with fail
        go_quiet (fail)
        have HO2 := Lib.hid (Ev.own ((Ev.refl wr).drewN nq) HOWN.out)
        have HE2 := Lib.hid (HEV.out.drewN nq)
        have HC2 := Lib.hid ((HBC.out.ev ((Ev.refl _).drewN nq)).ev ((Ev.refl _).alloc (.cells #[.int .i64 (k : Int)] 3)))
        have HD2 := Lib.hid ((HBD.out.ev ((Ev.refl _).drewN nq)).ev ((Ev.refl _).alloc (.cells #[.int .i64 (k : Int)] 3)))
        have HL := Lib.hid HBD.out.1
        clear ck dk hq
        obtain ⟨W, hW⟩ : ∃ W, W = wr.drewN nq := ⟨_, rfl⟩
        rw [← hW] at HO2 HE2 HC2 HD2 ⊢
        have HLW : Hid (w.heap.size + 2 ≤ W.heap.size) := Lib.hid (by have := HL.out; rw [hW]; simp; omega)
        clear hW
        have H3 : Hid ((dfL c d k).length + 1 ≤ maxLen) := Lib.hid (by unfold maxLen; omega)
        have H4 : Hid (((dfL c d k).length + 1) * 8 ≤ 140737488355328) := Lib.hid (by omega)
        have H5 : Hid (∀ o, w.heap.size + 2 ≤ (W.alloc o).heap.size) := Lib.hid (by intro o; have := HLW.out; simp; omega)
        go_wp2_with (at_builtin; go_loud (refine wpList_append_own _ rfl _ _ 41 rfl (w.heap.size + 2) 3 i0 (.int .i64 0) 1 8 Try.underlying41 hi0 hz0 hz1 hz2 rfl (by decide) _ (dfL c d k).length (IV (dfL c d k)) rfl (HO2.out.alloc _) ⟨W.heap.size, 0, none⟩ 1 1 [.int .i64 (k : Int)] rfl rfl (one_cell _ _ _) (by simp [Value.oneCell']) H3.out H4.out (H5.out _) ?_); intro v1 w4 hown4 hg4 _)
        have hge := row_ge HO2.out
        have HW4 := Lib.hid (Ev.grown (HE2.out.alloc _) hg4 (fun g hg => by have := hge g hg; omega))
        have HC4 := Lib.hid (HC2.out.grown hg4 (fun e => by have := hge _ e; omega))
        have HD4 := Lib.hid (HD2.out.grown hg4 (fun e => by have := hge _ e; omega))
        have HOW4 := Lib.hid hown4
        clear hg4 hown4 hge
        go_wp2_with fail
        go_roundw
        case rel => exact ⟨k + 1, by omega, by go_num, by rw [HS.out]; simpa [IV] using HOW4.out, HC4.out, HD4.out, HW4.out⟩
        case measure => simp [intOf]; omega
    · obtain rfl : k = 8 := by omega
      have HOWN := Lib.hid hown
      have HEV := Lib.hid hev
      clear hown hbc hbd hev
      go_wp2_with fail
      go_ret
      exact ⟨_, rfl, own_weaken HOWN.out (by omega), HEV.out⟩
set_option maxHeartbeats 2000000 in
theorem rdiff_any (c d : Nat → Nat) (w : World) : Calls Try.prog 26 #[pg c, pg d] w fun e w' => ∃ v, e = .returned v ∧ OwnI w' w.heap.size v (dfL c d 8) ∧ Ev w w' := by
  obtain ⟨i0, hi0, hz0, hz1, hz2⟩ := info_parts info3
  have HC0 := Lib.hid ((BP.new w c).ev ((Ev.refl _).alloc (pgO d)))
  have HD0 := Lib.hid (BP.new1 w d (pgO c))
  have HE0 : Hid (Ev w ((w.alloc (pgO c)).alloc (pgO d))) := Lib.hid (((Ev.refl w).alloc _).alloc _)
  go_enter Try.func26, Try.ntmps26
  go_wp2_with fail
  go_loopw [5, 6] (fun v i wr => ∃ k : Nat, k ≤ 8 ∧ i = .int .i64 k ∧ wr.ownsRow (w.heap.size + 2) 3 1 v (dfL c d k).length (IV (dfL c d k)) ∧ BP wr w.heap.size c ∧ BP wr (w.heap.size + 1) d ∧ Ev w wr) (fun _ i _ => 8 - (intOf i).toNat)
  case atStart => exact ⟨0, by omega, rfl, World.ownsRow_nil _ _ _ _, HC0.out, HD0.out, HE0.out⟩
  case round =>
    obtain ⟨k, hk, rfl, hown, hbc, hbd, hev⟩ := hrel
    by_cases hlt : k < 8
    · have ck := hbc.2.1 k hlt
      have dk := hbd.2.1 k hlt
      have HOWN := Lib.hid hown
      have HBC := Lib.hid hbc
      have HBD := Lib.hid hbd
      have HEV := Lib.hid hev
      have HS := Lib.hid (dfL_succ c d k)
      have hsl := dfL_len c d k
      have hlt' : (k : Int) < 8 := by omega
      have hk0 : (0 : Int) ≤ (k : Int) := by omega
      clear hown hbc hbd hev
      by_cases hb : c k = d k
      · rw [if_pos hb, List.append_nil] at HS
        rw [← hb] at dk
        clear hb
        generalize c k = x at *
        have hq : ((x : Int) != (x : Int)) = false := by simp
        go_wp2_with fail
        go_quiet (fail)
        go_wp2_with fail
        go_roundw
        case rel => exact ⟨k + 1, by omega, by go_num, by rw [HS.out]; exact Ev.own ((Ev.refl _).drewN nq) HOWN.out, HBC.out.ev ((Ev.refl _).drewN nq), HBD.out.ev ((Ev.refl _).drewN nq), HEV.out.drewN nq⟩
        case measure => simp [intOf]; omega
      · rw [if_neg hb] at HS
        have hq : ((c k : Int) != (d k : Int)) = true := by simp; omega
        generalize c k = x at *
        generalize d k = y at *
        clear hb
        go_wp2_with fail
        go_quiet (fail)
        have HO2 := Lib.hid (Ev.own ((Ev.refl wr).drewN nq) HOWN.out)
        have HE2 := Lib.hid (HEV.out.drewN nq)
        have HC2 := Lib.hid ((HBC.out.ev ((Ev.refl _).drewN nq)).ev ((Ev.refl _).alloc (.cells #[.int .i64 (k : Int)] 3)))
        have HD2 := Lib.hid ((HBD.out.ev ((Ev.refl _).drewN nq)).ev ((Ev.refl _).alloc (.cells #[.int .i64 (k : Int)] 3)))
        have HL := Lib.hid HBD.out.1
        clear ck dk hq
        obtain ⟨W, hW⟩ : ∃ W, W = wr.drewN nq := ⟨_, rfl⟩
        rw [← hW] at HO2 HE2 HC2 HD2 ⊢
        have HLW : Hid (w.heap.size + 2 ≤ W.heap.size) := Lib.hid (by have := HL.out; rw [hW]; simp; omega)
        clear hW
        have H3 : Hid ((dfL c d k).length + 1 ≤ maxLen) := Lib.hid (by unfold maxLen; omega)
        have H4 : Hid (((dfL c d k).length + 1) * 8 ≤ 140737488355328) := Lib.hid (by omega)
        have H5 : Hid (∀ o, w.heap.size + 2 ≤ (W.alloc o).heap.size) := Lib.hid (by intro o; have := HLW.out; simp; omega)
        go_wp2_with (at_builtin; go_loud (refine wpList_append_own _ rfl _ _ 41 rfl (w.heap.size + 2) 3 i0 (.int .i64 0) 1 8 Try.underlying41 hi0 hz0 hz1 hz2 rfl (by decide) _ (dfL c d k).length (IV (dfL c d k)) rfl (HO2.out.alloc _) ⟨W.heap.size, 0, none⟩ 1 1 [.int .i64 (k : Int)] rfl rfl (one_cell _ _ _) (by simp [Value.oneCell']) H3.out H4.out (H5.out _) ?_); intro v1 w4 hown4 hg4 _)
        have hge := row_ge HO2.out
        have HW4 := Lib.hid (Ev.grown (HE2.out.alloc _) hg4 (fun g hg => by have := hge g hg; omega))
        have HC4 := Lib.hid (HC2.out.grown hg4 (fun e => by have := hge _ e; omega))
        have HD4 := Lib.hid (HD2.out.grown hg4 (fun e => by have := hge _ e; omega))
        have HOW4 := Lib.hid hown4
        clear hg4 hown4 hge
        go_wp2_with fail
        go_roundw
        case rel => exact ⟨k + 1, by omega, by go_num, by rw [HS.out]; simpa [IV] using HOW4.out, HC4.out, HD4.out, HW4.out⟩
        case measure => simp [intOf]; omega
    · obtain rfl : k = 8 := by omega
      have HOWN := Lib.hid hown
      have HEV := Lib.hid hev
      clear hown hbc hbd hev
      go_wp2_with fail
      go_ret
      exact ⟨_, rfl, own_weaken HOWN.out (by omega), HEV.out⟩
end Go.Proofs.Ytfclbnaabdlmhaa
