import Derived.Test.YtkneonfhikcdkaaDoorO7
import Derived.OwnWalk
import Derived.Laws.AppendOwn
namespace Go.Proofs.YtkneonfhikcdkaaDoor
open Go.RowKit

theorem own_below {w w' : World} {base : Nat} {e : TypeId} {size : Nat} {v : Value} {n : Nat} {xs : List Value} (h : w.ownsRow base e size v n xs) (hb : Below w.heap.size w w') : w'.ownsRow base e size v n xs :=
  h.kept (row := none) ⟨hb.os, hb.tape, hb.output, hb.size, fun i hi _ => hb.block i hi⟩ (by cases hv : v.ownBlock <;> simp)
theorem bk_cells (w : World) (x y : Int) : ∀ j u, [Value.int .i64 x, .int .i64 y][j]? = some u → (w.alloc (.cells #[.int .i64 x, .int .i64 y] 28)).cell? ((⟨w.heap.size, 0, none⟩ : Addr).add j) = some u := by
  intro j u h
  rcases j with _ | _ | j
  · simp at h
    subst h
    simp [Addr.add]
  · simp at h
    subst h
    simp [Addr.add]
  · simp at h
/-- the blocks of a row of its own -/
def OwnB (w : World) (base : Nat) (v : Value) (L : List Value) : Prop := ∃ n, w.ownsRow base 28 2 v n L
def cutE (f t : Int) : Int := if f < 0 ∨ t < f ∨ 256 < t then 2 else 0
set_option maxRecDepth 100000 in
set_option maxHeartbeats 1000000 in
theorem cut_any (f t : Int) (w : World) (hT : Tab w) (h2 : 2 ≤ w.heap.size) :
    Calls Tryd.prog 24 #[.int .i64 f, .int .i64 t] w fun e w' => ∃ v, e = .returned (.tuple #[v, .int .i64 (cutE f t)]) ∧ OwnB w' w.heap.size v (if cutE f t = 0 then cutC 256 f t else []) ∧ Ev w w' := by
  obtain ⟨i0, hi0, hz0, hz1, hz2⟩ := info_parts info28
  by_cases h : f < 0 ∨ t < f ∨ 256 < t
  · have e1 : cutE f t = 2 := by unfold cutE; rw [if_pos h]
    rw [e1, if_neg (by decide)]
    go_enter Tryd.func24, Tryd.ntmps24
    go_wp2_with fail
    all_goals first | (exfalso; omega) | (go_ret2; exact ⟨_, rfl, ⟨0, rfl, .inl ⟨rfl, rfl⟩⟩, Ev.refl _⟩)
  · have e1 : cutE f t = 0 := by unfold cutE; rw [if_neg h]
    rw [e1, if_pos rfl]
    have HT := Lib.hid hT
    have f0 : 0 ≤ f := by omega
    have ft : f ≤ t := by omega
    have t1 : t ≤ 256 := by omega
    clear h e1 hT
    go_enter Tryd.func24, Tryd.ntmps24
    go_wp2_with fail
    go_loopw [6, 7] (fun v i wr => ∃ g a k xs, f ≤ a ∧ a ≤ t ∧ i = .int .i64 a ∧ xs ++ cutC g a t = cutC 256 f t ∧ wr.ownsRow w.heap.size 28 2 v k xs ∧ t - a ≤ g ∧ (k : Int) ≤ a ∧ Ev w wr) (fun _ i _ => (t - intOf i).toNat)
    case atStart => exact ⟨256, f, 0, [], by omega, by omega, rfl, rfl, ⟨rfl, .inl ⟨rfl, rfl⟩⟩, by omega, by omega, Ev.refl _⟩
    case round =>
      obtain ⟨g, a, k, xs, fa, at', rfl, hx, hown, hg, hk, hev⟩ := hrel
      by_cases hlt : a < t
      · obtain ⟨o0, o6, osz⟩ := ordV_bd a t (by omega) hlt t1
        obtain ⟨s1, s2⟩ := sz_bd (ordV a t)
        obtain ⟨c0, c1⟩ := ctzI_bd a (by omega) (by omega)
        obtain ⟨b0, b1⟩ := blI_bd (t - a) (by omega) (by omega)
        obtain ⟨g, rfl⟩ : ∃ g', g = g' + 1 := ⟨g - 1, by omega⟩
        have hc : cutC (g + 1) a t = .int .i64 a :: .int .i64 (ordV a t) :: cutC g (a + sz (ordV a t)) t := by rw [cutC, if_pos hlt]
        rw [hc] at hx
        have a0 : 0 ≤ a := by omega
        have hd : 0 ≤ t - a := by omega
        have hwd : IntKind.u64.wrap (t - a) = t - a := by rw [IntKind.wrap_u64]; omega
        have HTZ := Lib.hid (tzs_any a wr a0 (by omega) (HT.out.ev h2 hev))
        have HLN : Hid (Calls Tryd.prog 38 #[.int .u64 (t - a)] wr fun e w' => e = .returned (.int .i64 (blI (t - a))) ∧ wr = w') := Lib.hid (len_any (t - a) wr (by omega) (by omega))
        have HSZ := Lib.hid fun W => size_any (ordV a t) W o0 o6
        have HO : Hid (min (min (ctzI a) (blI (t - a) - 1)) 6 = ordV a t) := Lib.hid rfl
        have hsz : w.heap.size ≤ wr.heap.size := hev.size
        have HX := Lib.hid hx
        have HEV := Lib.hid hev
        have HOWN := Lib.hid hown
        clear hc hx hev hown
        generalize ordV a t = o at *
        generalize ctzI a = c at *
        generalize blI (t - a) = b at *
        generalize sz o = z at *
        have H0 : Hid (∀ p, (wr.alloc (.cells #[.int .i64 a, .int .i64 p] 28)).ownsRow w.heap.size 28 2 u6 k xs) := Lib.hid fun p => HOWN.out.alloc _
        have H1 := Lib.hid fun p => bk_cells wr a p
        have H2 : Hid (∀ p, ∀ u ∈ [Value.int .i64 a, .int .i64 p], u.oneCell' = true) := Lib.hid (by intro p; simp [Value.oneCell'])
        have H3 := Lib.hid (show k + 1 ≤ maxLen from by unfold maxLen; omega)
        have H4 := Lib.hid (show (k + 1) * 16 ≤ 140737488355328 from by omega)
        have H5 : Hid (∀ p, w.heap.size ≤ (wr.alloc (.cells #[.int .i64 a, .int .i64 p] 28)).heap.size) := Lib.hid (by intro p; simp; omega)
        have HB : Hid (∀ p, Ev w (wr.alloc (.cells #[.int .i64 a, .int .i64 p] 28))) := Lib.hid fun p => HEV.out.alloc _
        have hcs : (o = c ∧ o ≤ b - 1 ∧ o ≤ 6) ∨ (b = o + 1 ∧ o < c ∧ o ≤ 6) ∨ (6 = o ∧ 6 < c ∧ 6 < b - 1) := by have := HO.out; omega
        clear HO
        rcases hcs with ⟨rfl, p1, p2⟩ | ⟨rfl, p1, p2⟩ | ⟨rfl, p1, p2⟩
        all_goals
          go_wp2_with fail
          refine HTZ.out.mono ?_
          rintro e w' ⟨rfl, rfl⟩
          go_wp2_with fail
          refine HLN.out.mono ?_
          rintro e w' ⟨rfl, rfl⟩
          go_wp2_with (at_builtin; go_loud (refine wpList_append_own _ rfl (.tmp 34) (.tmp 38) 33 rfl w.heap.size 28 i0 (bk 0 0) 2 16 Tryd.underlying33 hi0 hz0 hz1 hz2 rfl (by decide) u6 k xs rfl (H0.out _) ⟨wr.heap.size, 0, none⟩ 1 1 [.int .i64 a, .int .i64 _] rfl rfl (H1.out _) (H2.out _) H3.out H4.out (H5.out _) ?_); intro v1 w4 hown4 hg4 _)
          have HW4 : Ev w w4 := (HB.out _).grown hg4 (H5.out _) (fun g hg => (HOWN.out.lt g hg).1)
          have HW := Lib.hid HW4
          have HOW4 := Lib.hid hown4
          clear HW4 hg4 hown4
          refine (HSZ.out _).mono ?_
          rintro e w' ⟨rfl, rfl⟩
          go_wp2_with fail
          go_roundw
          case rel => exact ⟨g, a + z, k + 1, _, by omega, by omega, rfl, by rw [List.append_assoc]; exact HX.out, HOW4.out, by omega, by omega, HW.out⟩
          case measure => simp [intOf]; omega
      · obtain rfl : a = t := by omega
        have HX := Lib.hid hx
        have HEV := Lib.hid hev
        have HOWN := Lib.hid hown
        clear hx hev hown
        have HC : Hid (cutC g a a = []) := Lib.hid (cutC_end g a a (by omega))
        go_wp2_with fail
        go_ret2
        refine ⟨_, rfl, ⟨k, ?_⟩, HEV.out⟩
        rw [← HX.out, HC.out, List.append_nil]
        exact HOWN.out
end Go.Proofs.YtkneonfhikcdkaaDoor
