import Derived.Test.YtkneonfhikcdkaaDoorO9
namespace Go.Proofs.YtkneonfhikcdkaaDoor
open Go.RowKit

/-- what a list's check finds: the error, and the number of the block that has it -/
def chkL : Nat → Int → List (Int × Int) → Int × Int
  | _, _, [] => (0, 0)
  | i, e, (x, o) :: r => if blkE x o ≠ 0 then (blkE x o, i) else if x < e then (8, i) else chkL (i + 1) (x + sz o) r
set_option maxHeartbeats 1000000 in
theorem logs_any (n a b : Int) (w : World) (hn : n ≤ 9223372036854775807) (h0 : 1 ≤ n) (h1 : blI n - 1 = a) (h2 : blI (n - 1) = b) : Calls Tryd.prog 34 #[.int .i64 n, .int .i64 a, .int .i64 b] w fun e w' => e = .returned (.bool true) ∧ w = w' := by
  have H1 : Hid (∀ W, Calls Tryd.prog 11 #[.int .i64 n] W fun e w' => e = .returned (.tuple #[.int .i64 a, .int .i64 0]) ∧ W = w') := Lib.hid fun W => by
    have h := log_any n W hn
    have e1 : logV n = a := by unfold logV; rw [if_neg (by omega)]; exact h1
    have e2 : logE n = 0 := by unfold logE; rw [if_neg (by omega)]
    rwa [e1, e2] at h
  have H2 : Hid (∀ W, Calls Tryd.prog 13 #[.int .i64 n] W fun e w' => e = .returned (.tuple #[.int .i64 b, .int .i64 0]) ∧ W = w') := Lib.hid fun W => by
    have h := least_any n W hn
    have e1 : lstV n = b := by unfold lstV; rw [if_neg (by omega)]; exact h2
    have e2 : logE n = 0 := by unfold logE; rw [if_neg (by omega)]
    rwa [e1, e2] at h
  clear h1 h2
  go_enter Tryd.func34, Tryd.ntmps34
  go_wp2_with fail
  refine (H1.out _).mono ?_
  rintro e w' ⟨rfl, rfl⟩
  go_wp2_with fail
  refine (H2.out _).mono ?_
  rintro e w' ⟨rfl, rfl⟩
  go_wp2_with fail
  go_ret
  exact ⟨rfl, rfl⟩
/-- The slice at A reads as the blocks l. -/
def RdP (w : World) (A : Option Addr) (l : List (Int × Int)) : Prop :=
  l.length ≤ 4000000000 ∧ ∀ j, j < l.length → ∃ b o, A = some ⟨b, o, none⟩ ∧ b < w.heap.size ∧ w.cell? ⟨b, o + j * 2, none⟩ = some (.int .i64 (l.getD j (0, 0)).1) ∧ w.cell? ⟨b, o + j * 2 + 1, none⟩ = some (.int .i64 (l.getD j (0, 0)).2)
theorem RdP.ev {w w' : World} {A : Option Addr} {l : List (Int × Int)} (h : RdP w A l) (e : Ev w w') : RdP w' A l := ⟨h.1, fun j hj => by
  obtain ⟨b, o, h1, h2, h3, h4⟩ := h.2 j hj
  have := e.sz
  exact ⟨b, o, h1, by omega, by rw [e.cell (p := ⟨b, o + j * 2, none⟩) h2]; exact h3, by rw [e.cell (p := ⟨b, o + j * 2 + 1, none⟩) h2]; exact h4⟩⟩
/-- a box that is only read -/
def Bq (W : World) (b : Nat) (x y : Int) : Prop := b < W.heap.size ∧ W.cell? ⟨b, 0, none⟩ = some (.int .i64 x) ∧ W.cell? ⟨b, 1, none⟩ = some (.int .i64 y)
theorem Bq.new (w : World) (x y : Int) (t : TypeId) : Bq (w.alloc (.cells #[.int .i64 x, .int .i64 y] t)) w.heap.size x y := by unfold Bq; simp
theorem Bq.ev {a W : World} {b : Nat} {x y : Int} (h : Bq a b x y) (e : Ev a W) : Bq W b x y :=
  ⟨Nat.lt_of_lt_of_le h.1 e.sz, by rw [e.cell (p := ⟨b, 0, none⟩) h.1]; exact h.2.1, by rw [e.cell (p := ⟨b, 1, none⟩) h.1]; exact h.2.2⟩
set_option maxHeartbeats 2000000 in
theorem checkList_any (A : Option Addr) (cap : Nat) (l : List (Int × Int)) (w : World) (hr : RdP w A l) :
    Calls Tryd.prog 27 #[.slice A l.length cap] w fun e w' => e = .returned (.tuple #[.int .i64 (chkL 0 0 l).1, .int .i64 (chkL 0 0 l).2]) ∧ Ev w w' := by
  obtain ⟨R, hR⟩ : ∃ R, R = chkL 0 0 l := ⟨_, rfl⟩
  rw [← hR]
  have HR := Lib.hid hR
  have HRD := Lib.hid hr
  have hlen := hr.1
  clear hR hr
  go_enter Tryd.func27, Tryd.ntmps27
  go_wp2_with fail
  go_loopw [4, 10] (fun en i wr => ∃ (j : Nat) (e : Int), j ≤ l.length ∧ i = .int .i64 j ∧ en = .int .i64 e ∧ 0 ≤ e ∧ e ≤ 256 ∧ chkL j e (l.drop j) = R ∧ Ev w wr) (fun _ i _ => l.length - (intOf i).toNat)
  case atStart => exact ⟨0, 0, by omega, rfl, rfl, by omega, by omega, HR.out.symm, Ev.refl _⟩
  case round =>
    obtain ⟨j, e, hj, rfl, rfl, e0, e1, hc, hev⟩ := hrel
    by_cases hlt : j < l.length
    · have hd : l.drop j = l.getD j (0, 0) :: l.drop (j + 1) := by rw [List.drop_eq_getElem_cons hlt]; simp [List.getD, hlt]
      rw [hd] at hc
      obtain ⟨b, o, rfl, hb, c1, c2⟩ := (HRD.out.ev hev).2 j hlt
      generalize l.getD j (0, 0) = xo at *
      obtain ⟨x, k⟩ := xo
      simp only at c1 c2
      have hlt' : (j : Int) < (l.length : Int) := by omega
      have hj0 : 0 ≤ (j : Int) := by omega
      have HC := Lib.hid hc
      have HEV := Lib.hid hev
      have H1 : Hid (∀ W, Ev w W → Calls Tryd.prog 22 #[bk x k] W fun e w' => e = .returned (.int .i64 (blkE x k)) ∧ Ev W w') := Lib.hid fun W _ => check_any x k W
      have HN : Hid (∀ T, Bq (wr.alloc (.cells #[.int .i64 x, .int .i64 k] T)) wr.heap.size x k ∧ Ev w (wr.alloc (.cells #[.int .i64 x, .int .i64 k] T))) := Lib.hid fun T => ⟨Bq.new _ _ _ _, hev.alloc _⟩
      clear hc hev hd
      by_cases hk : blkE x k = 0
      · rw [hk] at H1
        obtain ⟨k0, k6, x0, -, xs⟩ := blkE_ok hk
        have HSZ := Lib.hid fun W => size_any k W k0 k6
        obtain ⟨s1, s2⟩ := sz_bd k
        by_cases hx : x < e
        · have hR : R = (8, (j : Int)) := by rw [← HC.out, chkL, if_neg (by simp [hk]), if_pos hx]
          subst hR
          clear HC HR HRD hk
          go_wp2_with fail
          refine (H1.out _ (HN.out _).2).mono ?_
          rintro e w3 ⟨rfl, hev3⟩
          obtain ⟨z0, y0, y1⟩ := (HN.out 28).1.ev hev3
          have hevf := (HN.out 28).2.step hev3
          clear hev3
          go_wp2_with fail
          go_ret2
          exact ⟨rfl, hevf⟩
        · have hcn : chkL (j + 1) (x + sz k) (l.drop (j + 1)) = R := by rw [← HC.out, chkL, if_neg (by simp [hk]), if_neg hx]
          have HCN := Lib.hid hcn
          generalize sz k = z at *
          clear HC hk hcn
          go_wp2_with fail
          refine (H1.out _ (HN.out _).2).mono ?_
          rintro e w3 ⟨rfl, hev3⟩
          obtain ⟨z0, y0, y1⟩ := (HN.out 28).1.ev hev3
          have hevf := (HN.out 28).2.step hev3
          clear hev3
          go_wp2_with fail
          go_quiet ((go_at_call 39; first | exact q1 fun W => HSZ.out W | exact q2 fun W => HSZ.out W))
          go_wp2_with fail
          go_roundw
          case rel => exact ⟨j + 1, x + z, by omega, by go_num, rfl, by omega, by omega, by simpa using HCN.out, by repeat (first | exact hevf | apply Ev.drewN | apply Ev.drew)⟩
          case measure => simp [intOf]; omega
      · have hR : R = (blkE x k, (j : Int)) := by rw [← HC.out, chkL, if_pos hk]
        subst hR
        have hk' : (blkE x k != 0) = true := by simpa using hk
        clear HC HR HRD hk
        obtain ⟨er, her⟩ : ∃ er, er = blkE x k := ⟨_, rfl⟩
        rw [← her] at H1 hk'
        have HER := Lib.hid her
        clear her
        go_wp2_with fail
        refine (H1.out _ (HN.out _).2).mono ?_
        rintro e w3 ⟨rfl, hev3⟩
        have hevf := (HN.out 28).2.step hev3
        clear hev3
        go_wp2_with fail
        go_ret2
        exact ⟨ret_2 HER.out rfl, hevf⟩
    · obtain rfl : j = l.length := by omega
      have hR : R = (0, 0) := by rw [← hc]; simp [chkL]
      subst hR
      clear HR HRD hc
      go_wp2_with fail
      go_ret2
      exact ⟨rfl, hev⟩
end Go.Proofs.YtkneonfhikcdkaaDoor
