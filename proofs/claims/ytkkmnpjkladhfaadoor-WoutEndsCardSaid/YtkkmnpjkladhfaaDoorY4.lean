import Derived.Test.YtkkmnpjkladhfaaDoorY3
namespace Go.Proofs.YtkkmnpjkladhfaaDoor
open Go.RowKit
set_option maxRecDepth 100000 in
set_option maxHeartbeats 8000000 in
theorem ends_any (n : Int) (A : Option Addr) (cap : Nat) (l : List Int) (w : World) (hT : Tab w) (h0 : 0 < w.heap.size) (hr : RdI w A l) (hn : ∀ x ∈ l, -9223372036854775808 ≤ x ∧ x ≤ 9223372036854775807) : Calls Tryd.prog 9 #[.int .i64 n, .slice A l.length cap] w fun e w' => e = .returned (.bool true) ∧ Ev w w' := by
  have HM := Lib.hid (made_any n A cap l w hr hn)
  have H7 : Hid (∀ W, Ev w W → Calls Tryd.prog 17 #[] W fun e w' => e = .returned (.bool true) ∧ Ev w w') := Lib.hid fun W e => evN e (awake_any W (hT.ev h0 e) (by have := Below.size e; omega))
  have HT : Hid (∀ W, Ev w W → Tab W) := Lib.hid fun W e => hT.ev h0 e
  clear hT hr hn
  go_enter Tryd.func9, Tryd.ntmps9
  go_wp2_with fail
  refine HM.out.mono ?_
  rintro e w1 ⟨s, r, c, rfl, hok, hev⟩
  have HB : Hid (∀ W, Ev (w1.alloc (.cells #[.int .i64 s, .int .i64 r, .int .i64 c] 23)) W → (W.cell? ⟨w1.heap.size, 0, none⟩ = some (.int .i64 s) ∧ W.cell? ⟨w1.heap.size, 1, none⟩ = some (.int .i64 r) ∧ W.cell? ⟨w1.heap.size, 2, none⟩ = some (.int .i64 c))) := Lib.hid fun W e => ((Bx3.new w1 s r c 23).ev (by simp) e).1
  have HBx : Hid (∀ W, Ev (w1.alloc (.cells #[.int .i64 s, .int .i64 r, .int .i64 c] 23)) W → Bx3 W w1.heap.size s r c ∧ w1.heap.size < W.heap.size) := Lib.hid fun W e => ⟨(Bx3.new w1 s r c 23).ev (by simp) e, by have := e.sz; simp at this; omega⟩
  have HE : Hid (∀ W, Ev (w1.alloc (.cells #[.int .i64 s, .int .i64 r, .int .i64 c] 23)) W → Ev w W) := Lib.hid fun W e => (hev.alloc _).step e
  have HW := Lib.hid hev.sz
  have HBD := Lib.hid (oChk_ok hok)
  have HOK := Lib.hid hok
  have C1 := Lib.hid (nxc s r c 4 3)
  have F1 := Lib.hid (fA (s := s) (r := r) (c := c))
  have C2 := Lib.hid (nxc s r c 1 0)
  have F2 := Lib.hid (fB (s := s) (r := r) (c := c))
  have C3 := Lib.hid (nxc s r c 6 0)
  have F3 := Lib.hid (fC (s := s) (r := r) (c := c))
  generalize nxS s r c 4 3 = x1 at *
  generalize nxR s r c 4 3 = x2 at *
  generalize nxC s r c 4 3 = x3 at *
  generalize nxE s r c 4 3 = e1 at *
  generalize nxS s r c 1 0 = y1 at *
  generalize nxR s r c 1 0 = y2 at *
  generalize nxC s r c 1 0 = y3 at *
  generalize nxE s r c 1 0 = e2 at *
  generalize nxS s r c 6 0 = z1 at *
  generalize nxR s r c 6 0 = z2 at *
  generalize nxC s r c 6 0 = z3 at *
  generalize nxE s r c 6 0 = e3 at *
  obtain ⟨t0, t1⟩ := HT.out _ (HE.out _ (Ev.refl _))
  clear hok hev HM
  go_wp2_with fail
  refine (C1.out _).mono ?_
  rintro e w3 ⟨rfl, hev⟩
  clear t0 t1
  have HB7 : Hid (∀ W, Ev (w3.alloc (.cells #[.int .i64 x1, .int .i64 x2, .int .i64 x3] 23)) W → (W.cell? ⟨w3.heap.size, 0, none⟩ = some (.int .i64 x1) ∧ W.cell? ⟨w3.heap.size, 1, none⟩ = some (.int .i64 x2) ∧ W.cell? ⟨w3.heap.size, 2, none⟩ = some (.int .i64 x3))) := Lib.hid fun W e => ((Bx3.new w3 x1 x2 x3 23).ev (by simp) e).1
  have HE3 : Hid (∀ W, Ev (w3.alloc (.cells #[.int .i64 x1, .int .i64 x2, .int .i64 x3] 23)) W → Ev (w1.alloc (.cells #[.int .i64 s, .int .i64 r, .int .i64 c] 23)) W) := Lib.hid fun W e => (hev.alloc _).step e
  clear hev
  go_upto_if 38 with fail
  go_cut [9, 10] from 39 (fun s9 s10 wa => Ev (w3.alloc (.cells #[.int .i64 x1, .int .i64 x2, .int .i64 x3] 23)) wa)
  case first =>
    by_cases he : e1 = 0
    · subst he
      have hN := F1.out rfl
      generalize (w3.alloc (.cells #[.int .i64 x1, .int .i64 x2, .int .i64 x3] 23)) = w4 at *
      have HS : Hid (∀ W, Ev w4 W → (W.cell? ⟨w3.heap.size, 0, none⟩ = some (.int .i64 x1) ∧ W.cell? ⟨w3.heap.size, 1, none⟩ = some (.int .i64 x2) ∧ W.cell? ⟨w3.heap.size, 2, none⟩ = some (.int .i64 x3)) ∧ Ev w4 W) := Lib.hid fun W e => ⟨HB7.out _ e, e⟩
      have H29 : Hid (∀ k W, Ev w4 W → Calls Tryd.prog 29 #[.int .i64 k] W fun e w' => e = .returned (ev k 0) ∧ Ev w4 w' ∧ KeepB w4 W w') := Lib.hid fun k W e => (ev_any k W).mono fun _ _ hh => ⟨hh.1, e.step hh.2, keepB hh.2⟩
      have H10 : Hid (∀ W, Ev w4 W → Calls Tryd.prog 10 #[wt x1 x2 x3, ev 5 0] W fun e w' => e = .returned (.tuple #[wt s r c, .int .i64 0]) ∧ Ev w4 w' ∧ KeepB w4 W w') := Lib.hid fun W e => (hN W).mono fun _ _ hh => ⟨hh.1, e.step hh.2, keepB hh.2⟩
      clear hN
      go_wp2_with fail
      have hev := Ev.refl w4
      go_region_held3 (fun W => (W.cell? ⟨w3.heap.size, 0, none⟩ = some (.int .i64 x1) ∧ W.cell? ⟨w3.heap.size, 1, none⟩ = some (.int .i64 x2) ∧ W.cell? ⟨w3.heap.size, 2, none⟩ = some (.int .i64 x3)) ∧ Ev w4 W)
        (first | (refine HS.out _ ?_; repeat (first | (with_reducible assumption) | (with_reducible refine Ev.drew ?_) | (with_reducible refine Ev.alloc ?_ _) | (with_reducible refine Ev.setC ?_ (by first | (with_reducible assumption) | (simp only []; with_reducible assumption) | (have := Ev.sz hev; simp <;> omega)) _))))
        (first | (go_at_call 29; refine (H29.out _ _ (by repeat (first | (with_reducible assumption) | (with_reducible refine Ev.drew ?_) | (with_reducible refine Ev.alloc ?_ _)))).mono ?_; rintro e w' ⟨rfl, hev2, hk⟩; (first | (with_reducible have Q := Lib.hid (newB _ _ (by repeat (first | (with_reducible assumption) | (with_reducible refine Ev.drew ?_) | (with_reducible refine Ev.alloc ?_ _))) _ hk)) | (with_reducible have Q := Lib.hid (newB2 _ _ _ (by repeat (first | (with_reducible assumption) | (with_reducible refine Ev.drew ?_) | (with_reducible refine Ev.alloc ?_ _))) _ hk)) | (with_reducible have Q := Lib.hid (oldB _ _ _ _ _ Q.out (by repeat (first | (with_reducible exact Ev.refl _) | (with_reducible refine Ev.drew ?_) | (with_reducible refine Ev.alloc ?_ _))) hk)) | skip); clear hk; (try (obtain ⟨⟨⟨n0, n1, n2⟩, m0, m1, m2⟩, hle, hlt⟩ := Q.out; (try simp only [World.size_alloc, drew_sz] at n0 n1 n2 m0 m1 m2 hle hlt))); clear hev; have hev := hev2; clear hev2) | (go_at_call 10; refine (H10.out _ (by repeat (first | (with_reducible assumption) | (with_reducible refine Ev.drew ?_) | (with_reducible refine Ev.alloc ?_ _)))).mono ?_; rintro e w' ⟨rfl, hev2, hk⟩; (first | (with_reducible have Q := Lib.hid (newB _ _ (by repeat (first | (with_reducible assumption) | (with_reducible refine Ev.drew ?_) | (with_reducible refine Ev.alloc ?_ _))) _ hk)) | (with_reducible have Q := Lib.hid (newB2 _ _ _ (by repeat (first | (with_reducible assumption) | (with_reducible refine Ev.drew ?_) | (with_reducible refine Ev.alloc ?_ _))) _ hk)) | (with_reducible have Q := Lib.hid (oldB _ _ _ _ _ Q.out (by repeat (first | (with_reducible exact Ev.refl _) | (with_reducible refine Ev.drew ?_) | (with_reducible refine Ev.alloc ?_ _))) hk)) | skip); clear hk; (try (obtain ⟨⟨⟨n0, n1, n2⟩, m0, m1, m2⟩, hle, hlt⟩ := Q.out; (try simp only [World.size_alloc, drew_sz] at n0 n1 n2 m0 m1 m2 hle hlt))); clear hev; have hev := hev2; clear hev2))
      all_goals
        first
          | (have P := setB3 w4 _ _ s r c ⟨⟨n0, n1, n2⟩, m0, m1, m2⟩ hle hlt hev)
          | (have P := allocB3 w4 _ s r c hev)
        obtain ⟨Z, hZ, hbx, hez, hbl, -⟩ := P
        rw [← hZ]
        clear hZ hev
        (try clear n0 n1 n2 m0 m1 m2)
        obtain ⟨⟨a0, a1, a2⟩, -⟩ := hbx
        obtain ⟨b0, b1, b2⟩ := HB.out _ (HE3.out _ hez)
        go_wp2_with fail
        go_meet
        case rel => exact hez
    · have he' : (e1 == 0) = false := by simpa using he
      go_wp2_with fail
      go_meet
      case rel => exact Ev.refl _
  case rest =>
  generalize wc = wa at *
  have HEC := Lib.hid (HE3.out _ hcut)
  clear hcut HB7 HE3 C1 F1
  -- the new entry
  have HS : Hid (∀ W, Ev wa W → (W.cell? ⟨w1.heap.size, 0, none⟩ = some (.int .i64 s) ∧ W.cell? ⟨w1.heap.size, 1, none⟩ = some (.int .i64 r) ∧ W.cell? ⟨w1.heap.size, 2, none⟩ = some (.int .i64 c)) ∧ Ev wa W) := Lib.hid fun W e => ⟨HB.out _ (HEC.out.step e), e⟩
  go_upto_region 9 with fail
  go_cut [11, 12] from 52 (fun s11 s12 wd => ∃ b, s11 = .pointer (some ⟨b, 0, none⟩) ∧ s12 = .int .i64 e2 ∧ Bx3 wd b y1 y2 y3 ∧ b < wd.heap.size ∧ Ev wa wd)
  case first =>
    have H29 : Hid (∀ k W, Ev wa W → Calls Tryd.prog 29 #[.int .i64 k] W fun e w' => e = .returned (ev k 0) ∧ Ev wa w' ∧ KeepB wa W w') := Lib.hid fun k W e => (ev_any k W).mono fun _ _ hh => ⟨hh.1, e.step hh.2, keepB hh.2⟩
    have H10 : Hid (∀ W, Ev wa W → Calls Tryd.prog 10 #[wt s r c, ev 1 0] W fun e w' => e = .returned (.tuple #[wt y1 y2 y3, .int .i64 e2]) ∧ Ev wa w' ∧ KeepB wa W w') := Lib.hid fun W e => (C2.out W).mono fun _ _ hh => ⟨hh.1, e.step hh.2, keepB hh.2⟩
    have hev := Ev.refl wa
    go_region_held3 (fun W => (W.cell? ⟨w1.heap.size, 0, none⟩ = some (.int .i64 s) ∧ W.cell? ⟨w1.heap.size, 1, none⟩ = some (.int .i64 r) ∧ W.cell? ⟨w1.heap.size, 2, none⟩ = some (.int .i64 c)) ∧ Ev wa W)
      (first | (refine HS.out _ ?_; repeat (first | (with_reducible assumption) | (with_reducible refine Ev.drew ?_) | (with_reducible refine Ev.alloc ?_ _) | (with_reducible refine Ev.setC ?_ (by first | (with_reducible assumption) | (simp only []; with_reducible assumption) | (have := Ev.sz hev; simp <;> omega)) _))))
      (first | (go_at_call 29; refine (H29.out _ _ (by repeat (first | (with_reducible assumption) | (with_reducible refine Ev.drew ?_) | (with_reducible refine Ev.alloc ?_ _)))).mono ?_; rintro e w' ⟨rfl, hev2, hk⟩; (first | (with_reducible have Q := Lib.hid (newB _ _ (by repeat (first | (with_reducible assumption) | (with_reducible refine Ev.drew ?_) | (with_reducible refine Ev.alloc ?_ _))) _ hk)) | (with_reducible have Q := Lib.hid (newB2 _ _ _ (by repeat (first | (with_reducible assumption) | (with_reducible refine Ev.drew ?_) | (with_reducible refine Ev.alloc ?_ _))) _ hk)) | (with_reducible have Q := Lib.hid (oldB _ _ _ _ _ Q.out (by repeat (first | (with_reducible exact Ev.refl _) | (with_reducible refine Ev.drew ?_) | (with_reducible refine Ev.alloc ?_ _))) hk)) | skip); clear hk; (try (obtain ⟨⟨⟨n0, n1, n2⟩, m0, m1, m2⟩, hle, hlt⟩ := Q.out; (try simp only [World.size_alloc, drew_sz] at n0 n1 n2 m0 m1 m2 hle hlt))); clear hev; have hev := hev2; clear hev2) | (go_at_call 10; refine (H10.out _ (by repeat (first | (with_reducible assumption) | (with_reducible refine Ev.drew ?_) | (with_reducible refine Ev.alloc ?_ _)))).mono ?_; rintro e w' ⟨rfl, hev2, hk⟩; (first | (with_reducible have Q := Lib.hid (newB _ _ (by repeat (first | (with_reducible assumption) | (with_reducible refine Ev.drew ?_) | (with_reducible refine Ev.alloc ?_ _))) _ hk)) | (with_reducible have Q := Lib.hid (newB2 _ _ _ (by repeat (first | (with_reducible assumption) | (with_reducible refine Ev.drew ?_) | (with_reducible refine Ev.alloc ?_ _))) _ hk)) | (with_reducible have Q := Lib.hid (oldB _ _ _ _ _ Q.out (by repeat (first | (with_reducible exact Ev.refl _) | (with_reducible refine Ev.drew ?_) | (with_reducible refine Ev.alloc ?_ _))) hk)) | skip); clear hk; (try (obtain ⟨⟨⟨n0, n1, n2⟩, m0, m1, m2⟩, hle, hlt⟩ := Q.out; (try simp only [World.size_alloc, drew_sz] at n0 n1 n2 m0 m1 m2 hle hlt))); clear hev; have hev := hev2; clear hev2))
    all_goals
      first
        | (have P := setB3 wa _ _ y1 y2 y3 ⟨⟨n0, n1, n2⟩, m0, m1, m2⟩ hle hlt hev)
        | (have P := allocB3 wa _ y1 y2 y3 hev)
      obtain ⟨Z, hZ, hbx, hez, hbl, -⟩ := P
      rw [← hZ]
      clear hZ hev
      (try clear n0 n1 n2 m0 m1 m2)
      go_wp2_with fail
      go_meet
      case rel => exact ⟨_, rfl, rfl, hbx, hbl, hez⟩
  case rest =>
  generalize wc = wd at *
  obtain ⟨b11, rfl, rfl, hbx, hbl, hev⟩ := hcut
  have HEC := Lib.hid (HEC.out.step hev)
  have HBY : Hid (∀ W, Ev wd W → (W.cell? ⟨b11, 0, none⟩ = some (.int .i64 y1) ∧ W.cell? ⟨b11, 1, none⟩ = some (.int .i64 y2) ∧ W.cell? ⟨b11, 2, none⟩ = some (.int .i64 y3))) := Lib.hid fun W e => (hbx.ev hbl e).1
  clear hbx hbl hev HS C2
  go_upto_if 59 with fail
  go_cut [13, 14] from 60 (fun s13 s14 we => Ev wd we)
  case first =>
    by_cases he : e2 = 0
    · subst he
      obtain ⟨hy1, hN⟩ := F2.out rfl
      subst hy1
      have HS : Hid (∀ W, Ev wd W → (W.cell? ⟨b11, 0, none⟩ = some (.int .i64 y1) ∧ W.cell? ⟨b11, 1, none⟩ = some (.int .i64 y2) ∧ W.cell? ⟨b11, 2, none⟩ = some (.int .i64 y3)) ∧ Ev wd W) := Lib.hid fun W e => ⟨HBY.out _ e, e⟩
      have H29 : Hid (∀ k W, Ev wd W → Calls Tryd.prog 29 #[.int .i64 k] W fun e w' => e = .returned (ev k 0) ∧ Ev wd w' ∧ KeepB wd W w') := Lib.hid fun k W e => (ev_any k W).mono fun _ _ hh => ⟨hh.1, e.step hh.2, keepB hh.2⟩
      have H10 : Hid (∀ W, Ev wd W → Calls Tryd.prog 10 #[wt y1 y2 y3, ev 2 0] W fun e w' => e = .returned (.tuple #[wt y1 r c, .int .i64 0]) ∧ Ev wd w' ∧ KeepB wd W w') := Lib.hid fun W e => (hN W).mono fun _ _ hh => ⟨hh.1, e.step hh.2, keepB hh.2⟩
      clear hN
      go_wp2_with fail
      have hev := Ev.refl wd
      go_region_held3 (fun W => (W.cell? ⟨b11, 0, none⟩ = some (.int .i64 y1) ∧ W.cell? ⟨b11, 1, none⟩ = some (.int .i64 y2) ∧ W.cell? ⟨b11, 2, none⟩ = some (.int .i64 y3)) ∧ Ev wd W)
        (first | (refine HS.out _ ?_; repeat (first | (with_reducible assumption) | (with_reducible refine Ev.drew ?_) | (with_reducible refine Ev.alloc ?_ _) | (with_reducible refine Ev.setC ?_ (by first | (with_reducible assumption) | (simp only []; with_reducible assumption) | (have := Ev.sz hev; simp <;> omega)) _))))
        (first | (go_at_call 29; refine (H29.out _ _ (by repeat (first | (with_reducible assumption) | (with_reducible refine Ev.drew ?_) | (with_reducible refine Ev.alloc ?_ _)))).mono ?_; rintro e w' ⟨rfl, hev2, hk⟩; (first | (with_reducible have Q := Lib.hid (newB _ _ (by repeat (first | (with_reducible assumption) | (with_reducible refine Ev.drew ?_) | (with_reducible refine Ev.alloc ?_ _))) _ hk)) | (with_reducible have Q := Lib.hid (newB2 _ _ _ (by repeat (first | (with_reducible assumption) | (with_reducible refine Ev.drew ?_) | (with_reducible refine Ev.alloc ?_ _))) _ hk)) | (with_reducible have Q := Lib.hid (oldB _ _ _ _ _ Q.out (by repeat (first | (with_reducible exact Ev.refl _) | (with_reducible refine Ev.drew ?_) | (with_reducible refine Ev.alloc ?_ _))) hk)) | skip); clear hk; (try (obtain ⟨⟨⟨n0, n1, n2⟩, m0, m1, m2⟩, hle, hlt⟩ := Q.out; (try simp only [World.size_alloc, drew_sz] at n0 n1 n2 m0 m1 m2 hle hlt))); clear hev; have hev := hev2; clear hev2) | (go_at_call 10; refine (H10.out _ (by repeat (first | (with_reducible assumption) | (with_reducible refine Ev.drew ?_) | (with_reducible refine Ev.alloc ?_ _)))).mono ?_; rintro e w' ⟨rfl, hev2, hk⟩; (first | (with_reducible have Q := Lib.hid (newB _ _ (by repeat (first | (with_reducible assumption) | (with_reducible refine Ev.drew ?_) | (with_reducible refine Ev.alloc ?_ _))) _ hk)) | (with_reducible have Q := Lib.hid (newB2 _ _ _ (by repeat (first | (with_reducible assumption) | (with_reducible refine Ev.drew ?_) | (with_reducible refine Ev.alloc ?_ _))) _ hk)) | (with_reducible have Q := Lib.hid (oldB _ _ _ _ _ Q.out (by repeat (first | (with_reducible exact Ev.refl _) | (with_reducible refine Ev.drew ?_) | (with_reducible refine Ev.alloc ?_ _))) hk)) | skip); clear hk; (try (obtain ⟨⟨⟨n0, n1, n2⟩, m0, m1, m2⟩, hle, hlt⟩ := Q.out; (try simp only [World.size_alloc, drew_sz] at n0 n1 n2 m0 m1 m2 hle hlt))); clear hev; have hev := hev2; clear hev2))
      all_goals
        first
          | (have P := setB3 wd _ _ y1 r c ⟨⟨n0, n1, n2⟩, m0, m1, m2⟩ hle hlt hev)
          | (have P := allocB3 wd _ y1 r c hev)
        obtain ⟨Z, hZ, hbx, hez, hbl, -⟩ := P
        rw [← hZ]
        clear hZ hev
        (try clear n0 n1 n2 m0 m1 m2)
        obtain ⟨⟨a0, a1, a2⟩, -⟩ := hbx
        obtain ⟨b0, b1, b2⟩ := HB.out _ (HEC.out.step hez)
        obtain ⟨c0, c1, c2⟩ := HBY.out _ hez
        go_wp2_with fail
        go_meet
        case rel => exact hez
    · have he' : (e2 == 0) = false := by simpa using he
      go_wp2_with fail
      go_meet
      case rel => exact Ev.refl _
  case rest =>
  generalize wc = we at *
  have HEC := Lib.hid (HEC.out.step hcut)
  clear hcut HBY F2
  -- the end of the write
  have HS : Hid (∀ W, Ev we W → (W.cell? ⟨w1.heap.size, 0, none⟩ = some (.int .i64 s) ∧ W.cell? ⟨w1.heap.size, 1, none⟩ = some (.int .i64 r) ∧ W.cell? ⟨w1.heap.size, 2, none⟩ = some (.int .i64 c)) ∧ Ev we W) := Lib.hid fun W e => ⟨HB.out _ (HEC.out.step e), e⟩
  go_upto_region 14 with fail
  go_cut [15, 16] from 80 (fun s15 s16 wf => ∃ b, s15 = .pointer (some ⟨b, 0, none⟩) ∧ s16 = .int .i64 e3 ∧ Bx3 wf b z1 z2 z3 ∧ b < wf.heap.size ∧ Ev we wf)
  case first =>
    have H29 : Hid (∀ k W, Ev we W → Calls Tryd.prog 29 #[.int .i64 k] W fun e w' => e = .returned (ev k 0) ∧ Ev we w' ∧ KeepB we W w') := Lib.hid fun k W e => (ev_any k W).mono fun _ _ hh => ⟨hh.1, e.step hh.2, keepB hh.2⟩
    have H10 : Hid (∀ W, Ev we W → Calls Tryd.prog 10 #[wt s r c, ev 6 0] W fun e w' => e = .returned (.tuple #[wt z1 z2 z3, .int .i64 e3]) ∧ Ev we w' ∧ KeepB we W w') := Lib.hid fun W e => (C3.out W).mono fun _ _ hh => ⟨hh.1, e.step hh.2, keepB hh.2⟩
    have hev := Ev.refl we
    go_region_held3 (fun W => (W.cell? ⟨w1.heap.size, 0, none⟩ = some (.int .i64 s) ∧ W.cell? ⟨w1.heap.size, 1, none⟩ = some (.int .i64 r) ∧ W.cell? ⟨w1.heap.size, 2, none⟩ = some (.int .i64 c)) ∧ Ev we W)
      (first | (refine HS.out _ ?_; repeat (first | (with_reducible assumption) | (with_reducible refine Ev.drew ?_) | (with_reducible refine Ev.alloc ?_ _) | (with_reducible refine Ev.setC ?_ (by first | (with_reducible assumption) | (simp only []; with_reducible assumption) | (have := Ev.sz hev; simp <;> omega)) _))))
      (first | (go_at_call 29; refine (H29.out _ _ (by repeat (first | (with_reducible assumption) | (with_reducible refine Ev.drew ?_) | (with_reducible refine Ev.alloc ?_ _)))).mono ?_; rintro e w' ⟨rfl, hev2, hk⟩; (first | (with_reducible have Q := Lib.hid (newB _ _ (by repeat (first | (with_reducible assumption) | (with_reducible refine Ev.drew ?_) | (with_reducible refine Ev.alloc ?_ _))) _ hk)) | (with_reducible have Q := Lib.hid (newB2 _ _ _ (by repeat (first | (with_reducible assumption) | (with_reducible refine Ev.drew ?_) | (with_reducible refine Ev.alloc ?_ _))) _ hk)) | (with_reducible have Q := Lib.hid (oldB _ _ _ _ _ Q.out (by repeat (first | (with_reducible exact Ev.refl _) | (with_reducible refine Ev.drew ?_) | (with_reducible refine Ev.alloc ?_ _))) hk)) | skip); clear hk; (try (obtain ⟨⟨⟨n0, n1, n2⟩, m0, m1, m2⟩, hle, hlt⟩ := Q.out; (try simp only [World.size_alloc, drew_sz] at n0 n1 n2 m0 m1 m2 hle hlt))); clear hev; have hev := hev2; clear hev2) | (go_at_call 10; refine (H10.out _ (by repeat (first | (with_reducible assumption) | (with_reducible refine Ev.drew ?_) | (with_reducible refine Ev.alloc ?_ _)))).mono ?_; rintro e w' ⟨rfl, hev2, hk⟩; (first | (with_reducible have Q := Lib.hid (newB _ _ (by repeat (first | (with_reducible assumption) | (with_reducible refine Ev.drew ?_) | (with_reducible refine Ev.alloc ?_ _))) _ hk)) | (with_reducible have Q := Lib.hid (newB2 _ _ _ (by repeat (first | (with_reducible assumption) | (with_reducible refine Ev.drew ?_) | (with_reducible refine Ev.alloc ?_ _))) _ hk)) | (with_reducible have Q := Lib.hid (oldB _ _ _ _ _ Q.out (by repeat (first | (with_reducible exact Ev.refl _) | (with_reducible refine Ev.drew ?_) | (with_reducible refine Ev.alloc ?_ _))) hk)) | skip); clear hk; (try (obtain ⟨⟨⟨n0, n1, n2⟩, m0, m1, m2⟩, hle, hlt⟩ := Q.out; (try simp only [World.size_alloc, drew_sz] at n0 n1 n2 m0 m1 m2 hle hlt))); clear hev; have hev := hev2; clear hev2))
    all_goals
      first
        | (have P := setB3 we _ _ z1 z2 z3 ⟨⟨n0, n1, n2⟩, m0, m1, m2⟩ hle hlt hev)
        | (have P := allocB3 we _ z1 z2 z3 hev)
      obtain ⟨Z, hZ, hbx, hez, hbl, -⟩ := P
      rw [← hZ]
      clear hZ hev
      (try clear n0 n1 n2 m0 m1 m2)
      go_wp2_with fail
      go_meet
      case rel => exact ⟨_, rfl, rfl, hbx, hbl, hez⟩
  case rest =>
  generalize wc = wf at *
  obtain ⟨b15, rfl, rfl, hbx, hbl, hev⟩ := hcut
  have HEC := Lib.hid (HEC.out.step hev)
  obtain ⟨⟨z0, z10, z20⟩, -⟩ := hbx
  clear hbl hev HS C3
  obtain ⟨x0, x10, x20⟩ := HB.out _ HEC.out
  go_upto_if 87 with fail
  go_cut [] from 88 (fun wg => wf = wg)
  case first =>
    by_cases he : e3 = 0
    · have hF := F3.out he
      obtain ⟨-, -, g3, g4, -, -, -, -⟩ := HBD.out
      subst he
      clear F3
      rcases hF with ⟨q1, q2, rfl, rfl, rfl⟩ | ⟨rfl, q2, rfl, rfl, rfl⟩ | ⟨rfl, rfl, rfl⟩
      all_goals
        go_wp2_with fail
        go_meet
        case rel => rfl
    · have he' : (e3 == 0) = false := by simpa using he
      go_wp2_with fail
      go_meet
      case rel => rfl
  case rest =>
  subst hcut
  clear F3 z0 z10 z20
  by_cases h5 : s = 5
  · subst h5
    go_wp2_with fail
    refine (H7.out _ (HE.out _ HEC.out)).mono ?_
    rintro e w4 ⟨rfl, hev⟩
    go_wp2_with fail
    go_ret
    exact ⟨rfl, hev⟩
  · have h5b : (s == 5) = false := by simpa using h5
    have H5 := Lib.hid h5
    clear h5
    have hl57 : w1.heap.size < wf.heap.size := (HBx.out _ HEC.out).2
    have HX5 : Hid (Bx3 (wf.alloc (.cells #[.int .i64 s, .int .i64 r, .int .i64 c] 23)) w1.heap.size s r c) := Lib.hid ((HBx.out _ HEC.out).1.ev hl57 ((Ev.refl _).alloc _))
    have HX17 : Hid (Bx3 (wf.alloc (.cells #[.int .i64 s, .int .i64 r, .int .i64 c] 23)) wf.heap.size s r c) := Lib.hid (Bx3.new _ _ _ _ _)
    have HE17 : Hid (Ev w (wf.alloc (.cells #[.int .i64 s, .int .i64 r, .int .i64 c] 23))) := Lib.hid ((HE.out _ HEC.out).alloc _)
    have HP0 : Hid (pot s r ≤ r + 2) := Lib.hid (by obtain ⟨-, -, g3, -⟩ := HBD.out; unfold pot; repeat' split <;> omega)
    go_wp2_with fail
    clear x0 x10 x20 HEC
    obtain ⟨-, -, g3, g4, -, -, -, -⟩ := HBD.out
    go_loopg [18] ((r + 2).toNat) (fun g i wr => ∃ (j : Nat) (s' r' c' : Int), i = .int .i64 j ∧ oChk s' r' c' = 0 ∧ s' ≠ 5 ∧ pot s' r' ≤ g ∧ (j : Int) + g = r + 2 ∧ Bx3 wr w1.heap.size s' r' c' ∧ Bx3 wr wf.heap.size s r c ∧ Ev w wr ∧ wf.heap.size < wr.heap.size)
    case atStart => exact ⟨0, s, r, c, rfl, HOK.out, H5.out, by have := HP0.out; omega, by omega, HX5.out, HX17.out, HE17.out, by simp⟩
    case round =>
      clear HX5 HX17 HE17 HP0
      generalize wr = wo at *
      generalize gk = gO at *
      obtain ⟨j, s', r', c', rfl, hok, h5', hp, hgO, hx, hy, hev, hz⟩ := hrel
      have HGO := Lib.hid hgO
      have HX := Lib.hid hx
      have HY := Lib.hid hy
      have HEV := Lib.hid hev
      have HOK' := Lib.hid hok
      have HPP := Lib.hid hp
      obtain ⟨o1, o2, o3, o4, o5, -, -, -⟩ := oChk_ok hok
      by_cases h6 : s' = 6
      · subst h6
        obtain ⟨⟨a0, a1, a2⟩, -⟩ := hx
        obtain ⟨⟨b0, b1, b2⟩, -⟩ := hy
        clear o1 o2 o5 hok hp hgO
        by_cases hj : (j : Int) < r + 2
        all_goals
          go_wp2_with fail
          refine (H7.out _ HEV.out).mono ?_
          rintro e w4 ⟨rfl, hev4⟩
          go_wp2_with fail
          go_ret
          exact ⟨rfl, hev4⟩
      · have hpo : 1 ≤ gO := by
          have : 1 ≤ pot s' r' := by
            unfold pot
            rcases six o1 o2 with rfl | rfl | rfl | rfl | rfl | rfl <;> simp at * <;> omega
          omega
        have hj : (j : Int) < r + 2 := by omega
        obtain ⟨⟨a0, a1, a2⟩, -⟩ := hx
        obtain ⟨⟨b0, b1, b2⟩, -⟩ := hy
        have HG1 := Lib.hid hpo
        clear hpo
        have h6b : (s' != 6) = true := by simpa using h6
        have H6 := Lib.hid h6
        clear h6
        clear o1 o2 o5 hok hp hev hgO
        go_wp2_with fail
        go_loopg [149] 3 (fun g i wq => ∃ k : Nat, i = .int .i64 k ∧ g + k = 3 ∧ k < 3 ∧ atK k s' r' ∧ Ev (wo.alloc (.cells #[.int .i64 5, .int .i64 2, .int .i64 6] 3)) wq)
        case atStart => exact ⟨0, rfl, by omega, by omega, .inl rfl, Ev.refl _⟩
        case round =>
          clear a0 a1 a2 b0 b1 b2
          generalize wr = wq at *
          obtain ⟨k, rfl, hgk, hk3, hk, hev⟩ := hrel
          have HGK := Lib.hid hgk
          clear hgk
          have hkc : wq.cell? ⟨wo.heap.size, k, none⟩ = some (.int .i64 (kdN k)) := by
            rw [hev.cell (p := ⟨wo.heap.size, k, none⟩) (by simp)]
            rcases hk with rfl | ⟨rfl, -⟩ | ⟨rfl, -⟩ <;> simp [kdN]
          obtain ⟨hF1, hF2⟩ := fE HOK'.out h5' H6.out hk
          have C4 := Lib.hid (nxc s' r' c' (kdN k) 0)
          have HF1 := Lib.hid hF1
          have HF2 := Lib.hid hF2
          have l5 : w1.heap.size < wo.heap.size := by omega
          have hqs : wo.heap.size < wq.heap.size := by have := hev.sz; simp at this; omega
          have HEQ : Hid (Ev wo wq) := Lib.hid (((Ev.refl wo).alloc _).step hev)
          have HEQ2 := Lib.hid hev
          have HXQ : Hid (∀ W, Ev wq W → Bx3 W w1.heap.size s' r' c') := Lib.hid fun W e => HX.out.ev l5 (HEQ.out.step e)
          have HYQ : Hid (∀ W, Ev wq W → Bx3 W wf.heap.size s r c) := Lib.hid fun W e => HY.out.ev hz (HEQ.out.step e)
          have HS : Hid (∀ W, Ev wq W → (W.cell? ⟨w1.heap.size, 0, none⟩ = some (.int .i64 s') ∧ W.cell? ⟨w1.heap.size, 1, none⟩ = some (.int .i64 r') ∧ W.cell? ⟨w1.heap.size, 2, none⟩ = some (.int .i64 c')) ∧ Ev wq W) := Lib.hid fun W e => ⟨(HXQ.out _ e).1, e⟩
          clear hF1 hF2 hk hev
          generalize nxS s' r' c' (kdN k) 0 = v1 at *
          generalize nxR s' r' c' (kdN k) 0 = v2 at *
          generalize nxC s' r' c' (kdN k) 0 = v3 at *
          generalize nxE s' r' c' (kdN k) 0 = ee at *
          generalize kdN k = kd at *
          have H29 : Hid (∀ k W, Ev wq W → Calls Tryd.prog 29 #[.int .i64 k] W fun e w' => e = .returned (ev k 0) ∧ Ev wq w' ∧ KeepB wq W w') := Lib.hid fun k W e => (ev_any k W).mono fun _ _ hh => ⟨hh.1, e.step hh.2, keepB hh.2⟩
          have H10 : Hid (∀ W, Ev wq W → Calls Tryd.prog 10 #[wt s' r' c', ev kd 0] W fun e w' => e = .returned (.tuple #[wt v1 v2 v3, .int .i64 ee]) ∧ Ev wq w' ∧ KeepB wq W w') := Lib.hid fun W e => (C4.out W).mono fun _ _ hh => ⟨hh.1, e.step hh.2, keepB hh.2⟩
          have hk0 : 0 ≤ (k : Int) := by omega
          have hk3' : (k : Int) < 3 := by omega
          go_upto_region 31 with fail
          go_cut [21, 22] from 153 to 159 (fun s21 s22 wz => ∃ b, s21 = .pointer (some ⟨b, 0, none⟩) ∧ s22 = .int .i64 ee ∧ Bx3 wz b v1 v2 v3 ∧ b < wz.heap.size ∧ Ev wq wz)
          case first =>
            have hev := Ev.refl wq
            go_region_held3 (fun W => (W.cell? ⟨w1.heap.size, 0, none⟩ = some (.int .i64 s') ∧ W.cell? ⟨w1.heap.size, 1, none⟩ = some (.int .i64 r') ∧ W.cell? ⟨w1.heap.size, 2, none⟩ = some (.int .i64 c')) ∧ Ev wq W)
              (first | (refine HS.out _ ?_; repeat (first | (with_reducible assumption) | (with_reducible refine Ev.drew ?_) | (with_reducible refine Ev.alloc ?_ _) | (with_reducible refine Ev.setC ?_ (by first | (with_reducible assumption) | (simp only []; with_reducible assumption) | (have := Ev.sz hev; simp <;> omega)) _))))
              (first | (go_at_call 29; refine (H29.out _ _ (by repeat (first | (with_reducible assumption) | (with_reducible refine Ev.drew ?_) | (with_reducible refine Ev.alloc ?_ _)))).mono ?_; rintro e w' ⟨rfl, hev2, hk⟩; (first | (with_reducible have Q := Lib.hid (newB _ _ (by repeat (first | (with_reducible assumption) | (with_reducible refine Ev.drew ?_) | (with_reducible refine Ev.alloc ?_ _))) _ hk)) | (with_reducible have Q := Lib.hid (newB2 _ _ _ (by repeat (first | (with_reducible assumption) | (with_reducible refine Ev.drew ?_) | (with_reducible refine Ev.alloc ?_ _))) _ hk)) | (with_reducible have Q := Lib.hid (oldB _ _ _ _ _ Q.out (by repeat (first | (with_reducible exact Ev.refl _) | (with_reducible refine Ev.drew ?_) | (with_reducible refine Ev.alloc ?_ _))) hk)) | skip); clear hk; (try (obtain ⟨⟨⟨n0, n1, n2⟩, m0, m1, m2⟩, hle, hlt⟩ := Q.out; (try simp only [World.size_alloc, drew_sz] at n0 n1 n2 m0 m1 m2 hle hlt))); clear hev; have hev := hev2; clear hev2) | (go_at_call 10; refine (H10.out _ (by repeat (first | (with_reducible assumption) | (with_reducible refine Ev.drew ?_) | (with_reducible refine Ev.alloc ?_ _)))).mono ?_; rintro e w' ⟨rfl, hev2, hk⟩; (first | (with_reducible have Q := Lib.hid (newB _ _ (by repeat (first | (with_reducible assumption) | (with_reducible refine Ev.drew ?_) | (with_reducible refine Ev.alloc ?_ _))) _ hk)) | (with_reducible have Q := Lib.hid (newB2 _ _ _ (by repeat (first | (with_reducible assumption) | (with_reducible refine Ev.drew ?_) | (with_reducible refine Ev.alloc ?_ _))) _ hk)) | (with_reducible have Q := Lib.hid (oldB _ _ _ _ _ Q.out (by repeat (first | (with_reducible exact Ev.refl _) | (with_reducible refine Ev.drew ?_) | (with_reducible refine Ev.alloc ?_ _))) hk)) | skip); clear hk; (try (obtain ⟨⟨⟨n0, n1, n2⟩, m0, m1, m2⟩, hle, hlt⟩ := Q.out; (try simp only [World.size_alloc, drew_sz] at n0 n1 n2 m0 m1 m2 hle hlt))); clear hev; have hev := hev2; clear hev2))
            all_goals
              first
                | (have P := setB3 wq _ _ v1 v2 v3 ⟨⟨n0, n1, n2⟩, m0, m1, m2⟩ hle hlt hev)
                | (have P := allocB3 wq _ v1 v2 v3 hev)
              obtain ⟨Z, hZ, hbx, hez, hbl, -⟩ := P
              rw [← hZ]
              clear hZ hev
              (try clear n0 n1 n2 m0 m1 m2)
              go_wp2_with fail
              go_meet
              case rel => exact ⟨_, rfl, rfl, hbx, hbl, hez⟩
          case rest =>
          generalize wc = Z at *
          obtain ⟨bz, rfl, rfl, hbx, hbl, hez⟩ := hcut
          clear H29 H10 HS
          by_cases he : ee = 0
          · subst he
            obtain ⟨n1, n2, n3⟩ := HF1.out rfl
            obtain ⟨⟨a0, a1, a2⟩, -⟩ := hbx
            have hx5 := HXQ.out _ hez
            obtain ⟨⟨b0, b1, b2⟩, f0, f1, f2⟩ := HXQ.out _ hez
            have HX9 := Lib.hid (hx5.setC v1 v2 v3)
            have HY9 := Lib.hid ((HYQ.out _ hez).setO (x' := v1) (y' := v2) (z' := v3) (b := w1.heap.size) (by omega))
            have HE9 := Lib.hid ((((HEV.out.step (HEQ.out.step hez)).setC (p := ⟨w1.heap.size, 0, none⟩) HW.out (.int .i64 v1)).setC (p := ⟨w1.heap.size, 1, none⟩) HW.out (.int .i64 v2)).setC (p := ⟨w1.heap.size, 2, none⟩) HW.out (.int .i64 v3))
            have hzs := hez.sz
            have lz : w1.heap.size < Z.heap.size := by omega
            have HN := Lib.hid n3
            have HN1 := Lib.hid n1
            have HN2 := Lib.hid n2
            clear hx5 n1 n2 n3
            go_wp2_with fail
            go_roundg (gO - 1)
            case measure => go_light; have := HG1.out; omega
            case rel =>
              go_light
              have q1 := HN.out
              have q2 := HGO.out
              have q3 := HG1.out
              have q4 := HPP.out
              exact ⟨j + 1, v1, v2, v3, by go_num, HN1.out, HN2.out, by omega, by omega, HX9.out, HY9.out, HE9.out, by simp; omega⟩
          · have he' : (ee == 0) = false := by simpa using he
            obtain ⟨n1, n2⟩ := HF2.out he
            clear hbx
            go_wp2_with fail
            go_roundg (2 - k)
            case measure => go_light; have := HGK.out; omega
            case rel => go_light; exact ⟨k + 1, by go_num, by omega, n1, n2, HEQ2.out.step hez⟩
end Go.Proofs.YtkkmnpjkladhfaaDoor
