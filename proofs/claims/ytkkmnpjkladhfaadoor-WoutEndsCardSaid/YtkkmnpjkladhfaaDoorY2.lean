import Derived.Test.YtkkmnpjkladhfaaDoorY1
namespace Go.Proofs.YtkkmnpjkladhfaaDoor
open Go.RowKit
theorem one_cases {s r c : Int} (h : oChk s r c = 0) :
    (s = 1 ∧ 0 < r ∧ roR s r c = 4 ∧ slF s r c = true ∧ slB s r c = false) ∨ (s = 2 ∧ 0 < r ∧ roR s r c = 5 ∧ slF s r c = false ∧ slB s r c = true) ∨
    (s = 2 ∧ r = 0 ∧ roR s r c = 5 ∧ slF s r c = false ∧ slB s r c = true) ∨ (s = 3 ∧ 0 < r ∧ roR s r c = 5 ∧ slF s r c = false ∧ slB s r c = true) ∨
    (s = 4 ∧ 0 < r ∧ roR s r c = 0 ∧ slF s r c = false ∧ slB s r c = false) ∨ (s = 5 ∧ r = 0 ∧ roR s r c = 4 ∧ slF s r c = true ∧ slB s r c = false) ∨
    (s = 5 ∧ 0 < r ∧ roR s r c = 4 ∧ slF s r c = false ∧ slB s r c = false) ∨ (s = 6 ∧ r = 0 ∧ roR s r c = 0 ∧ slF s r c = true ∧ slB s r c = false) := by
  obtain ⟨h1, h2, h3, h4, h5, h6, -⟩ := oChk_ok h
  unfold roR slF slB
  rw [if_pos h, if_pos h, if_pos h]
  unfold roV freeB busyB
  rcases six h1 h2 with rfl | rfl | rfl | rfl | rfl | rfl
  · left; simp; omega
  · by_cases hr : r = 0
    · right; right; left; simp [hr]
    · right; left; simp; omega
  · right; right; right; left; simp; omega
  · right; right; right; right; left; simp; omega
  · by_cases hr : r = 0
    · right; right; right; right; right; left; simp [hr]
    · right; right; right; right; right; right; left; simp; omega
  · right; right; right; right; right; right; right; simp; omega
set_option maxHeartbeats 4000000 in
theorem one_any (n : Int) (A : Option Addr) (cap : Nat) (l : List Int) (w : World) (hT : Tab w) (h0 : 0 < w.heap.size) (hr : RdI w A l) (hn : ∀ x ∈ l, -9223372036854775808 ≤ x ∧ x ≤ 9223372036854775807) : Calls Tryd.prog 8 #[.int .i64 n, .slice A l.length cap] w fun e w' => e = .returned (.bool true) ∧ Ev w w' := by
  have HM := Lib.hid (made_any n A cap l w hr hn)
  have H7 : Hid (∀ W, Ev w W → Calls Tryd.prog 17 #[] W fun e w' => e = .returned (.bool true) ∧ Ev w w') := Lib.hid fun W e => evN e (awake_any W (hT.ev h0 e) (by have := Below.size e; omega))
  clear hT hr hn
  go_enter Tryd.func8, Tryd.ntmps8
  go_wp2_with fail
  refine HM.out.mono ?_
  rintro e w1 ⟨s, r, c, rfl, hok, hev⟩
  have HB : Hid (∀ W, Ev (w1.alloc (.cells #[.int .i64 s, .int .i64 r, .int .i64 c] 23)) W → W.cell? ⟨w1.heap.size, 0, none⟩ = some (.int .i64 s) ∧ W.cell? ⟨w1.heap.size, 1, none⟩ = some (.int .i64 r) ∧ W.cell? ⟨w1.heap.size, 2, none⟩ = some (.int .i64 c)) := Lib.hid fun W e => ((Bx3.new w1 s r c 23).ev (by simp) e).1
  have HE : Hid (∀ W, Ev (w1.alloc (.cells #[.int .i64 s, .int .i64 r, .int .i64 c] 23)) W → Ev w W) := Lib.hid fun W e => (hev.alloc _).step e
  have H1 : Hid (∀ W, Ev (w1.alloc (.cells #[.int .i64 s, .int .i64 r, .int .i64 c] 23)) W → Calls Tryd.prog 18 #[wt s r c] W fun e w' => e = .returned (.tuple #[.int .i64 (roR s r c), .int .i64 0]) ∧ Ev (w1.alloc (.cells #[.int .i64 s, .int .i64 r, .int .i64 c] 23)) w') := Lib.hid fun W e => by have h := role_any s r c W; rw [hok] at h; exact evN e h
  have H2 : Hid (∀ W, Ev (w1.alloc (.cells #[.int .i64 s, .int .i64 r, .int .i64 c] 23)) W → Calls Tryd.prog 20 #[wt s r c] W fun e w' => e = .returned (.tuple #[.bool (slF s r c), .bool (slB s r c), .int .i64 0]) ∧ Ev (w1.alloc (.cells #[.int .i64 s, .int .i64 r, .int .i64 c] 23)) w') := Lib.hid fun W e => by have h := slot_any s r c W; rw [hok] at h; exact evN e h
  have hcs := one_cases hok
  generalize roR s r c = ro at *
  generalize slF s r c = fr at *
  generalize slB s r c = bu at *
  clear hok hev HM
  go_wp2_with fail
  refine (H1.out _ (Ev.refl _)).mono ?_
  rintro e w2 ⟨rfl, hev⟩
  obtain ⟨x0, x1, x2⟩ := HB.out _ hev
  go_wp2_with fail
  refine (H2.out _ hev).mono ?_
  clear x0 x1 x2 hev
  rintro e w3 ⟨rfl, hev⟩
  obtain ⟨x0, x1, x2⟩ := HB.out _ hev
  rcases hcs with ⟨rfl, h2, rfl, rfl, rfl⟩ | ⟨rfl, h2, rfl, rfl, rfl⟩ | ⟨rfl, rfl, rfl, rfl, rfl⟩ | ⟨rfl, h2, rfl, rfl, rfl⟩ | ⟨rfl, h2, rfl, rfl, rfl⟩ | ⟨rfl, rfl, rfl, rfl, rfl⟩ | ⟨rfl, h2, rfl, rfl, rfl⟩ | ⟨rfl, rfl, rfl, rfl, rfl⟩
  all_goals
    go_wp2_with fail
    refine (H7.out _ (HE.out _ hev)).mono ?_
    rintro e w4 ⟨rfl, hev4⟩
    go_wp2_with fail
    go_ret
    exact ⟨rfl, hev4⟩
end Go.Proofs.YtkkmnpjkladhfaaDoor
