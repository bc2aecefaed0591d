import Derived.Test.YtjlgaddnibelfaaZ3
import Derived.StillTailTactics
import Derived.Laws.EntriesVeiled
namespace Go.Proofs.Ytjlgaddnibelfaa
open Go.RowKit

theorem f44 (mn lo hi : Int) (w : World) : Calls Try.prog 44 #[mk mn lo hi] w fun e w' => e = .returned (.int .i64 mn) ∧ Below w.heap.size w w' := by
  go_enter Try.func44, Try.ntmps44
  go_wp2
  go_ret
  exact ⟨rfl, al1 _ _⟩
theorem f45 (mn lo hi : Int) (w : World) : Calls Try.prog 45 #[mk mn lo hi] w fun e w' => e = .returned (.int .i64 0) ∧ Below w.heap.size w w' := by
  go_enter Try.func45, Try.ntmps45
  go_wp2
  go_ret
  exact ⟨rfl, al1 _ _⟩
theorem f46 (mn lo hi : Int) (w : World) : Calls Try.prog 46 #[mk mn lo hi] w fun e w' => e = .returned (.int .i64 hi) ∧ Below w.heap.size w w' := by
  go_enter Try.func46, Try.ntmps46
  go_wp2
  go_ret
  exact ⟨rfl, al1 _ _⟩
set_option maxHeartbeats 400000 in
theorem floor_any (mn lo hi c : Int) (w : World) (h : 1 ≤ c ∧ c ≤ 3) : Calls Try.prog 36 #[.int .i64 c, mk mn lo hi] w fun e w' => e = .returned (.int .i64 (flr mn hi c)) ∧ Below w.heap.size w w' := by
  rcases (show c = 1 ∨ c = 2 ∨ c = 3 by omega) with rfl | rfl | rfl
  · go_enter Try.func36, Try.ntmps36
    go_wp2
    have hb : Ev w ((w.alloc (.cells #[.int .i64 mn, .int .i64 lo, .int .i64 hi] 23)).alloc (.cells #[.nilFunc, .func (.func 44) #[] #[], .func (.func 45) #[] #[], .func (.func 46) #[] #[]] 66)) := ((Ev.refl _).alloc _).alloc _
    have c0 : Box3 ((w.alloc (.cells #[.int .i64 mn, .int .i64 lo, .int .i64 hi] 23)).alloc (.cells #[.nilFunc, .func (.func 44) #[] #[], .func (.func 45) #[] #[], .func (.func 46) #[] #[]] 66)) w.heap.size mn lo hi := by unfold Box3; simp
    have c3 : ((w.alloc (.cells #[.int .i64 mn, .int .i64 lo, .int .i64 hi] 23)).alloc (.cells #[.nilFunc, .func (.func 44) #[] #[], .func (.func 45) #[] #[], .func (.func 46) #[] #[]] 66)).cell? ⟨w.heap.size + 1, 1, none⟩ = some (.func (.func 44) #[] #[]) := by simp
    have z0 : w.heap.size + 1 < ((w.alloc (.cells #[.int .i64 mn, .int .i64 lo, .int .i64 hi] 23)).alloc (.cells #[.nilFunc, .func (.func 44) #[] #[], .func (.func 45) #[] #[], .func (.func 46) #[] #[]] 66)).heap.size := by simp
    generalize ((w.alloc (.cells #[.int .i64 mn, .int .i64 lo, .int .i64 hi] 23)).alloc (.cells #[.nilFunc, .func (.func 44) #[] #[], .func (.func 45) #[] #[], .func (.func 46) #[] #[]] 66)) = W at *
    have HS : Hid (∀ X, Ev W X → X.cell? ⟨w.heap.size, 0, none⟩ = some (.int .i64 mn) ∧ X.cell? ⟨w.heap.size, 1, none⟩ = some (.int .i64 lo) ∧ X.cell? ⟨w.heap.size, 2, none⟩ = some (.int .i64 hi) ∧ X.cell? ⟨w.heap.size + 1, 1, none⟩ = some (.func (.func 44) #[] #[])) := Lib.hid fun X e => by
      obtain ⟨p, q, r⟩ := c0.ev (by omega) e
      exact ⟨p, q, r, ((bc e).1 _ _ z0).trans c3⟩
    have HC : Hid (∀ X, Ev W X → Calls Try.prog 44 #[mk mn lo hi] X fun e w' => e = .returned (.int .i64 (flr mn hi 1)) ∧ Ev W w') := Lib.hid fun X e => ev_call e (f44 mn lo hi X)
    have hev := Ev.refl W
    have HB := Lib.hid hb
    clear c0 c3 z0 hb
    go_region_held3 (fun w' => w'.cell? ⟨w.heap.size, 0, none⟩ = some (.int .i64 mn) ∧ w'.cell? ⟨w.heap.size, 1, none⟩ = some (.int .i64 lo) ∧ w'.cell? ⟨w.heap.size, 2, none⟩ = some (.int .i64 hi) ∧ w'.cell? ⟨w.heap.size + 1, 1, none⟩ = some (.func (.func 44) #[] #[]))
      (first | exact HS.out _ (by assumption) | exact HS.out _ (Ev.drew (by assumption)))
      (first | (go_at_call 44; refine (HC.out _ (by first | assumption | exact Ev.drew (by assumption))).mono ?_; rintro e w' ⟨rfl, hev'⟩))
    go_wp2
    go_ret
    exact ⟨rfl, HB.out.step hev'⟩
  · go_enter Try.func36, Try.ntmps36
    go_wp2
    have hb : Ev w ((w.alloc (.cells #[.int .i64 mn, .int .i64 lo, .int .i64 hi] 23)).alloc (.cells #[.nilFunc, .func (.func 44) #[] #[], .func (.func 45) #[] #[], .func (.func 46) #[] #[]] 66)) := ((Ev.refl _).alloc _).alloc _
    have c0 : Box3 ((w.alloc (.cells #[.int .i64 mn, .int .i64 lo, .int .i64 hi] 23)).alloc (.cells #[.nilFunc, .func (.func 44) #[] #[], .func (.func 45) #[] #[], .func (.func 46) #[] #[]] 66)) w.heap.size mn lo hi := by unfold Box3; simp
    have c3 : ((w.alloc (.cells #[.int .i64 mn, .int .i64 lo, .int .i64 hi] 23)).alloc (.cells #[.nilFunc, .func (.func 44) #[] #[], .func (.func 45) #[] #[], .func (.func 46) #[] #[]] 66)).cell? ⟨w.heap.size + 1, 2, none⟩ = some (.func (.func 45) #[] #[]) := by simp
    have z0 : w.heap.size + 1 < ((w.alloc (.cells #[.int .i64 mn, .int .i64 lo, .int .i64 hi] 23)).alloc (.cells #[.nilFunc, .func (.func 44) #[] #[], .func (.func 45) #[] #[], .func (.func 46) #[] #[]] 66)).heap.size := by simp
    generalize ((w.alloc (.cells #[.int .i64 mn, .int .i64 lo, .int .i64 hi] 23)).alloc (.cells #[.nilFunc, .func (.func 44) #[] #[], .func (.func 45) #[] #[], .func (.func 46) #[] #[]] 66)) = W at *
    have HS : Hid (∀ X, Ev W X → X.cell? ⟨w.heap.size, 0, none⟩ = some (.int .i64 mn) ∧ X.cell? ⟨w.heap.size, 1, none⟩ = some (.int .i64 lo) ∧ X.cell? ⟨w.heap.size, 2, none⟩ = some (.int .i64 hi) ∧ X.cell? ⟨w.heap.size + 1, 2, none⟩ = some (.func (.func 45) #[] #[])) := Lib.hid fun X e => by
      obtain ⟨p, q, r⟩ := c0.ev (by omega) e
      exact ⟨p, q, r, ((bc e).1 _ _ z0).trans c3⟩
    have HC : Hid (∀ X, Ev W X → Calls Try.prog 45 #[mk mn lo hi] X fun e w' => e = .returned (.int .i64 (flr mn hi 2)) ∧ Ev W w') := Lib.hid fun X e => ev_call e (f45 mn lo hi X)
    have hev := Ev.refl W
    have HB := Lib.hid hb
    clear c0 c3 z0 hb
    go_region_held3 (fun w' => w'.cell? ⟨w.heap.size, 0, none⟩ = some (.int .i64 mn) ∧ w'.cell? ⟨w.heap.size, 1, none⟩ = some (.int .i64 lo) ∧ w'.cell? ⟨w.heap.size, 2, none⟩ = some (.int .i64 hi) ∧ w'.cell? ⟨w.heap.size + 1, 2, none⟩ = some (.func (.func 45) #[] #[]))
      (first | exact HS.out _ (by assumption) | exact HS.out _ (Ev.drew (by assumption)))
      (first | (go_at_call 45; refine (HC.out _ (by first | assumption | exact Ev.drew (by assumption))).mono ?_; rintro e w' ⟨rfl, hev'⟩))
    go_wp2
    go_ret
    exact ⟨rfl, HB.out.step hev'⟩
  · go_enter Try.func36, Try.ntmps36
    go_wp2
    have hb : Ev w ((w.alloc (.cells #[.int .i64 mn, .int .i64 lo, .int .i64 hi] 23)).alloc (.cells #[.nilFunc, .func (.func 44) #[] #[], .func (.func 45) #[] #[], .func (.func 46) #[] #[]] 66)) := ((Ev.refl _).alloc _).alloc _
    have c0 : Box3 ((w.alloc (.cells #[.int .i64 mn, .int .i64 lo, .int .i64 hi] 23)).alloc (.cells #[.nilFunc, .func (.func 44) #[] #[], .func (.func 45) #[] #[], .func (.func 46) #[] #[]] 66)) w.heap.size mn lo hi := by unfold Box3; simp
    have c3 : ((w.alloc (.cells #[.int .i64 mn, .int .i64 lo, .int .i64 hi] 23)).alloc (.cells #[.nilFunc, .func (.func 44) #[] #[], .func (.func 45) #[] #[], .func (.func 46) #[] #[]] 66)).cell? ⟨w.heap.size + 1, 3, none⟩ = some (.func (.func 46) #[] #[]) := by simp
    have z0 : w.heap.size + 1 < ((w.alloc (.cells #[.int .i64 mn, .int .i64 lo, .int .i64 hi] 23)).alloc (.cells #[.nilFunc, .func (.func 44) #[] #[], .func (.func 45) #[] #[], .func (.func 46) #[] #[]] 66)).heap.size := by simp
    generalize ((w.alloc (.cells #[.int .i64 mn, .int .i64 lo, .int .i64 hi] 23)).alloc (.cells #[.nilFunc, .func (.func 44) #[] #[], .func (.func 45) #[] #[], .func (.func 46) #[] #[]] 66)) = W at *
    have HS : Hid (∀ X, Ev W X → X.cell? ⟨w.heap.size, 0, none⟩ = some (.int .i64 mn) ∧ X.cell? ⟨w.heap.size, 1, none⟩ = some (.int .i64 lo) ∧ X.cell? ⟨w.heap.size, 2, none⟩ = some (.int .i64 hi) ∧ X.cell? ⟨w.heap.size + 1, 3, none⟩ = some (.func (.func 46) #[] #[])) := Lib.hid fun X e => by
      obtain ⟨p, q, r⟩ := c0.ev (by omega) e
      exact ⟨p, q, r, ((bc e).1 _ _ z0).trans c3⟩
    have HC : Hid (∀ X, Ev W X → Calls Try.prog 46 #[mk mn lo hi] X fun e w' => e = .returned (.int .i64 (flr mn hi 3)) ∧ Ev W w') := Lib.hid fun X e => ev_call e (f46 mn lo hi X)
    have hev := Ev.refl W
    have HB := Lib.hid hb
    clear c0 c3 z0 hb
    go_region_held3 (fun w' => w'.cell? ⟨w.heap.size, 0, none⟩ = some (.int .i64 mn) ∧ w'.cell? ⟨w.heap.size, 1, none⟩ = some (.int .i64 lo) ∧ w'.cell? ⟨w.heap.size, 2, none⟩ = some (.int .i64 hi) ∧ w'.cell? ⟨w.heap.size + 1, 3, none⟩ = some (.func (.func 46) #[] #[]))
      (first | exact HS.out _ (by assumption) | exact HS.out _ (Ev.drew (by assumption)))
      (first | (go_at_call 46; refine (HC.out _ (by first | assumption | exact Ev.drew (by assumption))).mono ?_; rintro e w' ⟨rfl, hev'⟩))
    go_wp2
    go_ret
    exact ⟨rfl, HB.out.step hev'⟩
end Go.Proofs.Ytjlgaddnibelfaa
