import Derived.Test.YtfiglmbnjfgdlaaDoorD3
namespace Go.Proofs.YtfiglmbnjfgdlaaDoor
open Go.RowKit
def pt (k : Nat) : Nat := [0, 0, 66, 84, 72, 84, 96, 0, 0, 80, 0, 0, 32, 0, 0, 16, 0, 0].getD k 0
def Tab (w : World) : Prop := 1 ≤ w.heap.size ∧ ∀ j, j < 18 → w.cell? ⟨0, j, none⟩ = some (.int .u8 (pt j : Int))
theorem Tab.ev {w w' : World} (h : Tab w) (e : Ev w w') : Tab w' := ⟨Nat.le_trans h.1 e.sz, fun j hj => by rw [e.cell (p := ⟨0, j, none⟩) h.1]; exact h.2 j hj⟩
set_option maxRecDepth 100000 in
set_option maxHeartbeats 16000000 in
theorem may_any (s f w e : Int) (W : World) (hT : Tab W) (hc : ck s f w = 0) (he : 1 ≤ e ∧ e ≤ 6) : Calls Tryd.prog 44 #[rd s f w, .int .i64 e] W fun x w' => x = .returned (.bool (mayV s w e)) ∧ Ev W w' := by
  have HE : Hid (Ev W (W.alloc (rdO s f w))) := Lib.hid (al1 _ _)
  have HT := Lib.hid (hT.ev HE.out)
  unfold mayV
  rcases ck_sw s f w hc with ⟨rfl, hb⟩ | ⟨rfl, hb⟩ | ⟨rfl, hb⟩ | ⟨rfl, hb⟩ | ⟨rfl, hb⟩ | ⟨rfl, hb⟩ | ⟨rfl, hb⟩ | ⟨rfl, hb⟩ | ⟨rfl, hb⟩ | ⟨rfl, hb⟩ | ⟨rfl, hb⟩
  · rw [hb]
    have c0 : (W.alloc (rdO 1 f w)).cell? ⟨0, 2, none⟩ = some (.int .u8 66) := HT.out.2 2 (by decide)
    clear hc hT
    rcases (show e = 1 ∨ e = 2 ∨ e = 3 ∨ e = 4 ∨ e = 5 ∨ e = 6 by omega) with rfl | rfl | rfl | rfl | rfl | rfl
    all_goals
      clear he
      go_enter Tryd.func44, Tryd.ntmps44
      go_wp2_with fail
      go_ret
      exact ⟨rfl, HE.out⟩
  · rw [hb]
    have c0 : (W.alloc (rdO 1 f w)).cell? ⟨0, 3, none⟩ = some (.int .u8 84) := HT.out.2 3 (by decide)
    clear hc hT
    rcases (show e = 1 ∨ e = 2 ∨ e = 3 ∨ e = 4 ∨ e = 5 ∨ e = 6 by omega) with rfl | rfl | rfl | rfl | rfl | rfl
    all_goals
      clear he
      go_enter Tryd.func44, Tryd.ntmps44
      go_wp2_with fail
      go_ret
      exact ⟨rfl, HE.out⟩
  · rw [hb]
    have c0 : (W.alloc (rdO 2 f w)).cell? ⟨0, 4, none⟩ = some (.int .u8 72) := HT.out.2 4 (by decide)
    clear hc hT
    rcases (show e = 1 ∨ e = 2 ∨ e = 3 ∨ e = 4 ∨ e = 5 ∨ e = 6 by omega) with rfl | rfl | rfl | rfl | rfl | rfl
    all_goals
      clear he
      go_enter Tryd.func44, Tryd.ntmps44
      go_wp2_with fail
      go_ret
      exact ⟨rfl, HE.out⟩
  · rw [hb]
    have c0 : (W.alloc (rdO 2 f w)).cell? ⟨0, 5, none⟩ = some (.int .u8 84) := HT.out.2 5 (by decide)
    clear hc hT
    rcases (show e = 1 ∨ e = 2 ∨ e = 3 ∨ e = 4 ∨ e = 5 ∨ e = 6 by omega) with rfl | rfl | rfl | rfl | rfl | rfl
    all_goals
      clear he
      go_enter Tryd.func44, Tryd.ntmps44
      go_wp2_with fail
      go_ret
      exact ⟨rfl, HE.out⟩
  · rw [hb]
    have c0 : (W.alloc (rdO 3 f w)).cell? ⟨0, 6, none⟩ = some (.int .u8 96) := HT.out.2 6 (by decide)
    clear hc hT
    rcases (show e = 1 ∨ e = 2 ∨ e = 3 ∨ e = 4 ∨ e = 5 ∨ e = 6 by omega) with rfl | rfl | rfl | rfl | rfl | rfl
    all_goals
      clear he
      go_enter Tryd.func44, Tryd.ntmps44
      go_wp2_with fail
      go_ret
      exact ⟨rfl, HE.out⟩
  · rw [hb]
    have c0 : (W.alloc (rdO 4 f w)).cell? ⟨0, 9, none⟩ = some (.int .u8 80) := HT.out.2 9 (by decide)
    clear hc hT
    rcases (show e = 1 ∨ e = 2 ∨ e = 3 ∨ e = 4 ∨ e = 5 ∨ e = 6 by omega) with rfl | rfl | rfl | rfl | rfl | rfl
    all_goals
      clear he
      go_enter Tryd.func44, Tryd.ntmps44
      go_wp2_with fail
      go_ret
      exact ⟨rfl, HE.out⟩
  · rw [hb]
    have c0 : (W.alloc (rdO 5 f w)).cell? ⟨0, 10, none⟩ = some (.int .u8 0) := HT.out.2 10 (by decide)
    clear hc hT
    rcases (show e = 1 ∨ e = 2 ∨ e = 3 ∨ e = 4 ∨ e = 5 ∨ e = 6 by omega) with rfl | rfl | rfl | rfl | rfl | rfl
    all_goals
      clear he
      go_enter Tryd.func44, Tryd.ntmps44
      go_wp2_with fail
      go_ret
      exact ⟨rfl, HE.out⟩
  · rw [hb]
    have c0 : (W.alloc (rdO 6 f w)).cell? ⟨0, 12, none⟩ = some (.int .u8 32) := HT.out.2 12 (by decide)
    clear hc hT
    rcases (show e = 1 ∨ e = 2 ∨ e = 3 ∨ e = 4 ∨ e = 5 ∨ e = 6 by omega) with rfl | rfl | rfl | rfl | rfl | rfl
    all_goals
      clear he
      go_enter Tryd.func44, Tryd.ntmps44
      go_wp2_with fail
      go_ret
      exact ⟨rfl, HE.out⟩
  · rw [hb]
    have c0 : (W.alloc (rdO 7 f w)).cell? ⟨0, 14, none⟩ = some (.int .u8 0) := HT.out.2 14 (by decide)
    clear hc hT
    rcases (show e = 1 ∨ e = 2 ∨ e = 3 ∨ e = 4 ∨ e = 5 ∨ e = 6 by omega) with rfl | rfl | rfl | rfl | rfl | rfl
    all_goals
      clear he
      go_enter Tryd.func44, Tryd.ntmps44
      go_wp2_with fail
      go_ret
      exact ⟨rfl, HE.out⟩
  · rw [hb]
    have c0 : (W.alloc (rdO 7 f w)).cell? ⟨0, 15, none⟩ = some (.int .u8 16) := HT.out.2 15 (by decide)
    clear hc hT
    rcases (show e = 1 ∨ e = 2 ∨ e = 3 ∨ e = 4 ∨ e = 5 ∨ e = 6 by omega) with rfl | rfl | rfl | rfl | rfl | rfl
    all_goals
      clear he
      go_enter Tryd.func44, Tryd.ntmps44
      go_wp2_with fail
      go_ret
      exact ⟨rfl, HE.out⟩
  · rw [hb]
    have c0 : (W.alloc (rdO 8 f w)).cell? ⟨0, 16, none⟩ = some (.int .u8 0) := HT.out.2 16 (by decide)
    clear hc hT
    rcases (show e = 1 ∨ e = 2 ∨ e = 3 ∨ e = 4 ∨ e = 5 ∨ e = 6 by omega) with rfl | rfl | rfl | rfl | rfl | rfl
    all_goals
      clear he
      go_enter Tryd.func44, Tryd.ntmps44
      go_wp2_with fail
      go_ret
      exact ⟨rfl, HE.out⟩
set_option maxRecDepth 100000 in
set_option maxHeartbeats 16000000 in
theorem allows_any (s f w e : Int) (W : World) (hc : ck s f w = 0) (he : 1 ≤ e ∧ e ≤ 6) : Calls Tryd.prog 42 #[rd s f w, .int .i64 e] W fun x w' => x = .returned (.bool (mayV s w e)) ∧ Ev W w' := by
  have HE : Hid (Ev W (W.alloc (rdO s f w))) := Lib.hid (al1 _ _)
  unfold mayV
  rcases ck_sw s f w hc with ⟨rfl, hb⟩ | ⟨rfl, hb⟩ | ⟨rfl, hb⟩ | ⟨rfl, hb⟩ | ⟨rfl, hb⟩ | ⟨rfl, hb⟩ | ⟨rfl, hb⟩ | ⟨rfl, hb⟩ | ⟨rfl, hb⟩ | ⟨rfl, hb⟩ | ⟨rfl, hb⟩
  all_goals
    rw [hb]
    clear hc
    rcases (show e = 1 ∨ e = 2 ∨ e = 3 ∨ e = 4 ∨ e = 5 ∨ e = 6 by omega) with rfl | rfl | rfl | rfl | rfl | rfl
    all_goals
      clear he
      go_enter Tryd.func42, Tryd.ntmps42
      go_wp2_with fail
      go_ret
      exact ⟨rfl, HE.out⟩
end Go.Proofs.YtfiglmbnjfgdlaaDoor
