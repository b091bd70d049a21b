/- Contract of package pvm's mayVm, proved over the translation. -/
import Derived.Test.YthdpdnibgmjdaaaDoorVdat
namespace Go.Proofs.YthdpdnibgmjdaaaDoor
open Go.RowKit
attribute [local go_sem] alloc_drewN setCell_drewN

theorem memA_run (m : Nat → Int) (j : Nat) (h : j < 16) (W : World) : (Instr.index 23 (.agg (memA m)) (.int .i64 j)).run Tryd.prog W = .ok (.int .i64 (m j)) W := by
  have : j = 0 ∨ j = 1 ∨ j = 2 ∨ j = 3 ∨ j = 4 ∨ j = 5 ∨ j = 6 ∨ j = 7 ∨ j = 8 ∨ j = 9 ∨ j = 10 ∨ j = 11 ∨ j = 12 ∨ j = 13 ∨ j = 14 ∨ j = 15 := by omega
  clear h
  rcases this with rfl | rfl | rfl | rfl | rfl | rfl | rfl | rfl | rfl | rfl | rfl | rfl | rfl | rfl | rfl | rfl
  all_goals rfl

set_option maxRecDepth 100000 in
set_option maxHeartbeats 2000000 in
theorem mayVm_any (a : Option Addr) (N cap : Nat) (v : VmS) (w : World) :
    Calls Tryd.prog 20 #[.slice a N cap, vmV v] w fun e w' => e = .returned (.bool (vmMay N v)) ∧ w.grownBy w' none := by
  obtain ⟨pc, acc, m⟩ := v
  unfold vmMay
  dsimp only [vmV, memA]
  have CW := hide isWord_any
  by_cases h0 : 0 ≤ pc
  · rw [decide_eq_true h0]
    by_cases h1 : pc < max (N : Int) 1
    · rw [decide_eq_true h1]
      simp only [Bool.true_and]
      have h1' : ¬ max (N : Int) 1 ≤ pc := by omega
      generalize hM : max (N : Int) 1 = M at *
      cases hA : isW acc with
      | true =>
        have CA := hide (fun W => hA ▸ isWord_any acc W)
        have HA := hide hA
        clear hA
        have HI := hide (memA_run m)
        go_enter Tryd.func20, Tryd.ntmps20
        go_wp2_with (first | fail)
        refine (CA.out _).mono ?_; rintro e w' ⟨rfl, rfl⟩
        clear CA
        go_wp2
        go_loopw [6, 26] (fun _ i W => ∃ (j : Nat), j ≤ 16 ∧ i = .int .i64 j ∧ Hid (w.grownBy W none) ∧ Hid (∀ i, i < j → isW (m i) = true)) (fun _ i _ => 16 - (intOf i).toNat)
        case atStart => exact ⟨0, by omega, rfl, World.grownBy_alloc _ _ _, fun i hi => absurd hi (Nat.not_lt_zero _)⟩
        case round =>
          obtain ⟨j, hj, rfl, HG, HP⟩ := hrel
          by_cases hlt : j < 16
          · have hi := HI.out j hlt
            dsimp only [memA] at hi
            have C := hide (isWord_any (m j) wr)
            cases hb : isW (m j) with
            | true =>
              rw [hb] at C
              have HB := hide hb
              clear hb
              go_wp2_with (first | fail)
              refine C.out.mono ?_; rintro e w' ⟨rfl, rfl⟩
              clear C hi
              go_wp2
              go_roundw
              case rel =>
                refine ⟨j + 1, by omega, by go_num, HG, fun i hi => ?_⟩
                rcases (by omega : i < j ∨ i = j) with h | rfl
                · exact HP.out i h
                · exact HB.out
              case measure => simp [intOf]; omega
            | false =>
              rw [hb] at C
              have HB := hide hb
              clear hb
              go_wp2_with (first | fail)
              refine C.out.mono ?_; rintro e w' ⟨rfl, rfl⟩
              clear C hi
              go_wp2
              go_ret
              refine ⟨?_, HG.out⟩
              rw [show allB 16 (fun i => isW (m i)) = false from allB_false hlt HB.out]
              rfl
          · obtain rfl : j = 16 := by omega
            go_wp2
            go_ret
            refine ⟨?_, HG.out⟩
            rw [show allB 16 (fun i => isW (m i)) = true from allB_true HP.out]
            rfl
      | false =>
        have CA := hide (fun W => hA ▸ isWord_any acc W)
        clear hA
        simp only [Bool.false_and]
        go_enter Tryd.func20, Tryd.ntmps20
        go_wp2_with (first | fail)
        refine (CA.out _).mono ?_; rintro e w' ⟨rfl, rfl⟩
        clear CA
        go_wp2
        go_ret
        exact ⟨rfl, World.grownBy_alloc _ _ _⟩
    · rw [decide_eq_false h1]
      simp only [Bool.false_and, Bool.and_false]
      go_enter Tryd.func20, Tryd.ntmps20
      go_wp2
      go_ret
      exact ⟨rfl, World.grownBy_alloc _ _ _⟩
  · rw [decide_eq_false h0]
    simp only [Bool.false_and]
    go_enter Tryd.func20, Tryd.ntmps20
    go_wp2
    go_ret
    exact ⟨rfl, World.grownBy_alloc _ _ _⟩
end Go.Proofs.YthdpdnibgmjdaaaDoor
