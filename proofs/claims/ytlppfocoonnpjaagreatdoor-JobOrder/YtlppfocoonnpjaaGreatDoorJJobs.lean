/- Contracts of what the program asks of a job: may.Prio, may.Clock, may.Demand, mayJob; and of the library's Compare; proved over the translation. -/
import Derived.Test.YtlppfocoonnpjaaGreatDoorQb
namespace Go.Proofs.YtlppfocoonnpjaaGreatDoor.J
open Go.RowKit
attribute [local go_sem] alloc_drewN setCell_drewN

theorem prio_any (x : Int) (w : World) : Calls Tryz.prog 107 #[.int .i64 x] w fun e w' => e = .returned (.bool (decide (0 ≤ x) && decide (x ≤ 255))) ∧ w = w' := by
  by_cases h0 : 0 ≤ x
  · by_cases h1 : x ≤ 255
    · rw [decide_eq_true h0, decide_eq_true h1]
      go_enter Tryz.func107, Tryz.ntmps107
      go_wp2
      go_ret
      exact ⟨rfl, rfl⟩
    · rw [decide_eq_true h0, decide_eq_false h1]
      go_enter Tryz.func107, Tryz.ntmps107
      go_wp2
      go_ret
      exact ⟨rfl, rfl⟩
  · rw [decide_eq_false h0]
    go_enter Tryz.func107, Tryz.ntmps107
    go_wp2
    go_ret
    exact ⟨rfl, rfl⟩
theorem clock_any (x : Int) (w : World) : Calls Tryz.prog 37 #[.int .i64 x] w fun e w' => e = .returned (.bool (decide (0 ≤ x) && decide (x ≤ 1099511627776))) ∧ w = w' := by
  by_cases h0 : 0 ≤ x
  · by_cases h1 : x ≤ 1099511627776
    · rw [decide_eq_true h0, decide_eq_true h1]
      go_enter Tryz.func37, Tryz.ntmps37
      go_wp2
      go_ret
      exact ⟨rfl, rfl⟩
    · rw [decide_eq_true h0, decide_eq_false h1]
      go_enter Tryz.func37, Tryz.ntmps37
      go_wp2
      go_ret
      exact ⟨rfl, rfl⟩
  · rw [decide_eq_false h0]
    go_enter Tryz.func37, Tryz.ntmps37
    go_wp2
    go_ret
    exact ⟨rfl, rfl⟩
theorem demand_any (x : Int) (w : World) : Calls Tryz.prog 87 #[.int .i64 x] w fun e w' => e = .returned (.bool (decide (1 ≤ x) && decide (x ≤ 65535))) ∧ w = w' := by
  by_cases h0 : 1 ≤ x
  · by_cases h1 : x ≤ 65535
    · rw [decide_eq_true h0, decide_eq_true h1]
      go_enter Tryz.func87, Tryz.ntmps87
      go_wp2
      go_ret
      exact ⟨rfl, rfl⟩
    · rw [decide_eq_true h0, decide_eq_false h1]
      go_enter Tryz.func87, Tryz.ntmps87
      go_wp2
      go_ret
      exact ⟨rfl, rfl⟩
  · rw [decide_eq_false h0]
    go_enter Tryz.func87, Tryz.ntmps87
    go_wp2
    go_ret
    exact ⟨rfl, rfl⟩
theorem nan_any (x : Int) (w : World) : Calls Tryz.prog 139 #[.int .i64 x] w fun e w' => e = .returned (.bool false) ∧ w = w' := by
  go_enter Tryz.func139, Tryz.ntmps139
  go_wp2
  go_ret
  exact ⟨rfl, rfl⟩
set_option maxHeartbeats 1000000 in
theorem cmpI_any (x y : Int) (w : World) : Calls Tryz.prog 138 #[.int .i64 x, .int .i64 y] w fun e w' => e = .returned (.int .i64 (cmpI x y)) ∧ w = w' := by
  have CN := hide nan_any
  unfold cmpI
  by_cases h0 : x < y
  · rw [if_pos h0]
    go_enter Tryz.func138, Tryz.ntmps138
    go_wp2_with (go_at_call 139; refine (CN.out _ _).mono ?_; rintro e w' ⟨rfl, rfl⟩)
    go_ret
    exact ⟨rfl, rfl⟩
  · rw [if_neg h0]
    by_cases h1 : y < x
    · rw [if_pos h1]
      go_enter Tryz.func138, Tryz.ntmps138
      go_wp2_with (go_at_call 139; refine (CN.out _ _).mono ?_; rintro e w' ⟨rfl, rfl⟩)
      go_ret
      exact ⟨rfl, rfl⟩
    · rw [if_neg h1]
      go_enter Tryz.func138, Tryz.ntmps138
      go_wp2_with (go_at_call 139; refine (CN.out _ _).mono ?_; rintro e w' ⟨rfl, rfl⟩)
      go_ret
      exact ⟨rfl, rfl⟩
set_option maxRecDepth 100000 in
set_option maxHeartbeats 1000000 in
theorem or_any (x y z : Int) (g : Nat) (w : World) (h0 : w.cell? ⟨g, 0, none⟩ = some (.int .i64 x)) (h1 : w.cell? ⟨g, 1, none⟩ = some (.int .i64 y)) (h2 : w.cell? ⟨g, 2, none⟩ = some (.int .i64 z)) :
    Calls Tryz.prog 137 #[.slice (some ⟨g, 0, none⟩) 3 3] w fun e w' => e = .returned (.int .i64 (orI x y z)) ∧ w = w' := by
  have HE : Hid (x = 0 → y = 0 → z = 0 → orI x y z = 0) := hide (fun h0 h1 h2 => by unfold orI; rw [if_neg (by omega), if_neg (by omega), h2])
  have H0 : Hid (x ≠ 0 → orI x y z = x) := hide (fun h0 => by unfold orI; rw [if_pos h0])
  have H1 : Hid (x = 0 → y ≠ 0 → orI x y z = y) := hide (fun h0 h1 => by unfold orI; rw [if_neg (by omega), if_pos h1])
  have H2 : Hid (x = 0 → y = 0 → z ≠ 0 → orI x y z = z) := hide (fun h0 h1 h2 => by unfold orI; rw [if_neg (by omega), if_neg (by omega)])
  generalize orI x y z = A at *
  go_enter Tryz.func137, Tryz.ntmps137
  go_wp2
  go_loopw [5, 8] (fun _ i W => ∃ (j : Nat), j ≤ 3 ∧ i = .int .i64 j ∧ W = w ∧ Hid ((0 < j → x = 0) ∧ (1 < j → y = 0) ∧ (2 < j → z = 0))) (fun _ i _ => 3 - (intOf i).toNat)
  case atStart => exact ⟨0, by omega, rfl, rfl, hide ⟨by omega, by omega, by omega⟩⟩
  case round =>
    obtain ⟨j, hj, rfl, rfl, HP⟩ := hrel
    have hlast : j = 3 → A = 0 := fun h => HE.out (HP.out.1 (by omega)) (HP.out.2.1 (by omega)) (HP.out.2.2 (by omega))
    have HL := hide hlast
    clear hlast
    rcases (by omega : j = 0 ∨ j = 1 ∨ j = 2 ∨ j = 3) with rfl | rfl | rfl | rfl
    · by_cases hx : x = 0
      · have HX := hide hx
        go_wp2
        go_roundw
        case rel => exact ⟨1, by omega, by go_num, by first | rfl | trivial, hide ⟨fun _ => HX.out, by omega, by omega⟩⟩
        case measure => simp [intOf]
      · have e := H0.out hx
        clear HE H1 H2 HL H0
        subst e
        go_wp2
        go_ret
        exact ⟨rfl, rfl⟩
    · have HX := hide (HP.out.1 (by omega))
      by_cases hy : y = 0
      · have HY := hide hy
        go_wp2
        go_roundw
        case rel => exact ⟨2, by omega, by go_num, by first | rfl | trivial, hide ⟨fun _ => HX.out, fun _ => HY.out, by omega⟩⟩
        case measure => simp [intOf]
      · have e := H1.out HX.out hy
        clear HE H0 H2 HL H1
        subst e
        go_wp2
        go_ret
        exact ⟨rfl, rfl⟩
    · have HX := hide (HP.out.1 (by omega))
      have HY := hide (HP.out.2.1 (by omega))
      by_cases hz : z = 0
      · have HZ := hide hz
        go_wp2
        go_roundw
        case rel => exact ⟨3, by omega, by go_num, by first | rfl | trivial, hide ⟨fun _ => HX.out, fun _ => HY.out, fun _ => HZ.out⟩⟩
        case measure => simp [intOf]
      · have e := H2.out HX.out HY.out hz
        clear HE H0 H1 HL H2
        subst e
        go_wp2
        go_ret
        exact ⟨rfl, rfl⟩
    · have e := HL.out rfl
      clear HE H0 H1 H2 HL
      subst e
      go_wp2
      go_ret
      exact ⟨rfl, rfl⟩

set_option maxRecDepth 100000 in
set_option maxHeartbeats 4000000 in
theorem job_any (j : JobV) (w : World) : Calls Tryz.prog 111 #[jobVal j] w fun e w' => e = .returned (.bool (jobMay j)) ∧ w.grownBy w' none := by
  obtain ⟨x0, x1, x2, x3, x4, x5, x6⟩ := j
  unfold jobMay
  dsimp only
  have CP := hide (fun W => prio_any x2 W)
  have CC := hide (fun W => clock_any x3 W)
  have CD := hide (fun W => demand_any x5 W)
  generalize (decide (0 ≤ x2) && decide (x2 ≤ 255)) = b2 at *
  generalize (decide (0 ≤ x3) && decide (x3 ≤ 1099511627776)) = b3 at *
  generalize (decide (1 ≤ x5) && decide (x5 ≤ 65535)) = b5 at *
  by_cases h0 : 0 ≤ x0
  · rw [decide_eq_true h0, Bool.true_and]
    by_cases h1 : x0 < 6
    · rw [decide_eq_true h1, Bool.true_and]
      by_cases h2 : 0 ≤ x1
      · rw [decide_eq_true h2, Bool.true_and]
        cases b2 with
        | true =>
          rw [Bool.true_and]
          cases b3 with
          | true =>
            rw [Bool.true_and]
            by_cases h4 : x3 < x4
            · rw [decide_eq_true h4, Bool.true_and]
              cases b5 with
              | true =>
                rw [Bool.true_and]
                by_cases h5 : 0 ≤ x6
                · rw [decide_eq_true h5, Bool.true_and]
                  go_enter Tryz.func111, Tryz.ntmps111
                  go_wp2_with (first | (go_at_call 107; refine (CP.out _).mono ?_; rintro e w' ⟨rfl, rfl⟩) | (go_at_call 37; refine (CC.out _).mono ?_; rintro e w' ⟨rfl, rfl⟩) | (go_at_call 87; refine (CD.out _).mono ?_; rintro e w' ⟨rfl, rfl⟩))
                  go_ret
                  exact ⟨rfl, World.grownBy_alloc _ _ _⟩
                · rw [decide_eq_false h5, Bool.false_and]
                  go_enter Tryz.func111, Tryz.ntmps111
                  go_wp2_with (first | (go_at_call 107; refine (CP.out _).mono ?_; rintro e w' ⟨rfl, rfl⟩) | (go_at_call 37; refine (CC.out _).mono ?_; rintro e w' ⟨rfl, rfl⟩) | (go_at_call 87; refine (CD.out _).mono ?_; rintro e w' ⟨rfl, rfl⟩))
                  go_ret
                  exact ⟨rfl, World.grownBy_alloc _ _ _⟩
              | false =>
                rw [Bool.false_and]
                go_enter Tryz.func111, Tryz.ntmps111
                go_wp2_with (first | (go_at_call 107; refine (CP.out _).mono ?_; rintro e w' ⟨rfl, rfl⟩) | (go_at_call 37; refine (CC.out _).mono ?_; rintro e w' ⟨rfl, rfl⟩) | (go_at_call 87; refine (CD.out _).mono ?_; rintro e w' ⟨rfl, rfl⟩))
                go_ret
                exact ⟨rfl, World.grownBy_alloc _ _ _⟩
            · rw [decide_eq_false h4, Bool.false_and]
              go_enter Tryz.func111, Tryz.ntmps111
              go_wp2_with (first | (go_at_call 107; refine (CP.out _).mono ?_; rintro e w' ⟨rfl, rfl⟩) | (go_at_call 37; refine (CC.out _).mono ?_; rintro e w' ⟨rfl, rfl⟩) | (go_at_call 87; refine (CD.out _).mono ?_; rintro e w' ⟨rfl, rfl⟩))
              go_ret
              exact ⟨rfl, World.grownBy_alloc _ _ _⟩
          | false =>
            rw [Bool.false_and]
            go_enter Tryz.func111, Tryz.ntmps111
            go_wp2_with (first | (go_at_call 107; refine (CP.out _).mono ?_; rintro e w' ⟨rfl, rfl⟩) | (go_at_call 37; refine (CC.out _).mono ?_; rintro e w' ⟨rfl, rfl⟩) | (go_at_call 87; refine (CD.out _).mono ?_; rintro e w' ⟨rfl, rfl⟩))
            go_ret
            exact ⟨rfl, World.grownBy_alloc _ _ _⟩
        | false =>
          rw [Bool.false_and]
          go_enter Tryz.func111, Tryz.ntmps111
          go_wp2_with (first | (go_at_call 107; refine (CP.out _).mono ?_; rintro e w' ⟨rfl, rfl⟩) | (go_at_call 37; refine (CC.out _).mono ?_; rintro e w' ⟨rfl, rfl⟩) | (go_at_call 87; refine (CD.out _).mono ?_; rintro e w' ⟨rfl, rfl⟩))
          go_ret
          exact ⟨rfl, World.grownBy_alloc _ _ _⟩
      · rw [decide_eq_false h2, Bool.false_and]
        go_enter Tryz.func111, Tryz.ntmps111
        go_wp2_with (first | (go_at_call 107; refine (CP.out _).mono ?_; rintro e w' ⟨rfl, rfl⟩) | (go_at_call 37; refine (CC.out _).mono ?_; rintro e w' ⟨rfl, rfl⟩) | (go_at_call 87; refine (CD.out _).mono ?_; rintro e w' ⟨rfl, rfl⟩))
        go_ret
        exact ⟨rfl, World.grownBy_alloc _ _ _⟩
    · rw [decide_eq_false h1, Bool.false_and]
      go_enter Tryz.func111, Tryz.ntmps111
      go_wp2_with (first | (go_at_call 107; refine (CP.out _).mono ?_; rintro e w' ⟨rfl, rfl⟩) | (go_at_call 37; refine (CC.out _).mono ?_; rintro e w' ⟨rfl, rfl⟩) | (go_at_call 87; refine (CD.out _).mono ?_; rintro e w' ⟨rfl, rfl⟩))
      go_ret
      exact ⟨rfl, World.grownBy_alloc _ _ _⟩
  · rw [decide_eq_false h0, Bool.false_and]
    go_enter Tryz.func111, Tryz.ntmps111
    go_wp2_with (first | (go_at_call 107; refine (CP.out _).mono ?_; rintro e w' ⟨rfl, rfl⟩) | (go_at_call 37; refine (CC.out _).mono ?_; rintro e w' ⟨rfl, rfl⟩) | (go_at_call 87; refine (CD.out _).mono ?_; rintro e w' ⟨rfl, rfl⟩))
    go_ret
    exact ⟨rfl, World.grownBy_alloc _ _ _⟩
#print axioms job_any
end Go.Proofs.YtlppfocoonnpjaaGreatDoor.J
