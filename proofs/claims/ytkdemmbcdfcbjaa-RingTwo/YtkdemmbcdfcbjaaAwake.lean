/- The contract of the statements' own function awake, proved over the translation: it answers true and makes new memory alone. -/
import Derived.Test.YtkdemmbcdfcbjaaRef
namespace Go.Proofs.Ytkdemmbcdfcbjaa
open Go.RowKit
attribute [local go_sem] alloc_drewN setCell_drewN

theorem push568 (b : Nat) (w : World) (h : RingAt w b 2 [5, 6]) :
    Calls Try.prog 11 #[.pointer (some ⟨b, 0, none⟩), .int .i64 8] w fun e w' => e = .returned (.tuple #[.int .i64 5, .bool true]) ∧ RingAt w' b 2 [6, 8] ∧ w.grownBy w' (some b) ∧ w'.heap.size = w.heap.size :=
  push_full b 2 [5, 6] 8 (by omega) rfl w h
theorem pop68 (b : Nat) (w : World) (h : RingAt w b 2 [6, 8]) :
    Calls Try.prog 15 #[.pointer (some ⟨b, 0, none⟩)] w fun e w' => e = .returned (.tuple #[.int .i64 6, .bool true]) ∧ RingAt w' b 2 [8] ∧ w.grownBy w' (some b) ∧ w'.heap.size = w.heap.size :=
  pop_yes b 2 [6, 8] (by decide) w h
theorem all68 (b : Nat) (w : World) (h : RingAt w b 2 [6, 8]) :
    Calls Try.prog 17 #[.pointer (some ⟨b, 0, none⟩)] w fun e w' => e = .returned (.slice (some ⟨w.heap.size, 0, none⟩) 2 2) ∧ w'.ownsRow w.heap.size 3 1 (.slice (some ⟨w.heap.size, 0, none⟩) 2 2) 2 (vals [6, 8]) ∧ w.grownBy w' none :=
  all_any b 2 [6, 8] w h

theorem grown_below {B b : Nat} {w w' w'' : World} (h : Below B w w') (hg : w'.grownBy w'' (some b)) (hB : B ≤ w'.heap.size) (hb : B ≤ b) : Below B w w'' :=
  h.grown hg hB (fun k hk => by cases hk; exact hb)
theorem grown_below0 {B : Nat} {w w' w'' : World} (h : Below B w w') (hg : w'.grownBy w'' none) (hB : B ≤ w'.heap.size) : Below B w w'' :=
  h.grown hg hB (fun k hk => by cases hk)

theorem same68 (w : World) (B : Nat) (h : w.ownsRow B 3 1 (.slice (some ⟨B, 0, none⟩) 2 2) 2 (vals [6, 8])) :
    Calls Try.prog 18 #[.slice (some ⟨B, 0, none⟩) 2 2, .slice (some ⟨w.heap.size, 0, none⟩) 2 2] (w.alloc (.cells #[.int .i64 6, .int .i64 8] 3)) fun e w' => e = .returned (.bool true) ∧ ∃ n, w' = (w.alloc (.cells #[.int .i64 6, .int .i64 8] 3)).drewN n := by
  have h1 := World.ownsRow_lit (base := 0) (e := 3) (size := 1) w #[.int .i64 6, .int .i64 8] 2 (Nat.zero_le _) (by unfold maxLen; omega) rfl
  exact same_any _ _ [6, 8] (by decide) _ (reads_own (zs := [6, 8]) (h.alloc _)) (reads_own (zs := [6, 8]) h1)

set_option maxHeartbeats 1000000 in
theorem awake_any (w : World) :
    Calls Try.prog 10 #[] w fun e w' => e = .returned (.bool true) ∧ Below w.heap.size w w' := by
  go_enter Try.func10, Try.ntmps10
  go_wp2_with (first | fail)
  refine (new_ring 2 (by omega) (by omega) w).mono ?_; rintro e w1 ⟨rfl, r1, g1, s1⟩
  have B1 := hide (below_of_grown g1)
  clear g1 s1
  go_wp2_with (first | fail)
  refine (new_no 0 (by omega) _).mono ?_; rintro e w' ⟨rfl, rfl⟩
  go_wp2_with (go_at_call 9; refine (num_any _ _).mono ?_; rintro e w' ⟨rfl, rfl⟩)
  refine (offer_yes _ 2 [] 5 (by decide) _ r1).mono ?_; rintro e w2 ⟨rfl, r2, g2, s2⟩
  have B2 := hide (grown_below B1.out g2 B1.out.size (Nat.le_refl _))
  clear g2 s2 B1
  go_wp2_with (first | fail)
  refine (push_room _ 2 [5] 6 (by decide) _ r2).mono ?_; rintro e w3 ⟨rfl, r3, g3, s3⟩
  have B3 := hide (grown_below B2.out g3 B2.out.size (Nat.le_refl _))
  clear g3 s3 B2
  go_wp2_with (first | fail)
  refine (offer_no _ 2 [5, 6] 7 rfl _ r3).mono ?_; rintro e w' ⟨rfl, n4, rfl⟩
  go_wp2_with (first | fail)
  refine (push568 _ _ (RingAt.draws r3 _)).mono ?_; rintro e w5 ⟨rfl, r5, g5, s5⟩
  have B5 := hide (grown_below B3.out (grownBy_trans (grownBy_draws _ n4 _) g5) B3.out.size (Nat.le_refl _))
  clear g5 s5 B3
  go_wp2_with (first | fail)
  refine (all68 _ _ r5).mono ?_; rintro e w6 ⟨rfl, o6, g6⟩
  have r6 := r5.grown g6 (by simp)
  have l5 := r5.lt
  have B6 := hide (grown_below0 B5.out g6 B5.out.size)
  clear g6 B5 r5
  go_wp2_with (first | fail)
  refine (pop68 _ _ r6).mono ?_; rintro e w7 ⟨rfl, r7, g7, s7⟩
  have B7 := hide (grown_below B6.out g7 B6.out.size (Nat.le_refl _))
  have C := hide (same68 w7 _ (o6.kept g7 (by right; simp [Value.ownBlock]; omega)))
  clear o6 g7 s7 B6 r1 r2 r3 r6 r7 l5
  go_wp2_with (first | (go_at_call 9; refine (num_any _ _).mono ?_; rintro e w' ⟨rfl, rfl⟩) | (go_at_call 18; refine C.out.mono ?_; rintro e w' ⟨rfl, n8, rfl⟩))
  go_ret
  exact ⟨rfl, below_drewN (B7.out.alloc B7.out.size _) _⟩
#print axioms awake_any
end Go.Proofs.Ytkdemmbcdfcbjaa
