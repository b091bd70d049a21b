/- The walk of the statement CodeForms: instructions that are none, eleven ways, proved over the translation. -/
import Derived.Test.YtdgdoiigcdlpaaaDoorAwake
namespace Go.Proofs.YtdgdoiigcdlpaaaDoor
open Go.RowKit
attribute [local go_sem] alloc_drewN setCell_drewN

theorem i64_and63 (n : Int) : bits .and .i64 n 63 = n % 64 := by
  have h63 : (BitVec.ofInt 64 63).toNat = 2 ^ 6 - 1 := by decide
  have key : (BitVec.ofInt 64 n &&& BitVec.ofInt 64 63).toNat = (n % ((2 ^ 64 : Nat) : Int)).toNat % 2 ^ 6 := by
    rw [BitVec.toNat_and, BitVec.toNat_ofInt, h63, Nat.and_two_pow_sub_one_eq_mod]
  show IntKind.i64.wrap ((BitVec.ofInt 64 n &&& BitVec.ofInt 64 63).toNat : Nat) = n % 64
  rw [key, IntKind.wrap_i64]
  omega
theorem and63 (z : Int) : ∃ m : Nat, m < 64 ∧ bits .and .i64 z 63 = (m : Int) := by
  rw [i64_and63]
  exact ⟨(z % 64).toNat, by omega, by omega⟩
theorem codeMay_not {zs : List Ins} (j : Nat) (hj : j < zs.length) (h : insMay zs.length (zs[j]?.getD (0, 0)) = false) : codeMay zs = false := by
  cases hm : codeMay zs with
  | false => rfl
  | true => rw [(codeMay_true hm).2 j hj] at h; cases h
theorem codeMay_long {zs : List Ins} (h : 64 < zs.length) : codeMay zs = false := by unfold codeMay; rw [decide_eq_false (by omega)]; rfl
theorem not_op {N x y : Int} (h : ¬ (0 ≤ x ∧ x < 12)) : insMay N (x, y) = false := by unfold insMay isOpB; rw [decide_eq_false h]; rfl
theorem not_low {N x y : Int} (h : y < 0) : insMay N (x, y) = false := by unfold insMay; dsimp only; rw [decide_eq_false (show ¬ 0 ≤ y by omega)]; simp
theorem not_most {N x y : Int} (h : most x N ≤ y) : insMay N (x, y) = false := by unfold insMay; dsimp only; rw [decide_eq_false (show ¬ y < most x N by omega)]; simp
def five : List Ins := [(1, 255), (2, 15), (6, 4), (9, 7), (11, 0)]
theorem five_may : codeMay five = true := by decide
theorem mayOk {zs : List Ins} (h : codeMay zs = true) (v : Value) (hz : zs.length ≤ 9223372036854775807) (w : World) (hT : Tab w) (hv : PReads w v zs) :
    Calls Tryd.prog 14 #[v] w fun e w' => e = .returned (.bool true) ∧ w.grownBy w' none := by
  have := may_any v zs hz w hT hv
  rwa [h] at this
theorem mayNot {zs : List Ins} (h : codeMay zs = false) (v : Value) (hz : zs.length ≤ 9223372036854775807) (w : World) (hT : Tab w) (hv : PReads w v zs) :
    Calls Tryd.prog 14 #[v] w fun e w' => e = .returned (.bool false) ∧ w.grownBy w' none := by
  have := may_any v zs hz w hT hv
  rwa [h] at this

set_option maxRecDepth 100000 in
set_option maxHeartbeats 2000000 in
theorem forms_0 (a x : Int) (hk : (IntKind.u64.wrap a).tmod 11 = 0) (w : World) (hT : Tab w) :
    Calls Tryd.prog 5 #[.int .i64 a, .int .i64 x] w fun e w' => e = .returned (.bool true) ∧ w.grownBy w' none := by
  have AW := hide (awake_any w hT)
  have HT := hide hT
  obtain ⟨m, hm, hx⟩ := and63 x
  clear hT
  go_enter Tryd.func5, Tryd.ntmps5
  go_wp2_with (first | fail)
  refine AW.out.mono ?_; rintro e w1 ⟨rfl, g1⟩
  have G1 := hide g1
  clear g1 AW
  have G0 := hide (World.grownBy_alloc w1 (.cells (cells2 five).toArray 39) none)
  go_wp2_with (first | fail)
  refine (mayOk five_may _ (by decide) _ (HT.out.grown (grownBy_trans G1.out G0.out)) (preads_lit w1 five 39)).mono ?_
  rintro e w2 ⟨rfl, g2⟩
  have O2 : w2.ownsRow w1.heap.size 39 2 (.slice (some ⟨w1.heap.size, 0, none⟩) 5 5) 5 (cells2 five) := own_kept (World.ownsRow_lit w1 (cells2 five).toArray 5 (Nat.le_refl _) (by decide) (by decide)) g2
  have c0 : w2.cell? ⟨w1.heap.size, 0, none⟩ = some (.int .i64 1) := O2.cellAt 0 (by decide)
  have f0 : w2.frozen? ⟨w1.heap.size, 0, none⟩ = false := O2.frozenAt 0
  have P3 := hide (preads_own (zs := [(11 + (1 + (m : Int)), 255), (2, 15), (6, 4), (9, 7), (11, 0)]) (O2.stored 0 (.int .i64 (11 + (1 + (m : Int))))).1)
  have G3 := hide (grown_spoil (g := w1.heap.size) (grownBy_trans G1.out (grownBy_trans G0.out g2)) G1.out.size ((O2.stored 0 (.int .i64 (11 + (1 + (m : Int))))).2))
  have hbad : codeMay [(11 + (1 + (m : Int)), 255), (2, 15), (6, 4), (9, 7), (11, 0)] = false := codeMay_not 0 (by simp) (not_op (by omega))
  have HBAD := hide hbad
  clear O2 g2 G0 hbad
  go_wp2_with (first | fail)
  refine (putNot HBAD.out (by simp) _ _ (HT.out.grown G3.out) P3.out).mono ?_
  rintro e w4 ⟨rfl, g4⟩
  have P4 := hide (P3.out.grown g4)
  have G4 := hide (grownBy_trans G3.out g4)
  clear g4 P3 G3 c0 f0
  go_wp2_with (first
    | (go_at_call 12; refine (num_any _ _).mono ?_; rintro e w' ⟨rfl, rfl⟩)
    | (go_at_call 14; refine (mayNot HBAD.out _ (by simp) _ (HT.out.grown G4.out) P4.out).mono ?_; rintro e w5 ⟨rfl, g5⟩))
  go_ret
  exact ⟨rfl, grownBy_trans G4.out g5⟩

set_option maxRecDepth 100000 in
set_option maxHeartbeats 2000000 in
theorem forms_1 (a x : Int) (hk : (IntKind.u64.wrap a).tmod 11 = 1) (w : World) (hT : Tab w) :
    Calls Tryd.prog 5 #[.int .i64 a, .int .i64 x] w fun e w' => e = .returned (.bool true) ∧ w.grownBy w' none := by
  have AW := hide (awake_any w hT)
  have HT := hide hT
  obtain ⟨m, hm, hx⟩ := and63 x
  clear hT
  go_enter Tryd.func5, Tryd.ntmps5
  go_wp2_with (first | fail)
  refine AW.out.mono ?_; rintro e w1 ⟨rfl, g1⟩
  have G1 := hide g1
  clear g1 AW
  have G0 := hide (World.grownBy_alloc w1 (.cells (cells2 five).toArray 39) none)
  go_wp2_with (first | fail)
  refine (mayOk five_may _ (by decide) _ (HT.out.grown (grownBy_trans G1.out G0.out)) (preads_lit w1 five 39)).mono ?_
  rintro e w2 ⟨rfl, g2⟩
  have O2 : w2.ownsRow w1.heap.size 39 2 (.slice (some ⟨w1.heap.size, 0, none⟩) 5 5) 5 (cells2 five) := own_kept (World.ownsRow_lit w1 (cells2 five).toArray 5 (Nat.le_refl _) (by decide) (by decide)) g2
  have c0 : w2.cell? ⟨w1.heap.size, 0, none⟩ = some (.int .i64 1) := O2.cellAt 0 (by decide)
  have f0 : w2.frozen? ⟨w1.heap.size, 0, none⟩ = false := O2.frozenAt 0
  have P3 := hide (preads_own (zs := [(-(1 + (m : Int)), 255), (2, 15), (6, 4), (9, 7), (11, 0)]) (O2.stored 0 (.int .i64 (-(1 + (m : Int))))).1)
  have G3 := hide (grown_spoil (g := w1.heap.size) (grownBy_trans G1.out (grownBy_trans G0.out g2)) G1.out.size ((O2.stored 0 (.int .i64 (-(1 + (m : Int))))).2))
  have hbad : codeMay [(-(1 + (m : Int)), 255), (2, 15), (6, 4), (9, 7), (11, 0)] = false := codeMay_not 0 (by simp) (not_op (by omega))
  have HBAD := hide hbad
  clear O2 g2 G0 hbad
  go_wp2_with (first | fail)
  refine (putNot HBAD.out (by simp) _ _ (HT.out.grown G3.out) P3.out).mono ?_
  rintro e w4 ⟨rfl, g4⟩
  have P4 := hide (P3.out.grown g4)
  have G4 := hide (grownBy_trans G3.out g4)
  clear g4 P3 G3 c0 f0
  go_wp2_with (first
    | (go_at_call 12; refine (num_any _ _).mono ?_; rintro e w' ⟨rfl, rfl⟩)
    | (go_at_call 14; refine (mayNot HBAD.out _ (by simp) _ (HT.out.grown G4.out) P4.out).mono ?_; rintro e w5 ⟨rfl, g5⟩))
  go_ret
  exact ⟨rfl, grownBy_trans G4.out g5⟩

set_option maxRecDepth 100000 in
set_option maxHeartbeats 2000000 in
theorem forms_2 (a x : Int) (hk : (IntKind.u64.wrap a).tmod 11 = 2) (w : World) (hT : Tab w) :
    Calls Tryd.prog 5 #[.int .i64 a, .int .i64 x] w fun e w' => e = .returned (.bool true) ∧ w.grownBy w' none := by
  have AW := hide (awake_any w hT)
  have HT := hide hT
  obtain ⟨m, hm, hx⟩ := and63 x
  clear hT
  go_enter Tryd.func5, Tryd.ntmps5
  go_wp2_with (first | fail)
  refine AW.out.mono ?_; rintro e w1 ⟨rfl, g1⟩
  have G1 := hide g1
  clear g1 AW
  have G0 := hide (World.grownBy_alloc w1 (.cells (cells2 five).toArray 39) none)
  go_wp2_with (first | fail)
  refine (mayOk five_may _ (by decide) _ (HT.out.grown (grownBy_trans G1.out G0.out)) (preads_lit w1 five 39)).mono ?_
  rintro e w2 ⟨rfl, g2⟩
  have O2 : w2.ownsRow w1.heap.size 39 2 (.slice (some ⟨w1.heap.size, 0, none⟩) 5 5) 5 (cells2 five) := own_kept (World.ownsRow_lit w1 (cells2 five).toArray 5 (Nat.le_refl _) (by decide) (by decide)) g2
  have c1 : w2.cell? ⟨w1.heap.size, 1, none⟩ = some (.int .i64 255) := O2.cellAt 1 (by decide)
  have f1 : w2.frozen? ⟨w1.heap.size, 1, none⟩ = false := O2.frozenAt 1
  have P3 := hide (preads_own (zs := [(1, 255 + (1 + (m : Int))), (2, 15), (6, 4), (9, 7), (11, 0)]) (O2.stored 1 (.int .i64 (255 + (1 + (m : Int))))).1)
  have G3 := hide (grown_spoil (g := w1.heap.size) (grownBy_trans G1.out (grownBy_trans G0.out g2)) G1.out.size ((O2.stored 1 (.int .i64 (255 + (1 + (m : Int))))).2))
  have hbad : codeMay [(1, 255 + (1 + (m : Int))), (2, 15), (6, 4), (9, 7), (11, 0)] = false := codeMay_not 0 (by simp) (not_most (show most 1 _ ≤ _ by show (256 : Int) ≤ _; omega))
  have HBAD := hide hbad
  clear O2 g2 G0 hbad
  go_wp2_with (first | fail)
  refine (putNot HBAD.out (by simp) _ _ (HT.out.grown G3.out) P3.out).mono ?_
  rintro e w4 ⟨rfl, g4⟩
  have P4 := hide (P3.out.grown g4)
  have G4 := hide (grownBy_trans G3.out g4)
  clear g4 P3 G3 c1 f1
  go_wp2_with (first
    | (go_at_call 12; refine (num_any _ _).mono ?_; rintro e w' ⟨rfl, rfl⟩)
    | (go_at_call 14; refine (mayNot HBAD.out _ (by simp) _ (HT.out.grown G4.out) P4.out).mono ?_; rintro e w5 ⟨rfl, g5⟩))
  go_ret
  exact ⟨rfl, grownBy_trans G4.out g5⟩

set_option maxRecDepth 100000 in
set_option maxHeartbeats 2000000 in
theorem forms_3 (a x : Int) (hk : (IntKind.u64.wrap a).tmod 11 = 3) (w : World) (hT : Tab w) :
    Calls Tryd.prog 5 #[.int .i64 a, .int .i64 x] w fun e w' => e = .returned (.bool true) ∧ w.grownBy w' none := by
  have AW := hide (awake_any w hT)
  have HT := hide hT
  obtain ⟨m, hm, hx⟩ := and63 x
  clear hT
  go_enter Tryd.func5, Tryd.ntmps5
  go_wp2_with (first | fail)
  refine AW.out.mono ?_; rintro e w1 ⟨rfl, g1⟩
  have G1 := hide g1
  clear g1 AW
  have G0 := hide (World.grownBy_alloc w1 (.cells (cells2 five).toArray 39) none)
  go_wp2_with (first | fail)
  refine (mayOk five_may _ (by decide) _ (HT.out.grown (grownBy_trans G1.out G0.out)) (preads_lit w1 five 39)).mono ?_
  rintro e w2 ⟨rfl, g2⟩
  have O2 : w2.ownsRow w1.heap.size 39 2 (.slice (some ⟨w1.heap.size, 0, none⟩) 5 5) 5 (cells2 five) := own_kept (World.ownsRow_lit w1 (cells2 five).toArray 5 (Nat.le_refl _) (by decide) (by decide)) g2
  have c1 : w2.cell? ⟨w1.heap.size, 1, none⟩ = some (.int .i64 255) := O2.cellAt 1 (by decide)
  have f1 : w2.frozen? ⟨w1.heap.size, 1, none⟩ = false := O2.frozenAt 1
  have P3 := hide (preads_own (zs := [(1, -(1 + (m : Int))), (2, 15), (6, 4), (9, 7), (11, 0)]) (O2.stored 1 (.int .i64 (-(1 + (m : Int))))).1)
  have G3 := hide (grown_spoil (g := w1.heap.size) (grownBy_trans G1.out (grownBy_trans G0.out g2)) G1.out.size ((O2.stored 1 (.int .i64 (-(1 + (m : Int))))).2))
  have hbad : codeMay [(1, -(1 + (m : Int))), (2, 15), (6, 4), (9, 7), (11, 0)] = false := codeMay_not 0 (by simp) (not_low (by omega))
  have HBAD := hide hbad
  clear O2 g2 G0 hbad
  go_wp2_with (first | fail)
  refine (putNot HBAD.out (by simp) _ _ (HT.out.grown G3.out) P3.out).mono ?_
  rintro e w4 ⟨rfl, g4⟩
  have P4 := hide (P3.out.grown g4)
  have G4 := hide (grownBy_trans G3.out g4)
  clear g4 P3 G3 c1 f1
  go_wp2_with (first
    | (go_at_call 12; refine (num_any _ _).mono ?_; rintro e w' ⟨rfl, rfl⟩)
    | (go_at_call 14; refine (mayNot HBAD.out _ (by simp) _ (HT.out.grown G4.out) P4.out).mono ?_; rintro e w5 ⟨rfl, g5⟩))
  go_ret
  exact ⟨rfl, grownBy_trans G4.out g5⟩

set_option maxRecDepth 100000 in
set_option maxHeartbeats 2000000 in
theorem forms_4 (a x : Int) (hk : (IntKind.u64.wrap a).tmod 11 = 4) (w : World) (hT : Tab w) :
    Calls Tryd.prog 5 #[.int .i64 a, .int .i64 x] w fun e w' => e = .returned (.bool true) ∧ w.grownBy w' none := by
  have AW := hide (awake_any w hT)
  have HT := hide hT
  obtain ⟨m, hm, hx⟩ := and63 x
  clear hT
  go_enter Tryd.func5, Tryd.ntmps5
  go_wp2_with (first | fail)
  refine AW.out.mono ?_; rintro e w1 ⟨rfl, g1⟩
  have G1 := hide g1
  clear g1 AW
  have G0 := hide (World.grownBy_alloc w1 (.cells (cells2 five).toArray 39) none)
  go_wp2_with (first | fail)
  refine (mayOk five_may _ (by decide) _ (HT.out.grown (grownBy_trans G1.out G0.out)) (preads_lit w1 five 39)).mono ?_
  rintro e w2 ⟨rfl, g2⟩
  have O2 : w2.ownsRow w1.heap.size 39 2 (.slice (some ⟨w1.heap.size, 0, none⟩) 5 5) 5 (cells2 five) := own_kept (World.ownsRow_lit w1 (cells2 five).toArray 5 (Nat.le_refl _) (by decide) (by decide)) g2
  have c3 : w2.cell? ⟨w1.heap.size, 3, none⟩ = some (.int .i64 15) := O2.cellAt 3 (by decide)
  have f3 : w2.frozen? ⟨w1.heap.size, 3, none⟩ = false := O2.frozenAt 3
  have P3 := hide (preads_own (zs := [(1, 255), (2, 15 + (1 + (m : Int))), (6, 4), (9, 7), (11, 0)]) (O2.stored 3 (.int .i64 (15 + (1 + (m : Int))))).1)
  have G3 := hide (grown_spoil (g := w1.heap.size) (grownBy_trans G1.out (grownBy_trans G0.out g2)) G1.out.size ((O2.stored 3 (.int .i64 (15 + (1 + (m : Int))))).2))
  have hbad : codeMay [(1, 255), (2, 15 + (1 + (m : Int))), (6, 4), (9, 7), (11, 0)] = false := codeMay_not 1 (by simp) (not_most (show most 2 _ ≤ _ by show (16 : Int) ≤ _; omega))
  have HBAD := hide hbad
  clear O2 g2 G0 hbad
  go_wp2_with (first | fail)
  refine (putNot HBAD.out (by simp) _ _ (HT.out.grown G3.out) P3.out).mono ?_
  rintro e w4 ⟨rfl, g4⟩
  have P4 := hide (P3.out.grown g4)
  have G4 := hide (grownBy_trans G3.out g4)
  clear g4 P3 G3 c3 f3
  go_wp2_with (first
    | (go_at_call 12; refine (num_any _ _).mono ?_; rintro e w' ⟨rfl, rfl⟩)
    | (go_at_call 14; refine (mayNot HBAD.out _ (by simp) _ (HT.out.grown G4.out) P4.out).mono ?_; rintro e w5 ⟨rfl, g5⟩))
  go_ret
  exact ⟨rfl, grownBy_trans G4.out g5⟩

set_option maxRecDepth 100000 in
set_option maxHeartbeats 2000000 in
theorem forms_5 (a x : Int) (hk : (IntKind.u64.wrap a).tmod 11 = 5) (w : World) (hT : Tab w) :
    Calls Tryd.prog 5 #[.int .i64 a, .int .i64 x] w fun e w' => e = .returned (.bool true) ∧ w.grownBy w' none := by
  have AW := hide (awake_any w hT)
  have HT := hide hT
  obtain ⟨m, hm, hx⟩ := and63 x
  clear hT
  go_enter Tryd.func5, Tryd.ntmps5
  go_wp2_with (first | fail)
  refine AW.out.mono ?_; rintro e w1 ⟨rfl, g1⟩
  have G1 := hide g1
  clear g1 AW
  have G0 := hide (World.grownBy_alloc w1 (.cells (cells2 five).toArray 39) none)
  go_wp2_with (first | fail)
  refine (mayOk five_may _ (by decide) _ (HT.out.grown (grownBy_trans G1.out G0.out)) (preads_lit w1 five 39)).mono ?_
  rintro e w2 ⟨rfl, g2⟩
  have O2 : w2.ownsRow w1.heap.size 39 2 (.slice (some ⟨w1.heap.size, 0, none⟩) 5 5) 5 (cells2 five) := own_kept (World.ownsRow_lit w1 (cells2 five).toArray 5 (Nat.le_refl _) (by decide) (by decide)) g2
  have c5 : w2.cell? ⟨w1.heap.size, 5, none⟩ = some (.int .i64 4) := O2.cellAt 5 (by decide)
  have f5 : w2.frozen? ⟨w1.heap.size, 5, none⟩ = false := O2.frozenAt 5
  have P3 := hide (preads_own (zs := [(1, 255), (2, 15), (6, 4 + (1 + (m : Int))), (9, 7), (11, 0)]) (O2.stored 5 (.int .i64 (4 + (1 + (m : Int))))).1)
  have G3 := hide (grown_spoil (g := w1.heap.size) (grownBy_trans G1.out (grownBy_trans G0.out g2)) G1.out.size ((O2.stored 5 (.int .i64 (4 + (1 + (m : Int))))).2))
  have hbad : codeMay [(1, 255), (2, 15), (6, 4 + (1 + (m : Int))), (9, 7), (11, 0)] = false := codeMay_not 2 (by simp) (not_most (show most 6 5 ≤ _ by show (5 : Int) ≤ _; omega))
  have HBAD := hide hbad
  clear O2 g2 G0 hbad
  go_wp2_with (first | fail)
  refine (putNot HBAD.out (by simp) _ _ (HT.out.grown G3.out) P3.out).mono ?_
  rintro e w4 ⟨rfl, g4⟩
  have P4 := hide (P3.out.grown g4)
  have G4 := hide (grownBy_trans G3.out g4)
  clear g4 P3 G3 c5 f5
  go_wp2_with (first
    | (go_at_call 12; refine (num_any _ _).mono ?_; rintro e w' ⟨rfl, rfl⟩)
    | (go_at_call 14; refine (mayNot HBAD.out _ (by simp) _ (HT.out.grown G4.out) P4.out).mono ?_; rintro e w5 ⟨rfl, g5⟩))
  go_ret
  exact ⟨rfl, grownBy_trans G4.out g5⟩

set_option maxRecDepth 100000 in
set_option maxHeartbeats 2000000 in
theorem forms_6 (a x : Int) (hk : (IntKind.u64.wrap a).tmod 11 = 6) (w : World) (hT : Tab w) :
    Calls Tryd.prog 5 #[.int .i64 a, .int .i64 x] w fun e w' => e = .returned (.bool true) ∧ w.grownBy w' none := by
  have AW := hide (awake_any w hT)
  have HT := hide hT
  obtain ⟨m, hm, hx⟩ := and63 x
  clear hT
  go_enter Tryd.func5, Tryd.ntmps5
  go_wp2_with (first | fail)
  refine AW.out.mono ?_; rintro e w1 ⟨rfl, g1⟩
  have G1 := hide g1
  clear g1 AW
  have G0 := hide (World.grownBy_alloc w1 (.cells (cells2 five).toArray 39) none)
  go_wp2_with (first | fail)
  refine (mayOk five_may _ (by decide) _ (HT.out.grown (grownBy_trans G1.out G0.out)) (preads_lit w1 five 39)).mono ?_
  rintro e w2 ⟨rfl, g2⟩
  have O2 : w2.ownsRow w1.heap.size 39 2 (.slice (some ⟨w1.heap.size, 0, none⟩) 5 5) 5 (cells2 five) := own_kept (World.ownsRow_lit w1 (cells2 five).toArray 5 (Nat.le_refl _) (by decide) (by decide)) g2
  have c7 : w2.cell? ⟨w1.heap.size, 7, none⟩ = some (.int .i64 7) := O2.cellAt 7 (by decide)
  have f7 : w2.frozen? ⟨w1.heap.size, 7, none⟩ = false := O2.frozenAt 7
  have P3 := hide (preads_own (zs := [(1, 255), (2, 15), (6, 4), (9, 7 + (1 + (m : Int))), (11, 0)]) (O2.stored 7 (.int .i64 (7 + (1 + (m : Int))))).1)
  have G3 := hide (grown_spoil (g := w1.heap.size) (grownBy_trans G1.out (grownBy_trans G0.out g2)) G1.out.size ((O2.stored 7 (.int .i64 (7 + (1 + (m : Int))))).2))
  have hbad : codeMay [(1, 255), (2, 15), (6, 4), (9, 7 + (1 + (m : Int))), (11, 0)] = false := codeMay_not 3 (by simp) (not_most (show most 9 _ ≤ _ by show (8 : Int) ≤ _; omega))
  have HBAD := hide hbad
  clear O2 g2 G0 hbad
  go_wp2_with (first | fail)
  refine (putNot HBAD.out (by simp) _ _ (HT.out.grown G3.out) P3.out).mono ?_
  rintro e w4 ⟨rfl, g4⟩
  have P4 := hide (P3.out.grown g4)
  have G4 := hide (grownBy_trans G3.out g4)
  clear g4 P3 G3 c7 f7
  go_wp2_with (first
    | (go_at_call 12; refine (num_any _ _).mono ?_; rintro e w' ⟨rfl, rfl⟩)
    | (go_at_call 14; refine (mayNot HBAD.out _ (by simp) _ (HT.out.grown G4.out) P4.out).mono ?_; rintro e w5 ⟨rfl, g5⟩))
  go_ret
  exact ⟨rfl, grownBy_trans G4.out g5⟩

set_option maxRecDepth 100000 in
set_option maxHeartbeats 2000000 in
theorem forms_7 (a x : Int) (hk : (IntKind.u64.wrap a).tmod 11 = 7) (w : World) (hT : Tab w) :
    Calls Tryd.prog 5 #[.int .i64 a, .int .i64 x] w fun e w' => e = .returned (.bool true) ∧ w.grownBy w' none := by
  have AW := hide (awake_any w hT)
  have HT := hide hT
  obtain ⟨m, hm, hx⟩ := and63 x
  clear hT
  go_enter Tryd.func5, Tryd.ntmps5
  go_wp2_with (first | fail)
  refine AW.out.mono ?_; rintro e w1 ⟨rfl, g1⟩
  have G1 := hide g1
  clear g1 AW
  have G0 := hide (World.grownBy_alloc w1 (.cells (cells2 five).toArray 39) none)
  go_wp2_with (first | fail)
  refine (mayOk five_may _ (by decide) _ (HT.out.grown (grownBy_trans G1.out G0.out)) (preads_lit w1 five 39)).mono ?_
  rintro e w2 ⟨rfl, g2⟩
  have O2 : w2.ownsRow w1.heap.size 39 2 (.slice (some ⟨w1.heap.size, 0, none⟩) 5 5) 5 (cells2 five) := own_kept (World.ownsRow_lit w1 (cells2 five).toArray 5 (Nat.le_refl _) (by decide) (by decide)) g2
  have c9 : w2.cell? ⟨w1.heap.size, 9, none⟩ = some (.int .i64 0) := O2.cellAt 9 (by decide)
  have f9 : w2.frozen? ⟨w1.heap.size, 9, none⟩ = false := O2.frozenAt 9
  have P3 := hide (preads_own (zs := [(1, 255), (2, 15), (6, 4), (9, 7), (11, 1 + (m : Int))]) (O2.stored 9 (.int .i64 (1 + (m : Int)))).1)
  have G3 := hide (grown_spoil (g := w1.heap.size) (grownBy_trans G1.out (grownBy_trans G0.out g2)) G1.out.size ((O2.stored 9 (.int .i64 (1 + (m : Int)))).2))
  have hbad : codeMay [(1, 255), (2, 15), (6, 4), (9, 7), (11, 1 + (m : Int))] = false := codeMay_not 4 (by simp) (not_most (show most 11 _ ≤ _ by show (1 : Int) ≤ _; omega))
  have HBAD := hide hbad
  clear O2 g2 G0 hbad
  go_wp2_with (first | fail)
  refine (putNot HBAD.out (by simp) _ _ (HT.out.grown G3.out) P3.out).mono ?_
  rintro e w4 ⟨rfl, g4⟩
  have P4 := hide (P3.out.grown g4)
  have G4 := hide (grownBy_trans G3.out g4)
  clear g4 P3 G3 c9 f9
  go_wp2_with (first
    | (go_at_call 12; refine (num_any _ _).mono ?_; rintro e w' ⟨rfl, rfl⟩)
    | (go_at_call 14; refine (mayNot HBAD.out _ (by simp) _ (HT.out.grown G4.out) P4.out).mono ?_; rintro e w5 ⟨rfl, g5⟩))
  go_ret
  exact ⟨rfl, grownBy_trans G4.out g5⟩

set_option maxRecDepth 100000 in
set_option maxHeartbeats 2000000 in
theorem forms_8 (a x : Int) (hk : (IntKind.u64.wrap a).tmod 11 = 8) (w : World) (hT : Tab w) :
    Calls Tryd.prog 5 #[.int .i64 a, .int .i64 x] w fun e w' => e = .returned (.bool true) ∧ w.grownBy w' none := by
  have AW := hide (awake_any w hT)
  have HT := hide hT
  obtain ⟨m, hm, hx⟩ := and63 x
  clear hT
  go_enter Tryd.func5, Tryd.ntmps5
  go_wp2_with (first | fail)
  refine AW.out.mono ?_; rintro e w1 ⟨rfl, g1⟩
  have G1 := hide g1
  clear g1 AW
  have G0 := hide (World.grownBy_alloc w1 (.cells (cells2 five).toArray 39) none)
  go_wp2_with (first | fail)
  refine (mayOk five_may _ (by decide) _ (HT.out.grown (grownBy_trans G1.out G0.out)) (preads_lit w1 five 39)).mono ?_
  rintro e w2 ⟨rfl, g2⟩
  have O2 : w2.ownsRow w1.heap.size 39 2 (.slice (some ⟨w1.heap.size, 0, none⟩) 5 5) 5 (cells2 five) := own_kept (World.ownsRow_lit w1 (cells2 five).toArray 5 (Nat.le_refl _) (by decide) (by decide)) g2
  have c8 : w2.cell? ⟨w1.heap.size, 8, none⟩ = some (.int .i64 11) := O2.cellAt 8 (by decide)
  have f8 : w2.frozen? ⟨w1.heap.size, 8, none⟩ = false := O2.frozenAt 8
  have c9 : w2.cell? ⟨w1.heap.size, 9, none⟩ = some (.int .i64 0) := O2.cellAt 9 (by decide)
  have f9 : w2.frozen? ⟨w1.heap.size, 9, none⟩ = false := O2.frozenAt 9
  have P3 := hide (preads_own (zs := [(1, 255), (2, 15), (6, 4), (9, 7), (8, 1 + (m : Int))]) ((O2.stored 8 (.int .i64 8)).1.stored 9 (.int .i64 (1 + (m : Int)))).1)
  have G3 := hide (grown_spoil (g := w1.heap.size) (grownBy_trans G1.out (grownBy_trans G0.out g2)) G1.out.size (grownBy_trans (O2.stored 8 (.int .i64 8)).2 ((O2.stored 8 (.int .i64 8)).1.stored 9 (.int .i64 (1 + (m : Int)))).2))
  have hbad : codeMay [(1, 255), (2, 15), (6, 4), (9, 7), (8, 1 + (m : Int))] = false := codeMay_not 4 (by simp) (not_most (show most 8 _ ≤ _ by show (1 : Int) ≤ _; omega))
  have HBAD := hide hbad
  clear O2 g2 G0 hbad
  go_wp2_with (first | fail)
  refine (putNot HBAD.out (by simp) _ _ (HT.out.grown G3.out) P3.out).mono ?_
  rintro e w4 ⟨rfl, g4⟩
  have P4 := hide (P3.out.grown g4)
  have G4 := hide (grownBy_trans G3.out g4)
  clear g4 P3 G3 c8 f8 c9 f9
  go_wp2_with (first
    | (go_at_call 12; refine (num_any _ _).mono ?_; rintro e w' ⟨rfl, rfl⟩)
    | (go_at_call 14; refine (mayNot HBAD.out _ (by simp) _ (HT.out.grown G4.out) P4.out).mono ?_; rintro e w5 ⟨rfl, g5⟩))
  go_ret
  exact ⟨rfl, grownBy_trans G4.out g5⟩

set_option maxRecDepth 100000 in
set_option maxHeartbeats 2000000 in
theorem forms_9 (a x : Int) (hk : (IntKind.u64.wrap a).tmod 11 = 9) (w : World) (hT : Tab w) :
    Calls Tryd.prog 5 #[.int .i64 a, .int .i64 x] w fun e w' => e = .returned (.bool true) ∧ w.grownBy w' none := by
  have AW := hide (awake_any w hT)
  have HT := hide hT
  obtain ⟨m, hm, hx⟩ := and63 x
  clear hT
  go_enter Tryd.func5, Tryd.ntmps5
  go_wp2_with (first | fail)
  refine AW.out.mono ?_; rintro e w1 ⟨rfl, g1⟩
  have G1 := hide g1
  clear g1 AW
  have G0 := hide (World.grownBy_alloc w1 (.cells (cells2 five).toArray 39) none)
  go_wp2_with (first | fail)
  refine (mayOk five_may _ (by decide) _ (HT.out.grown (grownBy_trans G1.out G0.out)) (preads_lit w1 five 39)).mono ?_
  rintro e w2 ⟨rfl, g2⟩
  have O2 : w2.ownsRow w1.heap.size 39 2 (.slice (some ⟨w1.heap.size, 0, none⟩) 5 5) 5 (cells2 five) := own_kept (World.ownsRow_lit w1 (cells2 five).toArray 5 (Nat.le_refl _) (by decide) (by decide)) g2
  have c2 : w2.cell? ⟨w1.heap.size, 2, none⟩ = some (.int .i64 2) := O2.cellAt 2 (by decide)
  have f2 : w2.frozen? ⟨w1.heap.size, 2, none⟩ = false := O2.frozenAt 2
  have P3 := hide (preads_own (zs := [(1, 255), (7, 15), (6, 4), (9, 7), (11, 0)]) (O2.stored 2 (.int .i64 7)).1)
  have G3 := hide (grown_spoil (g := w1.heap.size) (grownBy_trans G1.out (grownBy_trans G0.out g2)) G1.out.size ((O2.stored 2 (.int .i64 7)).2))
  have hbad : codeMay [(1, 255), (7, 15), (6, 4), (9, 7), (11, 0)] = false := codeMay_not 1 (by simp) (not_most (show most 7 5 ≤ _ by show (5 : Int) ≤ _; omega))
  have HBAD := hide hbad
  clear O2 g2 G0 hbad
  go_wp2_with (first | fail)
  refine (putNot HBAD.out (by simp) _ _ (HT.out.grown G3.out) P3.out).mono ?_
  rintro e w4 ⟨rfl, g4⟩
  have P4 := hide (P3.out.grown g4)
  have G4 := hide (grownBy_trans G3.out g4)
  clear g4 P3 G3 c2 f2
  go_wp2_with (first
    | (go_at_call 12; refine (num_any _ _).mono ?_; rintro e w' ⟨rfl, rfl⟩)
    | (go_at_call 14; refine (mayNot HBAD.out _ (by simp) _ (HT.out.grown G4.out) P4.out).mono ?_; rintro e w5 ⟨rfl, g5⟩))
  go_ret
  exact ⟨rfl, grownBy_trans G4.out g5⟩

#print axioms forms_9
end Go.Proofs.YtdgdoiigcdlpaaaDoor
