/- The walk of the statement SupplyWhole: of whole frames there is the share of each; proved over the translation. -/
import Derived.Test.YtgocfgjdafkjlaaDoorAw7
import Derived.Test.YtgocfgjdafkjlaaDoorLLeast
import Derived.Test.YtgocfgjdafkjlaaDoorRefSh
namespace Go.Proofs.YtgocfgjdafkjlaaDoor.P7
open Go.RowKit
attribute [local go_sem] alloc_drewN setCell_drewN

theorem and3 (z : Int) : ∃ c : Nat, c ≤ 7 ∧ bits .and .i64 z 7 = (c : Int) := ⟨(z % 8).toNat, by omega, by rw [and_low z 3 (by decide) 7 (by decide)]; omega⟩

set_option maxRecDepth 100000 in
set_option maxHeartbeats 4000000 in
theorem supplyWhole_any {lo : Nat} (c : Value) (C : ConfV) (p x2 x3 : Int) (w : World) (hT : Tab w) (hc : ConfAt lo w c C) :
    Calls Tryd.prog 8 #[c, .int .i64 p, .int .i64 x2, .int .i64 x3] w fun e w' => e = .returned (.bool true) ∧ w.grownBy w' none := by
  have NUM : Hid (∀ (e : Int) (W : World), Calls Tryd.prog 15 #[.int .i64 e] W fun r w' => r = .returned (.int .i64 e) ∧ W = w') := fun e W => (num_any e W).mono fun _ _ h => ⟨h.1, h.2.symm⟩
  have CA := hide (fun W (hg : w.grownBy W none) => awake_any W (hT.grown hg))
  have CL := hide (fun k W (hg : w.grownBy W none) => least_any c C p k W (hT.grown hg) (hc.grown hg))
  have CS := hide (fun W (hg : w.grownBy W none) => R6.rShare_any c C p W (hc.grown hg))
  obtain ⟨vp, vw, vo, rfl, ⟨qs, hlen, ⟨hl, pa, pc, rfl, -⟩, -⟩, ⟨-, wa, wc, rfl, -⟩, ⟨-, oa, oc, rfl, -⟩⟩ := hc
  clear hT
  obtain ⟨k, hk, hk2⟩ := and3 x2
  obtain ⟨r, hr, hr2⟩ := and8 x3
  by_cases hok : shOK C p = true
  · have hok2 := hok
    unfold shOK at hok2
    simp only [Bool.and_eq_true, decide_eq_true_eq] at hok2
    obtain ⟨hck, p0, p1⟩ := hok2
    have HFI := hide (fine_of hck)
    have f0 := HFI.out.f0
    have f1 := HFI.out.f1
    obtain ⟨P, rfl⟩ : ∃ P : Nat, p = P := ⟨p.toNat, by omega⟩
    obtain ⟨F, hF⟩ : ∃ F : Nat, (F : Int) = C.frame := ⟨C.frame.toNat, by omega⟩
    have F0 : 0 < F := by omega
    have hKF0 : k * F ≤ 7 * 256 := Nat.mul_le_mul hk (by omega)
    have L1 := le_in hck P F (k * F) (by omega) hF (by omega)
    have L2 := le_in hck P F r (by omega) hF (by omega)
    have L3 := le_in hck P F (r + k * F) (by omega) hF (by omega)
    have hw := HFI.out.whole P F hF
    rw [leastN_whole F0, hw] at L1
    rw [leastN_more F0, hw, ← L2.1] at L3
    have LB := (leastS_bd (F := F) (own1_bd C P F) r).2
    rw [← leastN_eq F0 (own1_period _ _ _) (own1_bd _ _ _), ← L2.1] at LB
    have LB0 : 0 ≤ leV C P r := by rw [L2.1, leastN_eq F0 (own1_period _ _ _) (own1_bd _ _ _)]; exact (leastS_bd (own1_bd C P F) r).1
    have TB := cnt_bd C P F
    rw [HFI.out.share P F hF] at TB
    have S1 : shV C P = ticksN C.wins P := by unfold shV; rw [if_pos hok]
    have S2 : shE C P = 0 := by unfold shE; rw [if_pos hok]
    generalize ticksN C.wins P = T at *
    obtain ⟨KF, hKF⟩ : ∃ KF, KF = k * F := ⟨_, rfl⟩
    rw [← hKF] at L1 L3 hKF0
    have hc1 : (k : Int) * (F : Int) = (KF : Int) := by rw [hKF]; exact (Int.natCast_mul k F).symm
    have hkt : 0 ≤ (k : Int) * T ∧ (k : Int) * T ≤ 7 * 256 := ⟨Int.mul_nonneg (by omega) TB.1, Int.le_trans (Int.mul_le_mul_of_nonneg_right (show (k : Int) ≤ 7 by omega) TB.1) (Int.mul_le_mul_of_nonneg_left (show T ≤ 256 by omega) (by decide))⟩
    have hwr1 : IntKind.i64.wrap ((k : Int) * (F : Int)) = (KF : Int) := by rw [hc1, IntKind.wrap_i64]; omega
    have hwr2 : RowKit.wrap64 ((k : Int) * (F : Int)) = (KF : Int) := by rw [hc1]; exact IntWalk.wrap64_in _ (by omega)
    obtain ⟨KT, hKT⟩ : ∃ KT, (k : Int) * T = KT := ⟨_, rfl⟩
    rw [hKT] at hkt L1 L3
    have hwr3 : IntKind.i64.wrap ((k : Int) * T) = KT := by rw [hKT, IntKind.wrap_i64]; omega
    have hwr4 : RowKit.wrap64 ((k : Int) * T) = KT := by rw [hKT]; exact IntWalk.wrap64_in _ (by omega)
    clear hKT hc1 hKF hw hok HFI hck p1 hlen
    rw [show ((r + KF : Nat) : Int) = (r : Int) + KF by omega] at L3
    obtain ⟨L1v, L1e⟩ := L1
    obtain ⟨-, L2e⟩ := L2
    obtain ⟨L3v, L3e⟩ := L3
    have HL1v := hide L1v
    have HL1e := hide L1e
    have HL2e := hide L2e
    have HL3v := hide L3v
    have HL3e := hide L3e
    have HS1 := hide S1
    have HS2 := hide S2
    clear L1v L1e L2e L3v L3e S1 S2
    rw [← hF] at CL CS ⊢
    generalize leV C = lV at *
    generalize leE C = lE at *
    generalize shV C = sV at *
    generalize shE C = sE at *
    generalize C.quiet = qt at *
    generalize qs.length = n0 at *
    generalize C.wins.length = N at *
    generalize C.ports.length = n2 at *
    have F1 : F ≤ 256 := by omega
    clear hF f0 f1
    generalize hwb : w.alloc (.cells #[.int .i64 F, .int .i64 qt, .slice pa n0 pc, .slice wa N wc, .slice oa n2 oc] 26) = wb
    have HG0 := hide (show w.grownBy wb none by rw [← hwb]; exact World.grownBy_alloc _ _ none)
    have KEEP : Hid (∀ V, wb.grownBy V none → V.cell? ⟨w.heap.size, 0, none⟩ = some (.int .i64 F) ∧ V.cell? ⟨w.heap.size, 1, none⟩ = some (.int .i64 qt) ∧ V.cell? ⟨w.heap.size, 2, none⟩ = some (.slice pa n0 pc) ∧ V.cell? ⟨w.heap.size, 3, none⟩ = some (.slice wa N wc) ∧ V.cell? ⟨w.heap.size, 4, none⟩ = some (.slice oa n2 oc)) := by
      intro V hV
      have b := fun k => World.cell?_of_block (a := ⟨w.heap.size, k, none⟩) (hV.block w.heap.size (by rw [← hwb]; simp) (by simp))
      exact ⟨(b 0).trans (by rw [← hwb]; simp), (b 1).trans (by rw [← hwb]; simp), (b 2).trans (by rw [← hwb]; simp), (b 3).trans (by rw [← hwb]; simp), (b 4).trans (by rw [← hwb]; simp)⟩
    go_enter Tryd.func8, Tryd.ntmps8
    go_wp2_with (first | fail)
    have HWB := hide hwb
    clear hwb
    refine (CA.out _ HG0.out).mono ?_; rintro e w1 ⟨rfl, hg⟩
    have G1 := hide hg
    clear hg CA
    obtain ⟨k0, k1, k2, k3, k4⟩ := KEEP.out w1 G1.out
    go_wp2_with (first | fail)
    refine (CS.out _ (grownBy_trans HG0.out G1.out)).mono ?_; rintro e w2 ⟨rfl, hg⟩
    have G2 := hide (grownBy_trans G1.out hg)
    rw [HS1.out, HS2.out]
    clear hg k0 k1 k2 k3 k4
    obtain ⟨k0, k1, k2, k3, k4⟩ := KEEP.out w2 G2.out
    go_wp2_with (first | fail)
    refine (CL.out KF _ (grownBy_trans HG0.out G2.out)).mono ?_; rintro e w3 ⟨rfl, hg⟩
    have G3 := hide (grownBy_trans G2.out hg)
    rw [HL1v.out, HL1e.out]
    clear hg k0 k1 k2 k3 k4
    obtain ⟨k0, k1, k2, k3, k4⟩ := KEEP.out w3 G3.out
    go_wp2_with (first | fail)
    refine (CL.out r _ (grownBy_trans HG0.out G3.out)).mono ?_; rintro e w4 ⟨rfl, hg⟩
    have G4 := hide (grownBy_trans G3.out hg)
    rw [HL2e.out]
    clear hg k0 k1 k2 k3 k4
    obtain ⟨k0, k1, k2, k3, k4⟩ := KEEP.out w4 G4.out
    go_wp2_with (first | fail)
    refine (CL.out ((r : Int) + KF) _ (grownBy_trans HG0.out G4.out)).mono ?_; rintro e w5 ⟨rfl, hg⟩
    have G5 := hide (grownBy_trans G4.out hg)
    rw [HL3v.out, HL3e.out]
    clear hg k0 k1 k2 k3 k4
    generalize lV P r = bv at *
    go_wp2_with (go_at_call 15; refine (NUM.out _ _).mono ?_; rintro e w' ⟨rfl, rfl⟩)
    go_ret
    exact ⟨rfl, grownBy_trans HG0.out G5.out⟩
  · have S2 : shE C p = 600 := by unfold shE; rw [if_neg hok]
    have HS2 := hide S2
    clear S2 hok hlen
    generalize shV C p = sv at *
    generalize shE C p = se at *
    generalize C.quiet = qt at *
    generalize qs.length = n0 at *
    generalize C.wins.length = N at *
    generalize C.ports.length = n2 at *
    generalize C.frame = fr at *
    generalize hwb : w.alloc (.cells #[.int .i64 fr, .int .i64 qt, .slice pa n0 pc, .slice wa N wc, .slice oa n2 oc] 26) = wb
    have HG0 := hide (show w.grownBy wb none by rw [← hwb]; exact World.grownBy_alloc _ _ none)
    have KEEP : Hid (∀ V, wb.grownBy V none → V.cell? ⟨w.heap.size, 0, none⟩ = some (.int .i64 fr) ∧ V.cell? ⟨w.heap.size, 1, none⟩ = some (.int .i64 qt) ∧ V.cell? ⟨w.heap.size, 2, none⟩ = some (.slice pa n0 pc) ∧ V.cell? ⟨w.heap.size, 3, none⟩ = some (.slice wa N wc) ∧ V.cell? ⟨w.heap.size, 4, none⟩ = some (.slice oa n2 oc)) := by
      intro V hV
      have b := fun k => World.cell?_of_block (a := ⟨w.heap.size, k, none⟩) (hV.block w.heap.size (by rw [← hwb]; simp) (by simp))
      exact ⟨(b 0).trans (by rw [← hwb]; simp), (b 1).trans (by rw [← hwb]; simp), (b 2).trans (by rw [← hwb]; simp), (b 3).trans (by rw [← hwb]; simp), (b 4).trans (by rw [← hwb]; simp)⟩
    go_enter Tryd.func8, Tryd.ntmps8
    go_wp2_with (first | fail)
    have HWB := hide hwb
    clear hwb
    refine (CA.out _ HG0.out).mono ?_; rintro e w1 ⟨rfl, hg⟩
    have G1 := hide hg
    clear hg CA
    obtain ⟨k0, k1, k2, k3, k4⟩ := KEEP.out w1 G1.out
    go_wp2_with (first | fail)
    refine (CS.out _ (grownBy_trans HG0.out G1.out)).mono ?_; rintro e w2 ⟨rfl, hg⟩
    have G2 := hide (grownBy_trans G1.out hg)
    rw [HS2.out]
    clear hg k0 k1 k2 k3 k4
    go_wp2
    go_ret
    exact ⟨rfl, grownBy_trans HG0.out G2.out⟩
#print axioms supplyWhole_any
end Go.Proofs.YtgocfgjdafkjlaaDoor.P7
