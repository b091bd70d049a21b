/- The walk of the statements' own awake, proved over the translation. -/
import Derived.Test.YtgaegggiehhcpaaDoorPlain
namespace Go.Proofs.YtgaegggiehhcpaaDoor
open Go.RowKit
attribute [local go_sem] alloc_drewN setCell_drewN

def plainS : ByteArray := ⟨#[78, 67, 0, 10, 2, 2, 1, 1, 0, 0, 10, 0, 10, 0, 2, 0, 4, 1, 2, 1, 7, 9, 0, 0, 1, 1, 0, 5, 0, 5, 0, 3, 0, 3, 0, 0, 2, 0, 0, 0, 5, 0, 0, 6, 0, 9, 1, 1, 1, 0, 1, 2]⟩
theorem aw1 : checkN plainC = 0 := by kernel_rfl
theorem aw2 : putS plainC = plainS := by kernel_rfl
theorem aw3 : getE plainS = 0 := by kernel_rfl
theorem aw4 : getC plainS = plainC := by kernel_rfl
theorem aw5 : checkN { plainC with wins := [px0, ⟨4, 9, 1⟩] } = 504 := by kernel_rfl
theorem aw6 : getE ⟨#[78, 67]⟩ = 500 := by kernel_rfl
theorem aw7 : checkN cz = 501 := by kernel_rfl
theorem aw8 : plainS.size = 52 := by kernel_rfl
theorem aw9 : ((plainS.extract 0 6).toList == [78, 67, 0, 10, 2, 2]) = true := by kernel_rfl
#print axioms aw4
theorem conf_form {lo : Nat} {W : World} {c : Value} {C : ConfV} (h : ConfAt lo W c C) : ∃ pa pn pc wa wn wc oa on oc, c = .agg #[.int .i64 C.frame, .int .i64 C.quiet, .slice pa pn pc, .slice wa wn wc, .slice oa on oc] := by
  obtain ⟨vp, vw, vo, rfl, ⟨_, _, ⟨_, a1, c1, rfl, _⟩, _⟩, ⟨_, a2, c2, rfl, _⟩, ⟨_, a3, c3, rfl, _⟩⟩ := h
  exact ⟨_, _, _, _, _, _, _, _, _, rfl⟩
set_option maxRecDepth 100000 in
set_option maxHeartbeats 2000000 in
theorem awake_any (w : World) (hT : Tab w) :
    Calls Tryd.prog 19 #[] w fun e w' => e = .returned (.bool true) ∧ w.grownBy w' none := by
  have HT := hide hT
  clear hT
  have z0 : (plainS.size : Int) = 52 := by rw [aw8]; rfl
  have E1 := hide aw1
  have E2 := hide aw2
  have E3 := hide aw3
  have E4 := hide aw4
  have E5 := hide aw5
  have E6 := hide aw6
  have E7 := hide aw7
  have z3 := aw9
  have z1 : (10 : Int) < plainS.size := by omega
  have z2 : (6 : Int) ≤ plainS.size := by omega
  have z4 : plainS.size ≤ 9223372036854775807 := by omega
  clear z0
  generalize plainS = sp at *
  go_enter Tryd.func19, Tryd.ntmps19
  go_wp2_with (first | fail)
  refine (plain_any w).mono ?_; rintro e w1 ⟨n, hn, rfl, hm, hg⟩
  have M1 := hide hm
  have G1 := hide hg
  clear hm hg
  have A1 := hide (World.grownBy_alloc w1 (.cells #[.int .i64 10, .int .i64 2, .slice (some ⟨n + 3, 0, none⟩) 2 2, .slice (some ⟨n + 4, 0, none⟩) 2 2, .slice (some ⟨n + 5, 0, none⟩) 1 1] 26) none)
  have B1 := hide (heap_alloc_new w1 (.cells #[.int .i64 10, .int .i64 2, .slice (some ⟨n + 3, 0, none⟩) 2 2, .slice (some ⟨n + 4, 0, none⟩) 2 2, .slice (some ⟨n + 5, 0, none⟩) 1 1] 26))
  go_wp2_with (first | fail)
  refine (put_any _ plainC _ (HT.out.grown (grownBy_trans G1.out A1.out)) ((M1.out.conf 10 2).grown A1.out)).mono ?_; rintro e w2 ⟨rfl, hg⟩
  have G2 := hide (grownBy_trans G1.out (grownBy_trans A1.out hg))
  have M2 := hide (M1.out.grown (grownBy_trans A1.out hg))
  have B2 := hide (box_grown B1.out hg (by simp))
  clear hg
  rw [E1.out, E2.out]
  go_wp2_with (first | fail)
  refine (get_any sp z4 _ (HT.out.grown G2.out)).mono ?_; rintro e w3 ⟨c3, rfl, ho, hg⟩
  rw [E3.out]
  rw [E4.out] at ho
  have G3 := hide (grownBy_trans G2.out hg)
  have M3 := hide (M2.out.grown hg)
  have B3 := hide (box_grown B2.out hg (by simp))
  have O3 := hide ho
  clear hg ho
  obtain ⟨pa, pn, pc, wa, wn, wc, oa, on, oc, rfl⟩ := conf_form O3.out.at
  have f0 : w3.cell? ⟨w1.heap.size, 0, none⟩ = some (.int .i64 10) := blk_cell B3.out 0
  have f1 : w3.cell? ⟨w1.heap.size, 1, none⟩ = some (.int .i64 2) := blk_cell B3.out 1
  have f2 : w3.cell? ⟨w1.heap.size, 2, none⟩ = some (.slice (some ⟨n + 3, 0, none⟩) 2 2) := blk_cell B3.out 2
  have f3 : w3.cell? ⟨w1.heap.size, 3, none⟩ = some (.slice (some ⟨n + 4, 0, none⟩) 2 2) := blk_cell B3.out 3
  have f4 : w3.cell? ⟨w1.heap.size, 4, none⟩ = some (.slice (some ⟨n + 5, 0, none⟩) 1 1) := blk_cell B3.out 4
  have hb3 := box_lt B3.out
  have hne3 : w1.heap.size ≠ w3.heap.size := by omega
  have A4 := hide (World.grownBy_alloc w3 (.cells #[.int .i64 plainC.frame, .int .i64 plainC.quiet, .slice pa pn pc, .slice wa wn wc, .slice oa on oc] 26) none)
  have X4 := hide (heap_alloc_new w3 (.cells #[.int .i64 plainC.frame, .int .i64 plainC.quiet, .slice pa pn pc, .slice wa wn wc, .slice oa on oc] 26))
  have HNW : n + 5 < w1.heap.size := M1.out.lt
  have HW12 := hide (show w1.heap.size < w2.heap.size from box_lt B2.out)
  go_wp2_with (first | fail)
  refine (check_any _ plainC _ (HT.out.grown (grownBy_trans G3.out A4.out)) ((M3.out.grown A4.out).conf 10 2)).mono ?_; rintro e w5 ⟨rfl, hg⟩
  rw [E1.out]
  have G5 := hide (grownBy_trans G3.out (grownBy_trans A4.out hg))
  have M5 := hide (M3.out.grown (grownBy_trans A4.out hg))
  have B5 := hide (box_grown B3.out (grownBy_trans A4.out hg) (by simp))
  have X5 := hide (box_grown X4.out hg (by simp))
  have O5 := hide ((O3.out.grown A4.out).grown hg)
  clear hg f0 f1 f2 f3 f4
  have f0 : w5.cell? ⟨w1.heap.size, 0, none⟩ = some (.int .i64 10) := blk_cell B5.out 0
  have f1 : w5.cell? ⟨w1.heap.size, 1, none⟩ = some (.int .i64 2) := blk_cell B5.out 1
  have f2 : w5.cell? ⟨w1.heap.size, 2, none⟩ = some (.slice (some ⟨n + 3, 0, none⟩) 2 2) := blk_cell B5.out 2
  have f3 : w5.cell? ⟨w1.heap.size, 3, none⟩ = some (.slice (some ⟨n + 4, 0, none⟩) 2 2) := blk_cell B5.out 3
  have f4 : w5.cell? ⟨w1.heap.size, 4, none⟩ = some (.slice (some ⟨n + 5, 0, none⟩) 1 1) := blk_cell B5.out 4
  have m0 : w5.cell? ⟨n + 4, 3, none⟩ = some (.int .i64 6) := blk_cell M5.out.bw 3
  have m1 : w5.frozen? ⟨n + 4, 3, none⟩ = false := blk_free M5.out.bw 3
  have hne5 : n + 4 ≠ w1.heap.size := by omega
  have hne6 : w1.heap.size ≠ n + 4 := by omega
  have M6 := hide (M5.out.setw 3 (.int .i64 4) px0 ⟨4, 9, 1⟩ rfl)
  have B6 := hide (blk_other (j := 3) (u := .int .i64 4) B5.out (b := n + 4) (by omega))
  have X6 := hide (blk_other (j := 3) (u := .int .i64 4) X5.out (b := n + 4) (by omega))
  have G6 := hide (grown_set_new (j := 3) (u := .int .i64 4) (R := n + 4) (by omega) G5.out)
  have O6 := hide (O5.out.off (grownBy_set w5 (n + 4) 3 (.int .i64 4)) (by have := HW12.out; omega))
  go_wp2_with (first | fail)
  refine (check_any _ { plainC with wins := [px0, ⟨4, 9, 1⟩] } _ (HT.out.grown G6.out) (M6.out.conf 10 2)).mono ?_; rintro e w7 ⟨rfl, hg⟩
  rw [E5.out]
  have G7 := hide (grownBy_trans G6.out hg)
  have X7 := hide (box_grown X6.out hg (by simp))
  have O7 := hide (O6.out.grown hg)
  clear hg f0 f1 f2 f3 f4 m0 m1
  go_wp2_with (first | fail)
  refine (get_any ⟨#[78, 67]⟩ (by decide) _ (HT.out.grown G7.out)).mono ?_; rintro e w8 ⟨c8, rfl, ho, hg⟩
  rw [E6.out]
  obtain ⟨pa8, pn8, pc8, wa8, wn8, wc8, oa8, on8, oc8, rfl⟩ := conf_form ho.at
  have G8 := hide (grownBy_trans G7.out hg)
  have X8 := hide (box_grown X7.out hg (by simp))
  have O8 := hide (O7.out.grown hg)
  clear ho hg
  generalize (getC ⟨#[78, 67]⟩).frame = fr8 at *
  generalize (getC ⟨#[78, 67]⟩).quiet = qt8 at *
  have A9 := hide (World.grownBy_alloc w8 (.cells #[.int .i64 fr8, .int .i64 qt8, .slice pa8 pn8 pc8, .slice wa8 wn8 wc8, .slice oa8 on8 oc8] 26) none)
  go_wp2_with (first | fail)
  refine (check_any (lo := 0) _ cz _ (HT.out.grown (grownBy_trans G8.out A9.out)) (confOwn_zero 0 _).at).mono ?_; rintro e w9 ⟨rfl, hg⟩
  rw [E7.out]
  have G9 := hide (grownBy_trans G8.out (grownBy_trans A9.out hg))
  have X9 := hide (box_grown X8.out (grownBy_trans A9.out hg) (by simp))
  have O9 := hide ((O8.out.grown A9.out).grown hg)
  clear hg
  generalize plainC.frame = fr at *
  generalize plainC.quiet = qt at *
  have KEEP : Hid (∀ W, w9.grownBy W none → (fun W : World => W.cell? ⟨w3.heap.size, 0, none⟩ = some (.int .i64 fr) ∧ W.cell? ⟨w3.heap.size, 1, none⟩ = some (.int .i64 qt) ∧ W.cell? ⟨w3.heap.size, 2, none⟩ = some (.slice pa pn pc) ∧ W.cell? ⟨w3.heap.size, 3, none⟩ = some (.slice wa wn wc) ∧ W.cell? ⟨w3.heap.size, 4, none⟩ = some (.slice oa on oc)) W) := by
    intro W hW
    have b := box_grown X9.out hW (by simp)
    exact ⟨blk_cell b 0, blk_cell b 1, blk_cell b 2, blk_cell b 3, blk_cell b 4⟩
  go_wp2
  go_region_held3 (fun W => W.cell? ⟨w3.heap.size, 0, none⟩ = some (.int .i64 fr) ∧ W.cell? ⟨w3.heap.size, 1, none⟩ = some (.int .i64 qt) ∧ W.cell? ⟨w3.heap.size, 2, none⟩ = some (.slice pa pn pc) ∧ W.cell? ⟨w3.heap.size, 3, none⟩ = some (.slice wa wn wc) ∧ W.cell? ⟨w3.heap.size, 4, none⟩ = some (.slice oa on oc)) (first | assumption | exact KEEP.out _ (grownBy_draws _ 1 _) | exact KEEP.out _ GS.out | exact KEEP.out _ GP.out) (first | (go_at_call 15; refine (num_any _ _).mono ?_; rintro e wn1 ⟨rfl, rfl⟩) | (go_at_call 20; refine (plain_any _).mono ?_; rintro e w10 ⟨n10, hn10, rfl, hm10, hg10⟩; have GP := hide (grownBy_trans (grownBy_draws w9 1 none) hg10); have M10 := hide hm10; clear hm10 hg10 hn10) | (go_at_call 17; refine (same_conf _ _ plainC _ (O9.out.at.grown GP.out) (M10.out.conf 10 2)).mono ?_; rintro e w11 ⟨rfl, hg11⟩; have GS := hide (grownBy_trans GP.out hg11); clear hg11))
  all_goals
    go_wp2
    go_ret
    exact ⟨rfl, grownBy_trans G9.out GS.out⟩

#print axioms awake_any
end Go.Proofs.YtgaegggiehhcpaaDoor
