/- The walk of the statement AdmitForms: parts, tasks that are none; who is late, who has nothing; proved over the translation. -/
import Derived.Test.YtehnklpjkcofcaaDoorAw9
namespace Go.Proofs.YtehnklpjkcofcaaDoor.P9
open Go.RowKit R6
attribute [local go_sem] alloc_drewN setCell_drewN

theorem pck : checkN plainC = 0 := by kernel_rfl
theorem plate2 : adN (plainOf 10 [⟨0, 3, 0⟩, px1]) = 901 := by kernel_rfl
theorem plow2 : adN (plainOf 10 [px0, ⟨6, 9, 0⟩]) = 902 := by kernel_rfl
theorem plate3 : adN (plainOf 10 []) = 901 := by kernel_rfl
theorem plain_re (p i : Int) : (p = 0 ∧ i = 0 ∧ reE plainC p i = 0) ∨ (p ≠ 0 ∧ reE plainC p i = 900) ∨ (p = 0 ∧ i ≠ 0 ∧ reE plainC p i = 900) := by
  by_cases h0 : p = 0
  · subst h0
    by_cases h1 : i = 0
    · subst h1
      exact .inl ⟨rfl, rfl, pe0⟩
    · refine .inr (.inr ⟨rfl, h1, (re_no ?_).2⟩)
      cases h : reOK plainC 0 i with
      | false => rfl
      | true =>
        obtain ⟨-, P, I, e1, rfl, -, -, h3⟩ := re_yes h
        obtain rfl : P = 0 := by omega
        have : I < 1 := h3
        omega
  · refine .inr (.inl ⟨h0, (re_no ?_).2⟩)
    cases h : reOK plainC p i with
    | false => rfl
    | true =>
      obtain ⟨-, P, I, rfl, rfl, h1, h2, -⟩ := re_yes h
      have h1' : P < 2 := h1
      obtain rfl : P = 1 := by omega
      exact absurd h2 (by decide)

set_option maxRecDepth 100000 in
set_option maxHeartbeats 4000000 in
theorem admitForms_any (p i : Int) (w : World) (hT : Tab w) :
    Calls Tryd.prog 7 #[.int .i64 p, .int .i64 i] w fun e w' => e = .returned (.bool true) ∧ w.grownBy w' none := by
  have HT := hide hT
  clear hT
  have NUM : Hid (∀ (e : Int) (W : World), Calls Tryd.prog 13 #[.int .i64 e] W fun r w' => r = .returned (.int .i64 e) ∧ W = w') := fun e W => (num_any e W).mono fun _ _ h => ⟨h.1, h.2.symm⟩
  have HCASE := hide (plain_re p i)
  go_enter Tryd.func7, Tryd.ntmps7
  go_wp2_with (first | fail)
  refine (awake_any w HT.out).mono ?_; rintro e w0 ⟨rfl, hg⟩
  have G0 := hide hg
  clear hg
  go_wp2_with (first | fail)
  refine (plain_any w0).mono ?_; rintro e w1 ⟨n0, hn0, rfl, hm, hg⟩
  have M1 := hide (hm.conf 10 2)
  have G1 := hide (grownBy_trans G0.out hg)
  clear hm hg
  go_wp2_with (first | fail)
  refine (resp_any _ plainC p i _ (HT.out.grown G1.out) M1.out).mono ?_; rintro e w2 ⟨rfl, hg⟩
  have G2 := hide (grownBy_trans G1.out hg)
  clear hg M1 G0 G1
  generalize reE plainC p i = e1 at *
  generalize reV plainC p i = v1 at *
  go_wp2_with (first | fail)
  refine (plain_any w2).mono ?_; rintro e w3 ⟨n, hn, rfl, hm, hg⟩
  have M3' := hide hm
  have G3' := hide (grownBy_trans G2.out hg)
  have hn2 := hm.lt
  have HN := hide (show w.heap.size ≤ n by have := G2.out.size; omega)
  clear hm hg
  go_upto_region 5 with fail
  have A3 := hide (World.grownBy_alloc w3 (.cells #[.int .i64 10, .int .i64 2, .slice (some ⟨n + 3, 0, none⟩) 2 2, .slice (some ⟨n + 4, 0, none⟩) 2 2, .slice (some ⟨n + 5, 0, none⟩) 1 1] 26) none)
  have B4 := hide (heap_alloc_new w3 (.cells #[.int .i64 10, .int .i64 2, .slice (some ⟨n + 3, 0, none⟩) 2 2, .slice (some ⟨n + 4, 0, none⟩) 2 2, .slice (some ⟨n + 5, 0, none⟩) 1 1] 26))
  generalize hw4 : w3.alloc (.cells #[.int .i64 10, .int .i64 2, .slice (some ⟨n + 3, 0, none⟩) 2 2, .slice (some ⟨n + 4, 0, none⟩) 2 2, .slice (some ⟨n + 5, 0, none⟩) 1 1] 26) = w4 at *
  clear hw4
  have M4 := hide (M3'.out.grown A3.out)
  have G4 := hide (grownBy_trans G3'.out A3.out)
  generalize w3.heap.size = D at *
  clear A3 M3' G3' G2
  have k3 : w4.cell? ⟨D, 3, none⟩ = some (.slice (some ⟨n + 4, 0, none⟩) 2 2) := blk_cell B4.out 3
  have t1 : w4.cell? ⟨n + 4, 1, none⟩ = some (.int .i64 5) := blk_cell M4.out.bw 1
  have fz : w4.frozen? ⟨n + 4, 1, none⟩ = false := blk_free' M4.out.bw 1
  have M5 := hide (M4.out.setw 1 (.int .i64 3) ⟨0, 3, 0⟩ px1 rfl)
  have G5 := hide (grown_set_new (j := 1) (u := .int .i64 3) (R := n + 4) (by have := HN.out; omega) G4.out)
  have B5 := hide (blk_other (j := 1) (u := .int .i64 3) (b := n + 4) B4.out (by omega))
  go_upto_region 6 with fail
  generalize w4.setCell ⟨n + 4, 1, none⟩ (.int .i64 3) = w5 at *
  clear k3 t1 fz M4 B4 G4
  have k0 : w5.cell? ⟨D, 0, none⟩ = some (.int .i64 10) := blk_cell B5.out 0
  have k1 : w5.cell? ⟨D, 1, none⟩ = some (.int .i64 2) := blk_cell B5.out 1
  have k2 : w5.cell? ⟨D, 2, none⟩ = some (.slice (some ⟨n + 3, 0, none⟩) 2 2) := blk_cell B5.out 2
  have k3 : w5.cell? ⟨D, 3, none⟩ = some (.slice (some ⟨n + 4, 0, none⟩) 2 2) := blk_cell B5.out 3
  have k4 : w5.cell? ⟨D, 4, none⟩ = some (.slice (some ⟨n + 5, 0, none⟩) 1 1) := blk_cell B5.out 4
  go_wp2_with (first | fail)
  refine (admit_any _ (plainOf 10 [⟨0, 3, 0⟩, px1]) _ (HT.out.grown G5.out) (M5.out.conf 10 2)).mono ?_; rintro e w6 ⟨rfl, hg⟩
  rw [plate2]
  have G6 := hide (grownBy_trans G5.out hg)
  clear hg k0 k1 k2 k3 k4 M5 B5 G5
  go_wp2_with (first | fail)
  refine (plain_any w6).mono ?_; rintro e w7 ⟨m, hm0, rfl, hm, hg⟩
  have M7' := hide hm
  have G7' := hide (grownBy_trans G6.out hg)
  have hm2 := hm.lt
  have HM := hide (show w.heap.size ≤ m by have := G6.out.size; omega)
  clear hm hg
  go_upto_region 8 with fail
  have A7 := hide (World.grownBy_alloc w7 (.cells #[.int .i64 10, .int .i64 2, .slice (some ⟨m + 3, 0, none⟩) 2 2, .slice (some ⟨m + 4, 0, none⟩) 2 2, .slice (some ⟨m + 5, 0, none⟩) 1 1] 26) none)
  have B8 := hide (heap_alloc_new w7 (.cells #[.int .i64 10, .int .i64 2, .slice (some ⟨m + 3, 0, none⟩) 2 2, .slice (some ⟨m + 4, 0, none⟩) 2 2, .slice (some ⟨m + 5, 0, none⟩) 1 1] 26))
  have HE := hide (show w.heap.size ≤ w7.heap.size from G7'.out.size)
  generalize hw8 : w7.alloc (.cells #[.int .i64 10, .int .i64 2, .slice (some ⟨m + 3, 0, none⟩) 2 2, .slice (some ⟨m + 4, 0, none⟩) 2 2, .slice (some ⟨m + 5, 0, none⟩) 1 1] 26) = w8 at *
  clear hw8
  have M8 := hide (M7'.out.grown A7.out)
  have G8 := hide (grownBy_trans G7'.out A7.out)
  generalize w7.heap.size = E at *
  clear A7 M7' G7' G6
  have k3 : w8.cell? ⟨E, 3, none⟩ = some (.slice (some ⟨m + 4, 0, none⟩) 2 2) := blk_cell B8.out 3
  have t1 : w8.cell? ⟨m + 4, 5, none⟩ = some (.int .i64 1) := blk_cell M8.out.bw 5
  have fz : w8.frozen? ⟨m + 4, 5, none⟩ = false := blk_free' M8.out.bw 5
  have M9 := hide (M8.out.setw 5 (.int .i64 0) px0 ⟨6, 9, 0⟩ rfl)
  have G9 := hide (grown_set_new (j := 5) (u := .int .i64 0) (R := m + 4) (by have := HM.out; omega) G8.out)
  have B9 := hide (blk_other (j := 5) (u := .int .i64 0) (b := m + 4) B8.out (by omega))
  go_upto_region 9 with fail
  generalize w8.setCell ⟨m + 4, 5, none⟩ (.int .i64 0) = w9 at *
  clear k3 t1 fz M8 B8 G8
  have k0 : w9.cell? ⟨E, 0, none⟩ = some (.int .i64 10) := blk_cell B9.out 0
  have k1 : w9.cell? ⟨E, 1, none⟩ = some (.int .i64 2) := blk_cell B9.out 1
  have k2 : w9.cell? ⟨E, 2, none⟩ = some (.slice (some ⟨m + 3, 0, none⟩) 2 2) := blk_cell B9.out 2
  have k3 : w9.cell? ⟨E, 3, none⟩ = some (.slice (some ⟨m + 4, 0, none⟩) 2 2) := blk_cell B9.out 3
  have k4 : w9.cell? ⟨E, 4, none⟩ = some (.slice (some ⟨m + 5, 0, none⟩) 1 1) := blk_cell B9.out 4
  go_wp2_with (first | fail)
  refine (admit_any _ (plainOf 10 [px0, ⟨6, 9, 0⟩]) _ (HT.out.grown G9.out) (M9.out.conf 10 2)).mono ?_; rintro e w10 ⟨rfl, hg⟩
  rw [plow2]
  have G10 := hide (grownBy_trans G9.out hg)
  have B10 := hide (box_grown B9.out hg (by simp))
  have M10 := hide (M9.out.grown hg)
  clear hg k0 k1 k2 k3 k4 M9 B9 G9
  have k3 : w10.cell? ⟨E, 3, none⟩ = some (.slice (some ⟨m + 4, 0, none⟩) 2 2) := blk_cell B10.out 3
  have fz : w10.frozen? ⟨E, 3, none⟩ = false := blk_free' B10.out 3
  have M11 := hide (M10.out.above E 3 (.slice none 0 0) hm2)
  have G11 := hide (grown_set_new (j := 3) (u := .slice none 0 0) (R := E) HE.out G10.out)
  have B11 := hide (blk_set (j := 3) (u := .slice none 0 0) B10.out rfl)
  go_upto_region 11 with fail
  generalize w10.setCell ⟨E, 3, none⟩ (.slice none 0 0) = w11 at *
  clear k3 fz M10 B10 G10
  have CF11 : Hid (ConfAt m w11 (.agg #[.int .i64 10, .int .i64 2, .slice (some ⟨m + 3, 0, none⟩) 2 2, .slice none 0 0, .slice (some ⟨m + 5, 0, none⟩) 1 1]) (plainOf 10 [])) := by
    obtain ⟨vp, vw, vo, e, h1, h2, h3⟩ := M11.out.conf 10 2
    simp only [Value.agg.injEq, Array.mk.injEq, List.cons.injEq, and_true, true_and] at e
    obtain ⟨rfl, rfl, rfl⟩ := e
    exact ⟨_, _, _, rfl, h1, rowAt_nil _ _ _ _, h3⟩
  have k0 : w11.cell? ⟨E, 0, none⟩ = some (.int .i64 10) := blk_cell B11.out 0
  have k1 : w11.cell? ⟨E, 1, none⟩ = some (.int .i64 2) := blk_cell B11.out 1
  have k2 : w11.cell? ⟨E, 2, none⟩ = some (.slice (some ⟨m + 3, 0, none⟩) 2 2) := blk_cell B11.out 2
  have k3 : w11.cell? ⟨E, 3, none⟩ = some (.slice none 0 0) := blk_cell B11.out 3
  have k4 : w11.cell? ⟨E, 4, none⟩ = some (.slice (some ⟨m + 5, 0, none⟩) 1 1) := blk_cell B11.out 4
  go_wp2_with (first | fail)
  refine (admit_any _ (plainOf 10 []) _ (HT.out.grown G11.out) CF11.out).mono ?_; rintro e w12 ⟨rfl, hg⟩
  rw [plate3]
  have G12 := hide (grownBy_trans G11.out hg)
  clear hg k0 k1 k2 k3 k4 M11 B11 G11 CF11
  rcases HCASE.out with ⟨rfl, rfl, rfl⟩ | ⟨h, rfl⟩ | ⟨rfl, h, rfl⟩
  · go_wp2_with (go_at_call 13; refine (NUM.out _ _).mono ?_; rintro e w' ⟨rfl, rfl⟩)
    go_ret
    exact ⟨rfl, G12.out⟩
  · have hb : (p == 0) = false := by simp [h]
    go_wp2_with (go_at_call 13; refine (NUM.out _ _).mono ?_; rintro e w' ⟨rfl, rfl⟩)
    go_ret
    exact ⟨rfl, G12.out⟩
  · have hb : (i == 0) = false := by simp [h]
    go_wp2_with (go_at_call 13; refine (NUM.out _ _).mono ?_; rintro e w' ⟨rfl, rfl⟩)
    go_ret
    exact ⟨rfl, G12.out⟩
#print axioms admitForms_any
end Go.Proofs.YtehnklpjkcofcaaDoor.P9
