/- The contract of the document's own PutJob, proved over the translation: it answers as the program's Put. -/
import Derived.Test.YtebiifcifcefoaaRefJ
import Derived.Test.YtebiifcifcefoaaIns
import Derived.Test.YtebiifcifcefoaaPmath
namespace Go.Proofs.Ytebiifcifcefoaa
open Go.RowKit
attribute [local go_sem] alloc_drewN setCell_drewN

set_option maxRecDepth 100000 in
set_option maxHeartbeats 8000000 in
theorem rput_b0 {lo : Nat} (a : Option Addr) (N cap P : Nat) (js : List JobV) (j : JobV) (w : World) (hv : RowAt shJ lo w (.slice a N cap) js) (hP : placeN js j = P) (hm : rowMay js = false) :
    Calls Try.prog 10 #[.slice a N cap, jobVal j] w fun e w' => e = .returned (.tuple #[.slice none 0 0, .int .i64 1200]) ∧ w.grownBy w' none := by
  have hlen : js.length = N := by obtain ⟨-, a2, c2, e, -⟩ := hv; simp only [Value.slice.injEq] at e; exact e.2.1.symm
  have HPL := place_le js j
  have hl63 := hv.1
  rw [hlen] at hl63
  have HB0 := hide (fun i (h : i < placeN js j) => ahead_iff.2 (place_ahead h))
  have HB1 := hide (fun (h : placeN js j < js.length) => ahead_no.2 (place_at h))
  have HMEM := hide (fun k (h : k < js.length) => jobAt_mem h)
  have CM := hide (fun W (hg : w.grownBy W none) => rmayJobs_any (.slice a N cap) js W (hv.grown hg))
  have CJ := hide (fun W => rjob_any j W)
  have HV := hide (fun W (hg : w.grownBy W none) => hv.grown hg)
  rw [hm] at CM
  clear hm
  rw [hP] at HPL HB0 HB1
  rw [hlen] at HPL HB1 HMEM
  clear hP hlen hv
  obtain ⟨y0, y1, y2, y3, y4, y5, y6⟩ := j
  have CA0 := hide (fun i W => rahead_any (jobAt js i) ⟨y0, y1, y2, y3, y4, y5, y6⟩ W)
  have CA1 := hide (fun i W => rahead_any ⟨y0, y1, y2, y3, y4, y5, y6⟩ (jobAt js i) W)
  dsimp only [jobVal] at CA0 CA1 CJ
  go_enter Try.func10, Try.ntmps10
  go_upto_region 2 with (first | fail)
  have HG0 := hide (World.grownBy_alloc w (.cells #[.int .i64 y0, .int .i64 y1, .int .i64 y2, .int .i64 y3, .int .i64 y4, .int .i64 y5, .int .i64 y6] 24) none)
  have HBX0 := hide (heap_alloc_new w (.cells #[.int .i64 y0, .int .i64 y1, .int .i64 y2, .int .i64 y3, .int .i64 y4, .int .i64 y5, .int .i64 y6] 24))
  generalize w.alloc (.cells #[.int .i64 y0, .int .i64 y1, .int .i64 y2, .int .i64 y3, .int .i64 y4, .int .i64 y5, .int .i64 y6] 24) = w0 at *
  generalize hB : w.heap.size = B at *
  have HBW := hide hB
  clear hB
  have HBX := hide (fun W (hg : w0.grownBy W none) => box_grown HBX0.out hg (by simp))
  have HVn := hide (fun W (hg : w0.grownBy W none) => HV.out W (grownBy_trans HG0.out hg))
  have CMn := hide (fun W (hg : w0.grownBy W none) => CM.out W (grownBy_trans HG0.out hg))
  clear HBX0 HV CM
  have HV := HVn
  have CM := CMn
  clear HVn CMn
  go_loopw [6] (fun i W => ∃ (k : Nat), k ≤ P ∧ i = .int .i64 k ∧ Hid (w0.grownBy W none)) (fun i _ => P - (intOf i).toNat)
  case atStart => exact ⟨0, by omega, rfl, grownBy_refl _ _⟩
  case round =>
    obtain ⟨k, hk, rfl, HG⟩ := hrel
    by_cases hkP : k < P
    · skip
      obtain ⟨g, o, rfl⟩ := row_addr (HV.out wr HG.out) (by omega)
      have hq := HMEM.out k (by omega)
      have CA := hide (fun W => CA0.out k W)
      rw [HB0.out k hkP] at CA
      have hkN : k < N := by omega
      generalize jobAt js k = X at *
      obtain ⟨x0, x1, x2, x3, x4, x5, x6⟩ := X
      obtain ⟨U, hU, F, HF, HRC⟩ := class_of wr
      have c0 : ∀ u, (F u).cell? ⟨g, o + k * 7, none⟩ = some (.int .i64 x0) := fun u => row_cell (S := shJ) (HV.out _ (grownBy_trans HG.out (HF.out u))) hq (k := 0) rfl
      have c1 : ∀ u, (F u).cell? ⟨g, o + k * 7 + 1, none⟩ = some (.int .i64 x1) := fun u => row_cell (S := shJ) (HV.out _ (grownBy_trans HG.out (HF.out u))) hq (k := 1) rfl
      have c2 : ∀ u, (F u).cell? ⟨g, o + k * 7 + 2, none⟩ = some (.int .i64 x2) := fun u => row_cell (S := shJ) (HV.out _ (grownBy_trans HG.out (HF.out u))) hq (k := 2) rfl
      have c3 : ∀ u, (F u).cell? ⟨g, o + k * 7 + 3, none⟩ = some (.int .i64 x3) := fun u => row_cell (S := shJ) (HV.out _ (grownBy_trans HG.out (HF.out u))) hq (k := 3) rfl
      have c4 : ∀ u, (F u).cell? ⟨g, o + k * 7 + 4, none⟩ = some (.int .i64 x4) := fun u => row_cell (S := shJ) (HV.out _ (grownBy_trans HG.out (HF.out u))) hq (k := 4) rfl
      have c5 : ∀ u, (F u).cell? ⟨g, o + k * 7 + 5, none⟩ = some (.int .i64 x5) := fun u => row_cell (S := shJ) (HV.out _ (grownBy_trans HG.out (HF.out u))) hq (k := 5) rfl
      have c6 : ∀ u, (F u).cell? ⟨g, o + k * 7 + 6, none⟩ = some (.int .i64 x6) := fun u => row_cell (S := shJ) (HV.out _ (grownBy_trans HG.out (HF.out u))) hq (k := 6) rfl
      have d0 : ∀ u, (F u).cell? ⟨B, 0, none⟩ = some (.int .i64 y0) := fun u => blk_cell (HBX.out _ (grownBy_trans HG.out (HF.out u))) 0
      have d1 : ∀ u, (F u).cell? ⟨B, 1, none⟩ = some (.int .i64 y1) := fun u => blk_cell (HBX.out _ (grownBy_trans HG.out (HF.out u))) 1
      have d2 : ∀ u, (F u).cell? ⟨B, 2, none⟩ = some (.int .i64 y2) := fun u => blk_cell (HBX.out _ (grownBy_trans HG.out (HF.out u))) 2
      have d3 : ∀ u, (F u).cell? ⟨B, 3, none⟩ = some (.int .i64 y3) := fun u => blk_cell (HBX.out _ (grownBy_trans HG.out (HF.out u))) 3
      have d4 : ∀ u, (F u).cell? ⟨B, 4, none⟩ = some (.int .i64 y4) := fun u => blk_cell (HBX.out _ (grownBy_trans HG.out (HF.out u))) 4
      have d5 : ∀ u, (F u).cell? ⟨B, 5, none⟩ = some (.int .i64 y5) := fun u => blk_cell (HBX.out _ (grownBy_trans HG.out (HF.out u))) 5
      have d6 : ∀ u, (F u).cell? ⟨B, 6, none⟩ = some (.int .i64 y6) := fun u => blk_cell (HBX.out _ (grownBy_trans HG.out (HF.out u))) 6
      clear hq
      go_upto_region 2 with (first | fail)
      refine wp_region_quiet_in F (by kernel_rfl) (by kernel_rfl) (HRC.out _ (drew_grown _)) ?_
      repeat (go_big_quiet_step (first | (go_at_call 30; exact calls_in HRC (HF.out _) (CA.out _))))
      refine wpQuiet_nil ?_
      intro _ hw1
      obtain ⟨uq, hw2⟩ := hw1
      subst hw2
      have HGn := hide (grownBy_trans HG.out (HF.out uq))
      clear HG c0 c1 c2 c3 c4 c5 c6 d0 d1 d2 d3 d4 d5 d6 HF HRC
      have HG := HGn
      clear HGn
      generalize F uq = w5 at *
      go_wp2
      go_roundw
      case rel => exact ⟨k + 1, by omega, by go_num, HG⟩
      case measure => simp [intOf]; omega
    · obtain rfl : k = P := by omega
      by_cases hlN : k < N
      · skip
        obtain ⟨g, o, rfl⟩ := row_addr (HV.out wr HG.out) (by omega)
        have hq := HMEM.out k (by omega)
        have CA := hide (fun W => CA0.out k W)
        rw [HB1.out hlN] at CA
        obtain ⟨X, hX⟩ : ∃ X, jobAt js k = X := ⟨_, rfl⟩
        rw [hX] at CA hq
        clear hX
        obtain ⟨x0, x1, x2, x3, x4, x5, x6⟩ := X
        obtain ⟨U, hU, F, HF, HRC⟩ := class_of wr
        have c0 : ∀ u, (F u).cell? ⟨g, o + k * 7, none⟩ = some (.int .i64 x0) := fun u => row_cell (S := shJ) (HV.out _ (grownBy_trans HG.out (HF.out u))) hq (k := 0) rfl
        have c1 : ∀ u, (F u).cell? ⟨g, o + k * 7 + 1, none⟩ = some (.int .i64 x1) := fun u => row_cell (S := shJ) (HV.out _ (grownBy_trans HG.out (HF.out u))) hq (k := 1) rfl
        have c2 : ∀ u, (F u).cell? ⟨g, o + k * 7 + 2, none⟩ = some (.int .i64 x2) := fun u => row_cell (S := shJ) (HV.out _ (grownBy_trans HG.out (HF.out u))) hq (k := 2) rfl
        have c3 : ∀ u, (F u).cell? ⟨g, o + k * 7 + 3, none⟩ = some (.int .i64 x3) := fun u => row_cell (S := shJ) (HV.out _ (grownBy_trans HG.out (HF.out u))) hq (k := 3) rfl
        have c4 : ∀ u, (F u).cell? ⟨g, o + k * 7 + 4, none⟩ = some (.int .i64 x4) := fun u => row_cell (S := shJ) (HV.out _ (grownBy_trans HG.out (HF.out u))) hq (k := 4) rfl
        have c5 : ∀ u, (F u).cell? ⟨g, o + k * 7 + 5, none⟩ = some (.int .i64 x5) := fun u => row_cell (S := shJ) (HV.out _ (grownBy_trans HG.out (HF.out u))) hq (k := 5) rfl
        have c6 : ∀ u, (F u).cell? ⟨g, o + k * 7 + 6, none⟩ = some (.int .i64 x6) := fun u => row_cell (S := shJ) (HV.out _ (grownBy_trans HG.out (HF.out u))) hq (k := 6) rfl
        have d0 : ∀ u, (F u).cell? ⟨B, 0, none⟩ = some (.int .i64 y0) := fun u => blk_cell (HBX.out _ (grownBy_trans HG.out (HF.out u))) 0
        have d1 : ∀ u, (F u).cell? ⟨B, 1, none⟩ = some (.int .i64 y1) := fun u => blk_cell (HBX.out _ (grownBy_trans HG.out (HF.out u))) 1
        have d2 : ∀ u, (F u).cell? ⟨B, 2, none⟩ = some (.int .i64 y2) := fun u => blk_cell (HBX.out _ (grownBy_trans HG.out (HF.out u))) 2
        have d3 : ∀ u, (F u).cell? ⟨B, 3, none⟩ = some (.int .i64 y3) := fun u => blk_cell (HBX.out _ (grownBy_trans HG.out (HF.out u))) 3
        have d4 : ∀ u, (F u).cell? ⟨B, 4, none⟩ = some (.int .i64 y4) := fun u => blk_cell (HBX.out _ (grownBy_trans HG.out (HF.out u))) 4
        have d5 : ∀ u, (F u).cell? ⟨B, 5, none⟩ = some (.int .i64 y5) := fun u => blk_cell (HBX.out _ (grownBy_trans HG.out (HF.out u))) 5
        have d6 : ∀ u, (F u).cell? ⟨B, 6, none⟩ = some (.int .i64 y6) := fun u => blk_cell (HBX.out _ (grownBy_trans HG.out (HF.out u))) 6
        clear hq
        go_upto_region 2 with (first | fail)
        refine wp_region_quiet_in F (by kernel_rfl) (by kernel_rfl) (HRC.out _ (drew_grown _)) ?_
        repeat (go_big_quiet_step (first | (go_at_call 30; exact calls_in HRC (HF.out _) (CA.out _))))
        refine wpQuiet_nil ?_
        intro _ hw1
        obtain ⟨uq, hw2⟩ := hw1
        subst hw2
        have HGn := hide (grownBy_trans HG.out (HF.out uq))
        clear HG c0 c1 c2 c3 c4 c5 c6 d0 d1 d2 d3 d4 d5 d6 CA HF HRC
        have HG := HGn
        clear HGn
        generalize F uq = w6 at *
        go_upto_region 4 with (first | fail)
        obtain ⟨U, hU, F, HF, HRC⟩ := class_of w6
        refine wp_region_quiet_in F (by kernel_rfl) (by kernel_rfl) (HRC.out _ (drew_grown _)) ?_
        repeat (go_big_quiet_step (first | (go_at_call 19; exact calls_in HRC (HF.out _) (CM.out _ (grownBy_trans HG.out (HF.out _)))) | (go_at_call 31; exact calls_in HRC (HF.out _) (CJ.out _))))
        refine wpQuiet_nil ?_
        intro _ hw1
        obtain ⟨uq, hw2⟩ := hw1
        subst hw2
        have HGn := hide (grownBy_trans HG.out (HF.out uq))
        clear HG  HF HRC
        have HG := HGn
        clear HGn
        generalize F uq = w7 at *
        go_wp2
        go_ret2
        exact ⟨rfl, grownBy_trans HG0.out HG.out⟩
      · skip
        have hNk : k = N := by omega
        subst hNk
        obtain ⟨U, hU, F, HF, HRC⟩ := class_of wr
        go_upto_region 2 with (first | fail)
        refine wp_region_quiet_in F (by kernel_rfl) (by kernel_rfl) (HRC.out _ (drew_grown _)) ?_
        repeat (go_big_quiet_step (first | fail))
        refine wpQuiet_nil ?_
        intro _ hw1
        obtain ⟨uq, hw2⟩ := hw1
        subst hw2
        have HGn := hide (grownBy_trans HG.out (HF.out uq))
        clear HG  HF HRC
        have HG := HGn
        clear HGn
        generalize F uq = w6 at *
        go_upto_region 4 with (first | fail)
        obtain ⟨U, hU, F, HF, HRC⟩ := class_of w6
        refine wp_region_quiet_in F (by kernel_rfl) (by kernel_rfl) (HRC.out _ (drew_grown _)) ?_
        repeat (go_big_quiet_step (first | (go_at_call 19; exact calls_in HRC (HF.out _) (CM.out _ (grownBy_trans HG.out (HF.out _)))) | (go_at_call 31; exact calls_in HRC (HF.out _) (CJ.out _))))
        refine wpQuiet_nil ?_
        intro _ hw1
        obtain ⟨uq, hw2⟩ := hw1
        subst hw2
        have HGn := hide (grownBy_trans HG.out (HF.out uq))
        clear HG  HF HRC
        have HG := HGn
        clear HGn
        generalize F uq = w7 at *
        go_wp2
        go_ret2
        exact ⟨rfl, grownBy_trans HG0.out HG.out⟩
set_option maxRecDepth 100000 in
set_option maxHeartbeats 8000000 in
theorem rput_b1 {lo : Nat} (a : Option Addr) (N cap P : Nat) (js : List JobV) (j : JobV) (w : World) (hv : RowAt shJ lo w (.slice a N cap) js) (hP : placeN js j = P) (hm : rowMay js = true) (hj : jobMay j = false) :
    Calls Try.prog 10 #[.slice a N cap, jobVal j] w fun e w' => e = .returned (.tuple #[.slice none 0 0, .int .i64 1200]) ∧ w.grownBy w' none := by
  have hlen : js.length = N := by obtain ⟨-, a2, c2, e, -⟩ := hv; simp only [Value.slice.injEq] at e; exact e.2.1.symm
  have HPL := place_le js j
  have hl63 := hv.1
  rw [hlen] at hl63
  have HB0 := hide (fun i (h : i < placeN js j) => ahead_iff.2 (place_ahead h))
  have HB1 := hide (fun (h : placeN js j < js.length) => ahead_no.2 (place_at h))
  have HMEM := hide (fun k (h : k < js.length) => jobAt_mem h)
  have CM := hide (fun W (hg : w.grownBy W none) => rmayJobs_any (.slice a N cap) js W (hv.grown hg))
  have CJ := hide (fun W => rjob_any j W)
  have HV := hide (fun W (hg : w.grownBy W none) => hv.grown hg)
  rw [hm] at CM
  rw [hj] at CJ
  clear hm hj
  rw [hP] at HPL HB0 HB1
  rw [hlen] at HPL HB1 HMEM
  clear hP hlen hv
  obtain ⟨y0, y1, y2, y3, y4, y5, y6⟩ := j
  have CA0 := hide (fun i W => rahead_any (jobAt js i) ⟨y0, y1, y2, y3, y4, y5, y6⟩ W)
  have CA1 := hide (fun i W => rahead_any ⟨y0, y1, y2, y3, y4, y5, y6⟩ (jobAt js i) W)
  dsimp only [jobVal] at CA0 CA1 CJ
  go_enter Try.func10, Try.ntmps10
  go_upto_region 2 with (first | fail)
  have HG0 := hide (World.grownBy_alloc w (.cells #[.int .i64 y0, .int .i64 y1, .int .i64 y2, .int .i64 y3, .int .i64 y4, .int .i64 y5, .int .i64 y6] 24) none)
  have HBX0 := hide (heap_alloc_new w (.cells #[.int .i64 y0, .int .i64 y1, .int .i64 y2, .int .i64 y3, .int .i64 y4, .int .i64 y5, .int .i64 y6] 24))
  generalize w.alloc (.cells #[.int .i64 y0, .int .i64 y1, .int .i64 y2, .int .i64 y3, .int .i64 y4, .int .i64 y5, .int .i64 y6] 24) = w0 at *
  generalize hB : w.heap.size = B at *
  have HBW := hide hB
  clear hB
  have HBX := hide (fun W (hg : w0.grownBy W none) => box_grown HBX0.out hg (by simp))
  have HVn := hide (fun W (hg : w0.grownBy W none) => HV.out W (grownBy_trans HG0.out hg))
  have CMn := hide (fun W (hg : w0.grownBy W none) => CM.out W (grownBy_trans HG0.out hg))
  clear HBX0 HV CM
  have HV := HVn
  have CM := CMn
  clear HVn CMn
  go_loopw [6] (fun i W => ∃ (k : Nat), k ≤ P ∧ i = .int .i64 k ∧ Hid (w0.grownBy W none)) (fun i _ => P - (intOf i).toNat)
  case atStart => exact ⟨0, by omega, rfl, grownBy_refl _ _⟩
  case round =>
    obtain ⟨k, hk, rfl, HG⟩ := hrel
    by_cases hkP : k < P
    · skip
      obtain ⟨g, o, rfl⟩ := row_addr (HV.out wr HG.out) (by omega)
      have hq := HMEM.out k (by omega)
      have CA := hide (fun W => CA0.out k W)
      rw [HB0.out k hkP] at CA
      have hkN : k < N := by omega
      generalize jobAt js k = X at *
      obtain ⟨x0, x1, x2, x3, x4, x5, x6⟩ := X
      obtain ⟨U, hU, F, HF, HRC⟩ := class_of wr
      have c0 : ∀ u, (F u).cell? ⟨g, o + k * 7, none⟩ = some (.int .i64 x0) := fun u => row_cell (S := shJ) (HV.out _ (grownBy_trans HG.out (HF.out u))) hq (k := 0) rfl
      have c1 : ∀ u, (F u).cell? ⟨g, o + k * 7 + 1, none⟩ = some (.int .i64 x1) := fun u => row_cell (S := shJ) (HV.out _ (grownBy_trans HG.out (HF.out u))) hq (k := 1) rfl
      have c2 : ∀ u, (F u).cell? ⟨g, o + k * 7 + 2, none⟩ = some (.int .i64 x2) := fun u => row_cell (S := shJ) (HV.out _ (grownBy_trans HG.out (HF.out u))) hq (k := 2) rfl
      have c3 : ∀ u, (F u).cell? ⟨g, o + k * 7 + 3, none⟩ = some (.int .i64 x3) := fun u => row_cell (S := shJ) (HV.out _ (grownBy_trans HG.out (HF.out u))) hq (k := 3) rfl
      have c4 : ∀ u, (F u).cell? ⟨g, o + k * 7 + 4, none⟩ = some (.int .i64 x4) := fun u => row_cell (S := shJ) (HV.out _ (grownBy_trans HG.out (HF.out u))) hq (k := 4) rfl
      have c5 : ∀ u, (F u).cell? ⟨g, o + k * 7 + 5, none⟩ = some (.int .i64 x5) := fun u => row_cell (S := shJ) (HV.out _ (grownBy_trans HG.out (HF.out u))) hq (k := 5) rfl
      have c6 : ∀ u, (F u).cell? ⟨g, o + k * 7 + 6, none⟩ = some (.int .i64 x6) := fun u => row_cell (S := shJ) (HV.out _ (grownBy_trans HG.out (HF.out u))) hq (k := 6) rfl
      have d0 : ∀ u, (F u).cell? ⟨B, 0, none⟩ = some (.int .i64 y0) := fun u => blk_cell (HBX.out _ (grownBy_trans HG.out (HF.out u))) 0
      have d1 : ∀ u, (F u).cell? ⟨B, 1, none⟩ = some (.int .i64 y1) := fun u => blk_cell (HBX.out _ (grownBy_trans HG.out (HF.out u))) 1
      have d2 : ∀ u, (F u).cell? ⟨B, 2, none⟩ = some (.int .i64 y2) := fun u => blk_cell (HBX.out _ (grownBy_trans HG.out (HF.out u))) 2
      have d3 : ∀ u, (F u).cell? ⟨B, 3, none⟩ = some (.int .i64 y3) := fun u => blk_cell (HBX.out _ (grownBy_trans HG.out (HF.out u))) 3
      have d4 : ∀ u, (F u).cell? ⟨B, 4, none⟩ = some (.int .i64 y4) := fun u => blk_cell (HBX.out _ (grownBy_trans HG.out (HF.out u))) 4
      have d5 : ∀ u, (F u).cell? ⟨B, 5, none⟩ = some (.int .i64 y5) := fun u => blk_cell (HBX.out _ (grownBy_trans HG.out (HF.out u))) 5
      have d6 : ∀ u, (F u).cell? ⟨B, 6, none⟩ = some (.int .i64 y6) := fun u => blk_cell (HBX.out _ (grownBy_trans HG.out (HF.out u))) 6
      clear hq
      go_upto_region 2 with (first | fail)
      refine wp_region_quiet_in F (by kernel_rfl) (by kernel_rfl) (HRC.out _ (drew_grown _)) ?_
      repeat (go_big_quiet_step (first | (go_at_call 30; exact calls_in HRC (HF.out _) (CA.out _))))
      refine wpQuiet_nil ?_
      intro _ hw1
      obtain ⟨uq, hw2⟩ := hw1
      subst hw2
      have HGn := hide (grownBy_trans HG.out (HF.out uq))
      clear HG c0 c1 c2 c3 c4 c5 c6 d0 d1 d2 d3 d4 d5 d6 HF HRC
      have HG := HGn
      clear HGn
      generalize F uq = w5 at *
      go_wp2
      go_roundw
      case rel => exact ⟨k + 1, by omega, by go_num, HG⟩
      case measure => simp [intOf]; omega
    · obtain rfl : k = P := by omega
      by_cases hlN : k < N
      · skip
        obtain ⟨g, o, rfl⟩ := row_addr (HV.out wr HG.out) (by omega)
        have hq := HMEM.out k (by omega)
        have CA := hide (fun W => CA0.out k W)
        rw [HB1.out hlN] at CA
        obtain ⟨X, hX⟩ : ∃ X, jobAt js k = X := ⟨_, rfl⟩
        rw [hX] at CA hq
        clear hX
        obtain ⟨x0, x1, x2, x3, x4, x5, x6⟩ := X
        obtain ⟨U, hU, F, HF, HRC⟩ := class_of wr
        have c0 : ∀ u, (F u).cell? ⟨g, o + k * 7, none⟩ = some (.int .i64 x0) := fun u => row_cell (S := shJ) (HV.out _ (grownBy_trans HG.out (HF.out u))) hq (k := 0) rfl
        have c1 : ∀ u, (F u).cell? ⟨g, o + k * 7 + 1, none⟩ = some (.int .i64 x1) := fun u => row_cell (S := shJ) (HV.out _ (grownBy_trans HG.out (HF.out u))) hq (k := 1) rfl
        have c2 : ∀ u, (F u).cell? ⟨g, o + k * 7 + 2, none⟩ = some (.int .i64 x2) := fun u => row_cell (S := shJ) (HV.out _ (grownBy_trans HG.out (HF.out u))) hq (k := 2) rfl
        have c3 : ∀ u, (F u).cell? ⟨g, o + k * 7 + 3, none⟩ = some (.int .i64 x3) := fun u => row_cell (S := shJ) (HV.out _ (grownBy_trans HG.out (HF.out u))) hq (k := 3) rfl
        have c4 : ∀ u, (F u).cell? ⟨g, o + k * 7 + 4, none⟩ = some (.int .i64 x4) := fun u => row_cell (S := shJ) (HV.out _ (grownBy_trans HG.out (HF.out u))) hq (k := 4) rfl
        have c5 : ∀ u, (F u).cell? ⟨g, o + k * 7 + 5, none⟩ = some (.int .i64 x5) := fun u => row_cell (S := shJ) (HV.out _ (grownBy_trans HG.out (HF.out u))) hq (k := 5) rfl
        have c6 : ∀ u, (F u).cell? ⟨g, o + k * 7 + 6, none⟩ = some (.int .i64 x6) := fun u => row_cell (S := shJ) (HV.out _ (grownBy_trans HG.out (HF.out u))) hq (k := 6) rfl
        have d0 : ∀ u, (F u).cell? ⟨B, 0, none⟩ = some (.int .i64 y0) := fun u => blk_cell (HBX.out _ (grownBy_trans HG.out (HF.out u))) 0
        have d1 : ∀ u, (F u).cell? ⟨B, 1, none⟩ = some (.int .i64 y1) := fun u => blk_cell (HBX.out _ (grownBy_trans HG.out (HF.out u))) 1
        have d2 : ∀ u, (F u).cell? ⟨B, 2, none⟩ = some (.int .i64 y2) := fun u => blk_cell (HBX.out _ (grownBy_trans HG.out (HF.out u))) 2
        have d3 : ∀ u, (F u).cell? ⟨B, 3, none⟩ = some (.int .i64 y3) := fun u => blk_cell (HBX.out _ (grownBy_trans HG.out (HF.out u))) 3
        have d4 : ∀ u, (F u).cell? ⟨B, 4, none⟩ = some (.int .i64 y4) := fun u => blk_cell (HBX.out _ (grownBy_trans HG.out (HF.out u))) 4
        have d5 : ∀ u, (F u).cell? ⟨B, 5, none⟩ = some (.int .i64 y5) := fun u => blk_cell (HBX.out _ (grownBy_trans HG.out (HF.out u))) 5
        have d6 : ∀ u, (F u).cell? ⟨B, 6, none⟩ = some (.int .i64 y6) := fun u => blk_cell (HBX.out _ (grownBy_trans HG.out (HF.out u))) 6
        clear hq
        go_upto_region 2 with (first | fail)
        refine wp_region_quiet_in F (by kernel_rfl) (by kernel_rfl) (HRC.out _ (drew_grown _)) ?_
        repeat (go_big_quiet_step (first | (go_at_call 30; exact calls_in HRC (HF.out _) (CA.out _))))
        refine wpQuiet_nil ?_
        intro _ hw1
        obtain ⟨uq, hw2⟩ := hw1
        subst hw2
        have HGn := hide (grownBy_trans HG.out (HF.out uq))
        clear HG c0 c1 c2 c3 c4 c5 c6 d0 d1 d2 d3 d4 d5 d6 CA HF HRC
        have HG := HGn
        clear HGn
        generalize F uq = w6 at *
        go_upto_region 4 with (first | fail)
        obtain ⟨U, hU, F, HF, HRC⟩ := class_of w6
        have d0 : ∀ u, (F u).cell? ⟨B, 0, none⟩ = some (.int .i64 y0) := fun u => blk_cell (HBX.out _ (grownBy_trans HG.out (HF.out u))) 0
        have d1 : ∀ u, (F u).cell? ⟨B, 1, none⟩ = some (.int .i64 y1) := fun u => blk_cell (HBX.out _ (grownBy_trans HG.out (HF.out u))) 1
        have d2 : ∀ u, (F u).cell? ⟨B, 2, none⟩ = some (.int .i64 y2) := fun u => blk_cell (HBX.out _ (grownBy_trans HG.out (HF.out u))) 2
        have d3 : ∀ u, (F u).cell? ⟨B, 3, none⟩ = some (.int .i64 y3) := fun u => blk_cell (HBX.out _ (grownBy_trans HG.out (HF.out u))) 3
        have d4 : ∀ u, (F u).cell? ⟨B, 4, none⟩ = some (.int .i64 y4) := fun u => blk_cell (HBX.out _ (grownBy_trans HG.out (HF.out u))) 4
        have d5 : ∀ u, (F u).cell? ⟨B, 5, none⟩ = some (.int .i64 y5) := fun u => blk_cell (HBX.out _ (grownBy_trans HG.out (HF.out u))) 5
        have d6 : ∀ u, (F u).cell? ⟨B, 6, none⟩ = some (.int .i64 y6) := fun u => blk_cell (HBX.out _ (grownBy_trans HG.out (HF.out u))) 6
        refine wp_region_quiet_in F (by kernel_rfl) (by kernel_rfl) (HRC.out _ (drew_grown _)) ?_
        repeat (go_big_quiet_step (first | (go_at_call 19; exact calls_in HRC (HF.out _) (CM.out _ (grownBy_trans HG.out (HF.out _)))) | (go_at_call 31; exact calls_in HRC (HF.out _) (CJ.out _))))
        refine wpQuiet_nil ?_
        intro _ hw1
        obtain ⟨uq, hw2⟩ := hw1
        subst hw2
        have HGn := hide (grownBy_trans HG.out (HF.out uq))
        clear HG d0 d1 d2 d3 d4 d5 d6 HF HRC
        have HG := HGn
        clear HGn
        generalize F uq = w7 at *
        go_wp2
        go_ret2
        exact ⟨rfl, grownBy_trans HG0.out HG.out⟩
      · skip
        have hNk : k = N := by omega
        subst hNk
        obtain ⟨U, hU, F, HF, HRC⟩ := class_of wr
        go_upto_region 2 with (first | fail)
        refine wp_region_quiet_in F (by kernel_rfl) (by kernel_rfl) (HRC.out _ (drew_grown _)) ?_
        repeat (go_big_quiet_step (first | fail))
        refine wpQuiet_nil ?_
        intro _ hw1
        obtain ⟨uq, hw2⟩ := hw1
        subst hw2
        have HGn := hide (grownBy_trans HG.out (HF.out uq))
        clear HG  HF HRC
        have HG := HGn
        clear HGn
        generalize F uq = w6 at *
        go_upto_region 4 with (first | fail)
        obtain ⟨U, hU, F, HF, HRC⟩ := class_of w6
        have d0 : ∀ u, (F u).cell? ⟨B, 0, none⟩ = some (.int .i64 y0) := fun u => blk_cell (HBX.out _ (grownBy_trans HG.out (HF.out u))) 0
        have d1 : ∀ u, (F u).cell? ⟨B, 1, none⟩ = some (.int .i64 y1) := fun u => blk_cell (HBX.out _ (grownBy_trans HG.out (HF.out u))) 1
        have d2 : ∀ u, (F u).cell? ⟨B, 2, none⟩ = some (.int .i64 y2) := fun u => blk_cell (HBX.out _ (grownBy_trans HG.out (HF.out u))) 2
        have d3 : ∀ u, (F u).cell? ⟨B, 3, none⟩ = some (.int .i64 y3) := fun u => blk_cell (HBX.out _ (grownBy_trans HG.out (HF.out u))) 3
        have d4 : ∀ u, (F u).cell? ⟨B, 4, none⟩ = some (.int .i64 y4) := fun u => blk_cell (HBX.out _ (grownBy_trans HG.out (HF.out u))) 4
        have d5 : ∀ u, (F u).cell? ⟨B, 5, none⟩ = some (.int .i64 y5) := fun u => blk_cell (HBX.out _ (grownBy_trans HG.out (HF.out u))) 5
        have d6 : ∀ u, (F u).cell? ⟨B, 6, none⟩ = some (.int .i64 y6) := fun u => blk_cell (HBX.out _ (grownBy_trans HG.out (HF.out u))) 6
        refine wp_region_quiet_in F (by kernel_rfl) (by kernel_rfl) (HRC.out _ (drew_grown _)) ?_
        repeat (go_big_quiet_step (first | (go_at_call 19; exact calls_in HRC (HF.out _) (CM.out _ (grownBy_trans HG.out (HF.out _)))) | (go_at_call 31; exact calls_in HRC (HF.out _) (CJ.out _))))
        refine wpQuiet_nil ?_
        intro _ hw1
        obtain ⟨uq, hw2⟩ := hw1
        subst hw2
        have HGn := hide (grownBy_trans HG.out (HF.out uq))
        clear HG d0 d1 d2 d3 d4 d5 d6 HF HRC
        have HG := HGn
        clear HGn
        generalize F uq = w7 at *
        go_wp2
        go_ret2
        exact ⟨rfl, grownBy_trans HG0.out HG.out⟩
set_option maxRecDepth 100000 in
set_option maxHeartbeats 8000000 in
theorem rput_b2 {lo : Nat} (a : Option Addr) (N cap P : Nat) (js : List JobV) (j : JobV) (w : World) (hv : RowAt shJ lo w (.slice a N cap) js) (hP : placeN js j = P) (hm : rowMay js = true) (hj : jobMay j = true) (hh : hasB js j = true) :
    Calls Try.prog 10 #[.slice a N cap, jobVal j] w fun e w' => e = .returned (.tuple #[.slice none 0 0, .int .i64 1200]) ∧ w.grownBy w' none := by
  have hlen : js.length = N := by obtain ⟨-, a2, c2, e, -⟩ := hv; simp only [Value.slice.injEq] at e; exact e.2.1.symm
  have HPL := place_le js j
  have hl63 := hv.1
  rw [hlen] at hl63
  have HB0 := hide (fun i (h : i < placeN js j) => ahead_iff.2 (place_ahead h))
  have HB1 := hide (fun (h : placeN js j < js.length) => ahead_no.2 (place_at h))
  have HMEM := hide (fun k (h : k < js.length) => jobAt_mem h)
  have CM := hide (fun W (hg : w.grownBy W none) => rmayJobs_any (.slice a N cap) js W (hv.grown hg))
  have CJ := hide (fun W => rjob_any j W)
  have HV := hide (fun W (hg : w.grownBy W none) => hv.grown hg)
  have HH := hide (has_place (j := j) (rowMay_iff.1 hm).2.2)
  have h16 := (rowMay_iff.1 hm).1
  have HLT : Hid (placeN js j < js.length → aheadB j (jobAt js (placeN js j)) = false) := hide (fun h => by
    have h2 := has_place (j := j) (rowMay_iff.1 hm).2.2
    rw [hh, decide_eq_true h, Bool.true_and] at h2
    exact ahead_no.2 (rank_iff.1 h2.symm).2)
  have HNE : Hid (placeN js j < js.length) := hide ((by have h2 := has_place (j := j) (rowMay_iff.1 hm).2.2; rw [hh] at h2; by_cases h : placeN js j < js.length; (exact h); (rw [decide_eq_false h, Bool.false_and] at h2; cases h2)))
  rw [hm] at CM
  rw [hj] at CJ
  rw [hlen] at h16
  clear hm hj hh
  rw [hP] at HPL HB0 HB1 HLT HNE
  rw [hlen] at HPL HB1 HMEM HLT HNE
  clear hP hlen hv HH
  obtain ⟨y0, y1, y2, y3, y4, y5, y6⟩ := j
  have CA0 := hide (fun i W => rahead_any (jobAt js i) ⟨y0, y1, y2, y3, y4, y5, y6⟩ W)
  have CA1 := hide (fun i W => rahead_any ⟨y0, y1, y2, y3, y4, y5, y6⟩ (jobAt js i) W)
  dsimp only [jobVal] at CA0 CA1 CJ
  go_enter Try.func10, Try.ntmps10
  go_upto_region 2 with (first | fail)
  have HG0 := hide (World.grownBy_alloc w (.cells #[.int .i64 y0, .int .i64 y1, .int .i64 y2, .int .i64 y3, .int .i64 y4, .int .i64 y5, .int .i64 y6] 24) none)
  have HBX0 := hide (heap_alloc_new w (.cells #[.int .i64 y0, .int .i64 y1, .int .i64 y2, .int .i64 y3, .int .i64 y4, .int .i64 y5, .int .i64 y6] 24))
  generalize w.alloc (.cells #[.int .i64 y0, .int .i64 y1, .int .i64 y2, .int .i64 y3, .int .i64 y4, .int .i64 y5, .int .i64 y6] 24) = w0 at *
  generalize hB : w.heap.size = B at *
  have HBW := hide hB
  clear hB
  have HBX := hide (fun W (hg : w0.grownBy W none) => box_grown HBX0.out hg (by simp))
  have HVn := hide (fun W (hg : w0.grownBy W none) => HV.out W (grownBy_trans HG0.out hg))
  have CMn := hide (fun W (hg : w0.grownBy W none) => CM.out W (grownBy_trans HG0.out hg))
  clear HBX0 HV CM
  have HV := HVn
  have CM := CMn
  clear HVn CMn
  go_loopw [6] (fun i W => ∃ (k : Nat), k ≤ P ∧ i = .int .i64 k ∧ Hid (w0.grownBy W none)) (fun i _ => P - (intOf i).toNat)
  case atStart => exact ⟨0, by omega, rfl, grownBy_refl _ _⟩
  case round =>
    obtain ⟨k, hk, rfl, HG⟩ := hrel
    by_cases hkP : k < P
    · skip
      obtain ⟨g, o, rfl⟩ := row_addr (HV.out wr HG.out) (by omega)
      have hq := HMEM.out k (by omega)
      have CA := hide (fun W => CA0.out k W)
      rw [HB0.out k hkP] at CA
      have hkN : k < N := by omega
      generalize jobAt js k = X at *
      obtain ⟨x0, x1, x2, x3, x4, x5, x6⟩ := X
      obtain ⟨U, hU, F, HF, HRC⟩ := class_of wr
      have c0 : ∀ u, (F u).cell? ⟨g, o + k * 7, none⟩ = some (.int .i64 x0) := fun u => row_cell (S := shJ) (HV.out _ (grownBy_trans HG.out (HF.out u))) hq (k := 0) rfl
      have c1 : ∀ u, (F u).cell? ⟨g, o + k * 7 + 1, none⟩ = some (.int .i64 x1) := fun u => row_cell (S := shJ) (HV.out _ (grownBy_trans HG.out (HF.out u))) hq (k := 1) rfl
      have c2 : ∀ u, (F u).cell? ⟨g, o + k * 7 + 2, none⟩ = some (.int .i64 x2) := fun u => row_cell (S := shJ) (HV.out _ (grownBy_trans HG.out (HF.out u))) hq (k := 2) rfl
      have c3 : ∀ u, (F u).cell? ⟨g, o + k * 7 + 3, none⟩ = some (.int .i64 x3) := fun u => row_cell (S := shJ) (HV.out _ (grownBy_trans HG.out (HF.out u))) hq (k := 3) rfl
      have c4 : ∀ u, (F u).cell? ⟨g, o + k * 7 + 4, none⟩ = some (.int .i64 x4) := fun u => row_cell (S := shJ) (HV.out _ (grownBy_trans HG.out (HF.out u))) hq (k := 4) rfl
      have c5 : ∀ u, (F u).cell? ⟨g, o + k * 7 + 5, none⟩ = some (.int .i64 x5) := fun u => row_cell (S := shJ) (HV.out _ (grownBy_trans HG.out (HF.out u))) hq (k := 5) rfl
      have c6 : ∀ u, (F u).cell? ⟨g, o + k * 7 + 6, none⟩ = some (.int .i64 x6) := fun u => row_cell (S := shJ) (HV.out _ (grownBy_trans HG.out (HF.out u))) hq (k := 6) rfl
      have d0 : ∀ u, (F u).cell? ⟨B, 0, none⟩ = some (.int .i64 y0) := fun u => blk_cell (HBX.out _ (grownBy_trans HG.out (HF.out u))) 0
      have d1 : ∀ u, (F u).cell? ⟨B, 1, none⟩ = some (.int .i64 y1) := fun u => blk_cell (HBX.out _ (grownBy_trans HG.out (HF.out u))) 1
      have d2 : ∀ u, (F u).cell? ⟨B, 2, none⟩ = some (.int .i64 y2) := fun u => blk_cell (HBX.out _ (grownBy_trans HG.out (HF.out u))) 2
      have d3 : ∀ u, (F u).cell? ⟨B, 3, none⟩ = some (.int .i64 y3) := fun u => blk_cell (HBX.out _ (grownBy_trans HG.out (HF.out u))) 3
      have d4 : ∀ u, (F u).cell? ⟨B, 4, none⟩ = some (.int .i64 y4) := fun u => blk_cell (HBX.out _ (grownBy_trans HG.out (HF.out u))) 4
      have d5 : ∀ u, (F u).cell? ⟨B, 5, none⟩ = some (.int .i64 y5) := fun u => blk_cell (HBX.out _ (grownBy_trans HG.out (HF.out u))) 5
      have d6 : ∀ u, (F u).cell? ⟨B, 6, none⟩ = some (.int .i64 y6) := fun u => blk_cell (HBX.out _ (grownBy_trans HG.out (HF.out u))) 6
      clear hq
      go_upto_region 2 with (first | fail)
      refine wp_region_quiet_in F (by kernel_rfl) (by kernel_rfl) (HRC.out _ (drew_grown _)) ?_
      repeat (go_big_quiet_step (first | (go_at_call 30; exact calls_in HRC (HF.out _) (CA.out _))))
      refine wpQuiet_nil ?_
      intro _ hw1
      obtain ⟨uq, hw2⟩ := hw1
      subst hw2
      have HGn := hide (grownBy_trans HG.out (HF.out uq))
      clear HG c0 c1 c2 c3 c4 c5 c6 d0 d1 d2 d3 d4 d5 d6 HF HRC
      have HG := HGn
      clear HGn
      generalize F uq = w5 at *
      go_wp2
      go_roundw
      case rel => exact ⟨k + 1, by omega, by go_num, HG⟩
      case measure => simp [intOf]; omega
    · obtain rfl : k = P := by omega
      · skip
        have hlN : k < N := HNE.out
        obtain ⟨g, o, rfl⟩ := row_addr (HV.out wr HG.out) (by omega)
        have hq := HMEM.out k (by omega)
        have CA := hide (fun W => CA0.out k W)
        rw [HB1.out hlN] at CA
        obtain ⟨X, hX⟩ : ∃ X, jobAt js k = X := ⟨_, rfl⟩
        rw [hX] at CA hq
        clear hX
        obtain ⟨x0, x1, x2, x3, x4, x5, x6⟩ := X
        obtain ⟨U, hU, F, HF, HRC⟩ := class_of wr
        have c0 : ∀ u, (F u).cell? ⟨g, o + k * 7, none⟩ = some (.int .i64 x0) := fun u => row_cell (S := shJ) (HV.out _ (grownBy_trans HG.out (HF.out u))) hq (k := 0) rfl
        have c1 : ∀ u, (F u).cell? ⟨g, o + k * 7 + 1, none⟩ = some (.int .i64 x1) := fun u => row_cell (S := shJ) (HV.out _ (grownBy_trans HG.out (HF.out u))) hq (k := 1) rfl
        have c2 : ∀ u, (F u).cell? ⟨g, o + k * 7 + 2, none⟩ = some (.int .i64 x2) := fun u => row_cell (S := shJ) (HV.out _ (grownBy_trans HG.out (HF.out u))) hq (k := 2) rfl
        have c3 : ∀ u, (F u).cell? ⟨g, o + k * 7 + 3, none⟩ = some (.int .i64 x3) := fun u => row_cell (S := shJ) (HV.out _ (grownBy_trans HG.out (HF.out u))) hq (k := 3) rfl
        have c4 : ∀ u, (F u).cell? ⟨g, o + k * 7 + 4, none⟩ = some (.int .i64 x4) := fun u => row_cell (S := shJ) (HV.out _ (grownBy_trans HG.out (HF.out u))) hq (k := 4) rfl
        have c5 : ∀ u, (F u).cell? ⟨g, o + k * 7 + 5, none⟩ = some (.int .i64 x5) := fun u => row_cell (S := shJ) (HV.out _ (grownBy_trans HG.out (HF.out u))) hq (k := 5) rfl
        have c6 : ∀ u, (F u).cell? ⟨g, o + k * 7 + 6, none⟩ = some (.int .i64 x6) := fun u => row_cell (S := shJ) (HV.out _ (grownBy_trans HG.out (HF.out u))) hq (k := 6) rfl
        have d0 : ∀ u, (F u).cell? ⟨B, 0, none⟩ = some (.int .i64 y0) := fun u => blk_cell (HBX.out _ (grownBy_trans HG.out (HF.out u))) 0
        have d1 : ∀ u, (F u).cell? ⟨B, 1, none⟩ = some (.int .i64 y1) := fun u => blk_cell (HBX.out _ (grownBy_trans HG.out (HF.out u))) 1
        have d2 : ∀ u, (F u).cell? ⟨B, 2, none⟩ = some (.int .i64 y2) := fun u => blk_cell (HBX.out _ (grownBy_trans HG.out (HF.out u))) 2
        have d3 : ∀ u, (F u).cell? ⟨B, 3, none⟩ = some (.int .i64 y3) := fun u => blk_cell (HBX.out _ (grownBy_trans HG.out (HF.out u))) 3
        have d4 : ∀ u, (F u).cell? ⟨B, 4, none⟩ = some (.int .i64 y4) := fun u => blk_cell (HBX.out _ (grownBy_trans HG.out (HF.out u))) 4
        have d5 : ∀ u, (F u).cell? ⟨B, 5, none⟩ = some (.int .i64 y5) := fun u => blk_cell (HBX.out _ (grownBy_trans HG.out (HF.out u))) 5
        have d6 : ∀ u, (F u).cell? ⟨B, 6, none⟩ = some (.int .i64 y6) := fun u => blk_cell (HBX.out _ (grownBy_trans HG.out (HF.out u))) 6
        clear hq
        go_upto_region 2 with (first | fail)
        refine wp_region_quiet_in F (by kernel_rfl) (by kernel_rfl) (HRC.out _ (drew_grown _)) ?_
        repeat (go_big_quiet_step (first | (go_at_call 30; exact calls_in HRC (HF.out _) (CA.out _))))
        refine wpQuiet_nil ?_
        intro _ hw1
        obtain ⟨uq, hw2⟩ := hw1
        subst hw2
        have HGn := hide (grownBy_trans HG.out (HF.out uq))
        clear HG c0 c1 c2 c3 c4 c5 c6 d0 d1 d2 d3 d4 d5 d6 CA HF HRC
        have HG := HGn
        clear HGn
        generalize F uq = w6 at *
        go_upto_region 4 with (first | fail)
        have hq := HMEM.out k (by omega)
        have CA := hide (fun W => CA1.out k W)
        rw [HLT.out (by omega)] at CA
        generalize jobAt js k = X at *
        obtain ⟨x0, x1, x2, x3, x4, x5, x6⟩ := X
        obtain ⟨U, hU, F, HF, HRC⟩ := class_of w6
        have d0 : ∀ u, (F u).cell? ⟨B, 0, none⟩ = some (.int .i64 y0) := fun u => blk_cell (HBX.out _ (grownBy_trans HG.out (HF.out u))) 0
        have d1 : ∀ u, (F u).cell? ⟨B, 1, none⟩ = some (.int .i64 y1) := fun u => blk_cell (HBX.out _ (grownBy_trans HG.out (HF.out u))) 1
        have d2 : ∀ u, (F u).cell? ⟨B, 2, none⟩ = some (.int .i64 y2) := fun u => blk_cell (HBX.out _ (grownBy_trans HG.out (HF.out u))) 2
        have d3 : ∀ u, (F u).cell? ⟨B, 3, none⟩ = some (.int .i64 y3) := fun u => blk_cell (HBX.out _ (grownBy_trans HG.out (HF.out u))) 3
        have d4 : ∀ u, (F u).cell? ⟨B, 4, none⟩ = some (.int .i64 y4) := fun u => blk_cell (HBX.out _ (grownBy_trans HG.out (HF.out u))) 4
        have d5 : ∀ u, (F u).cell? ⟨B, 5, none⟩ = some (.int .i64 y5) := fun u => blk_cell (HBX.out _ (grownBy_trans HG.out (HF.out u))) 5
        have d6 : ∀ u, (F u).cell? ⟨B, 6, none⟩ = some (.int .i64 y6) := fun u => blk_cell (HBX.out _ (grownBy_trans HG.out (HF.out u))) 6
        have c0 : ∀ u, (F u).cell? ⟨g, o + k * 7, none⟩ = some (.int .i64 x0) := fun u => row_cell (S := shJ) (HV.out _ (grownBy_trans HG.out (HF.out u))) hq (k := 0) rfl
        have c1 : ∀ u, (F u).cell? ⟨g, o + k * 7 + 1, none⟩ = some (.int .i64 x1) := fun u => row_cell (S := shJ) (HV.out _ (grownBy_trans HG.out (HF.out u))) hq (k := 1) rfl
        have c2 : ∀ u, (F u).cell? ⟨g, o + k * 7 + 2, none⟩ = some (.int .i64 x2) := fun u => row_cell (S := shJ) (HV.out _ (grownBy_trans HG.out (HF.out u))) hq (k := 2) rfl
        have c3 : ∀ u, (F u).cell? ⟨g, o + k * 7 + 3, none⟩ = some (.int .i64 x3) := fun u => row_cell (S := shJ) (HV.out _ (grownBy_trans HG.out (HF.out u))) hq (k := 3) rfl
        have c4 : ∀ u, (F u).cell? ⟨g, o + k * 7 + 4, none⟩ = some (.int .i64 x4) := fun u => row_cell (S := shJ) (HV.out _ (grownBy_trans HG.out (HF.out u))) hq (k := 4) rfl
        have c5 : ∀ u, (F u).cell? ⟨g, o + k * 7 + 5, none⟩ = some (.int .i64 x5) := fun u => row_cell (S := shJ) (HV.out _ (grownBy_trans HG.out (HF.out u))) hq (k := 5) rfl
        have c6 : ∀ u, (F u).cell? ⟨g, o + k * 7 + 6, none⟩ = some (.int .i64 x6) := fun u => row_cell (S := shJ) (HV.out _ (grownBy_trans HG.out (HF.out u))) hq (k := 6) rfl
        clear hq
        refine wp_region_quiet_in F (by kernel_rfl) (by kernel_rfl) (HRC.out _ (drew_grown _)) ?_
        repeat (go_big_quiet_step (first | (go_at_call 19; exact calls_in HRC (HF.out _) (CM.out _ (grownBy_trans HG.out (HF.out _)))) | (go_at_call 31; exact calls_in HRC (HF.out _) (CJ.out _)) | (go_at_call 30; exact calls_in HRC (HF.out _) (CA.out _))))
        refine wpQuiet_nil ?_
        intro _ hw1
        obtain ⟨uq, hw2⟩ := hw1
        subst hw2
        have HGn := hide (grownBy_trans HG.out (HF.out uq))
        clear HG d0 d1 d2 d3 d4 d5 d6 c0 c1 c2 c3 c4 c5 c6 HF HRC
        have HG := HGn
        clear HGn
        generalize F uq = w7 at *
        go_wp2
        go_ret2
        exact ⟨rfl, grownBy_trans HG0.out HG.out⟩
set_option maxRecDepth 100000 in
set_option maxHeartbeats 8000000 in
theorem rput_full {lo : Nat} (a : Option Addr) (N cap P : Nat) (js : List JobV) (j : JobV) (w : World) (hv : RowAt shJ lo w (.slice a N cap) js) (hP : placeN js j = P) (hm : rowMay js = true) (hj : jobMay j = true) (hh : hasB js j = false) (hN : N = 16) :
    Calls Try.prog 10 #[.slice a N cap, jobVal j] w fun e w' => e = .returned (.tuple #[.slice none 0 0, .int .i64 1201]) ∧ w.grownBy w' none := by
  have hlen : js.length = N := by obtain ⟨-, a2, c2, e, -⟩ := hv; simp only [Value.slice.injEq] at e; exact e.2.1.symm
  have HPL := place_le js j
  have hl63 := hv.1
  rw [hlen] at hl63
  have HB0 := hide (fun i (h : i < placeN js j) => ahead_iff.2 (place_ahead h))
  have HB1 := hide (fun (h : placeN js j < js.length) => ahead_no.2 (place_at h))
  have HMEM := hide (fun k (h : k < js.length) => jobAt_mem h)
  have CM := hide (fun W (hg : w.grownBy W none) => rmayJobs_any (.slice a N cap) js W (hv.grown hg))
  have CJ := hide (fun W => rjob_any j W)
  have HV := hide (fun W (hg : w.grownBy W none) => hv.grown hg)
  have HH := hide (has_place (j := j) (rowMay_iff.1 hm).2.2)
  have h16 := (rowMay_iff.1 hm).1
  have HLT : Hid (placeN js j < js.length → aheadB j (jobAt js (placeN js j)) = true) := hide (fun h => by
    have h2 := has_place (j := j) (rowMay_iff.1 hm).2.2
    rw [hh, decide_eq_true h, Bool.true_and] at h2
    exact ahead_iff.2 (rank_no h2.symm (place_at h)))
  have HNE : Hid (placeN js j < js.length ∨ True) := hide (.inr trivial)
  rw [hm] at CM
  rw [hj] at CJ
  rw [hlen] at h16
  clear hm hj hh
  rw [hP] at HPL HB0 HB1 HLT HNE
  rw [hlen] at HPL HB1 HMEM HLT HNE
  have HN16I : Hid ((N : Int) = 16) := hide (by omega)
  clear hN
  clear hP hlen hv HH
  obtain ⟨y0, y1, y2, y3, y4, y5, y6⟩ := j
  have CA0 := hide (fun i W => rahead_any (jobAt js i) ⟨y0, y1, y2, y3, y4, y5, y6⟩ W)
  have CA1 := hide (fun i W => rahead_any ⟨y0, y1, y2, y3, y4, y5, y6⟩ (jobAt js i) W)
  dsimp only [jobVal] at CA0 CA1 CJ
  go_enter Try.func10, Try.ntmps10
  go_upto_region 2 with (first | fail)
  have HG0 := hide (World.grownBy_alloc w (.cells #[.int .i64 y0, .int .i64 y1, .int .i64 y2, .int .i64 y3, .int .i64 y4, .int .i64 y5, .int .i64 y6] 24) none)
  have HBX0 := hide (heap_alloc_new w (.cells #[.int .i64 y0, .int .i64 y1, .int .i64 y2, .int .i64 y3, .int .i64 y4, .int .i64 y5, .int .i64 y6] 24))
  generalize w.alloc (.cells #[.int .i64 y0, .int .i64 y1, .int .i64 y2, .int .i64 y3, .int .i64 y4, .int .i64 y5, .int .i64 y6] 24) = w0 at *
  generalize hB : w.heap.size = B at *
  have HBW := hide hB
  clear hB
  have HBX := hide (fun W (hg : w0.grownBy W none) => box_grown HBX0.out hg (by simp))
  have HVn := hide (fun W (hg : w0.grownBy W none) => HV.out W (grownBy_trans HG0.out hg))
  have CMn := hide (fun W (hg : w0.grownBy W none) => CM.out W (grownBy_trans HG0.out hg))
  clear HBX0 HV CM
  have HV := HVn
  have CM := CMn
  clear HVn CMn
  go_loopw [6] (fun i W => ∃ (k : Nat), k ≤ P ∧ i = .int .i64 k ∧ Hid (w0.grownBy W none)) (fun i _ => P - (intOf i).toNat)
  case atStart => exact ⟨0, by omega, rfl, grownBy_refl _ _⟩
  case round =>
    obtain ⟨k, hk, rfl, HG⟩ := hrel
    by_cases hkP : k < P
    · skip
      obtain ⟨g, o, rfl⟩ := row_addr (HV.out wr HG.out) (by omega)
      have hq := HMEM.out k (by omega)
      have CA := hide (fun W => CA0.out k W)
      rw [HB0.out k hkP] at CA
      have hkN : k < N := by omega
      generalize jobAt js k = X at *
      obtain ⟨x0, x1, x2, x3, x4, x5, x6⟩ := X
      obtain ⟨U, hU, F, HF, HRC⟩ := class_of wr
      have c0 : ∀ u, (F u).cell? ⟨g, o + k * 7, none⟩ = some (.int .i64 x0) := fun u => row_cell (S := shJ) (HV.out _ (grownBy_trans HG.out (HF.out u))) hq (k := 0) rfl
      have c1 : ∀ u, (F u).cell? ⟨g, o + k * 7 + 1, none⟩ = some (.int .i64 x1) := fun u => row_cell (S := shJ) (HV.out _ (grownBy_trans HG.out (HF.out u))) hq (k := 1) rfl
      have c2 : ∀ u, (F u).cell? ⟨g, o + k * 7 + 2, none⟩ = some (.int .i64 x2) := fun u => row_cell (S := shJ) (HV.out _ (grownBy_trans HG.out (HF.out u))) hq (k := 2) rfl
      have c3 : ∀ u, (F u).cell? ⟨g, o + k * 7 + 3, none⟩ = some (.int .i64 x3) := fun u => row_cell (S := shJ) (HV.out _ (grownBy_trans HG.out (HF.out u))) hq (k := 3) rfl
      have c4 : ∀ u, (F u).cell? ⟨g, o + k * 7 + 4, none⟩ = some (.int .i64 x4) := fun u => row_cell (S := shJ) (HV.out _ (grownBy_trans HG.out (HF.out u))) hq (k := 4) rfl
      have c5 : ∀ u, (F u).cell? ⟨g, o + k * 7 + 5, none⟩ = some (.int .i64 x5) := fun u => row_cell (S := shJ) (HV.out _ (grownBy_trans HG.out (HF.out u))) hq (k := 5) rfl
      have c6 : ∀ u, (F u).cell? ⟨g, o + k * 7 + 6, none⟩ = some (.int .i64 x6) := fun u => row_cell (S := shJ) (HV.out _ (grownBy_trans HG.out (HF.out u))) hq (k := 6) rfl
      have d0 : ∀ u, (F u).cell? ⟨B, 0, none⟩ = some (.int .i64 y0) := fun u => blk_cell (HBX.out _ (grownBy_trans HG.out (HF.out u))) 0
      have d1 : ∀ u, (F u).cell? ⟨B, 1, none⟩ = some (.int .i64 y1) := fun u => blk_cell (HBX.out _ (grownBy_trans HG.out (HF.out u))) 1
      have d2 : ∀ u, (F u).cell? ⟨B, 2, none⟩ = some (.int .i64 y2) := fun u => blk_cell (HBX.out _ (grownBy_trans HG.out (HF.out u))) 2
      have d3 : ∀ u, (F u).cell? ⟨B, 3, none⟩ = some (.int .i64 y3) := fun u => blk_cell (HBX.out _ (grownBy_trans HG.out (HF.out u))) 3
      have d4 : ∀ u, (F u).cell? ⟨B, 4, none⟩ = some (.int .i64 y4) := fun u => blk_cell (HBX.out _ (grownBy_trans HG.out (HF.out u))) 4
      have d5 : ∀ u, (F u).cell? ⟨B, 5, none⟩ = some (.int .i64 y5) := fun u => blk_cell (HBX.out _ (grownBy_trans HG.out (HF.out u))) 5
      have d6 : ∀ u, (F u).cell? ⟨B, 6, none⟩ = some (.int .i64 y6) := fun u => blk_cell (HBX.out _ (grownBy_trans HG.out (HF.out u))) 6
      clear hq
      go_upto_region 2 with (first | fail)
      refine wp_region_quiet_in F (by kernel_rfl) (by kernel_rfl) (HRC.out _ (drew_grown _)) ?_
      repeat (go_big_quiet_step (first | (go_at_call 30; exact calls_in HRC (HF.out _) (CA.out _))))
      refine wpQuiet_nil ?_
      intro _ hw1
      obtain ⟨uq, hw2⟩ := hw1
      subst hw2
      have HGn := hide (grownBy_trans HG.out (HF.out uq))
      clear HG c0 c1 c2 c3 c4 c5 c6 d0 d1 d2 d3 d4 d5 d6 HF HRC
      have HG := HGn
      clear HGn
      generalize F uq = w5 at *
      go_wp2
      go_roundw
      case rel => exact ⟨k + 1, by omega, by go_num, HG⟩
      case measure => simp [intOf]; omega
    · obtain rfl : k = P := by omega
      by_cases hlN : k < N
      · skip
        obtain ⟨g, o, rfl⟩ := row_addr (HV.out wr HG.out) (by omega)
        have hq := HMEM.out k (by omega)
        have CA := hide (fun W => CA0.out k W)
        rw [HB1.out hlN] at CA
        obtain ⟨X, hX⟩ : ∃ X, jobAt js k = X := ⟨_, rfl⟩
        rw [hX] at CA hq
        clear hX
        obtain ⟨x0, x1, x2, x3, x4, x5, x6⟩ := X
        obtain ⟨U, hU, F, HF, HRC⟩ := class_of wr
        have c0 : ∀ u, (F u).cell? ⟨g, o + k * 7, none⟩ = some (.int .i64 x0) := fun u => row_cell (S := shJ) (HV.out _ (grownBy_trans HG.out (HF.out u))) hq (k := 0) rfl
        have c1 : ∀ u, (F u).cell? ⟨g, o + k * 7 + 1, none⟩ = some (.int .i64 x1) := fun u => row_cell (S := shJ) (HV.out _ (grownBy_trans HG.out (HF.out u))) hq (k := 1) rfl
        have c2 : ∀ u, (F u).cell? ⟨g, o + k * 7 + 2, none⟩ = some (.int .i64 x2) := fun u => row_cell (S := shJ) (HV.out _ (grownBy_trans HG.out (HF.out u))) hq (k := 2) rfl
        have c3 : ∀ u, (F u).cell? ⟨g, o + k * 7 + 3, none⟩ = some (.int .i64 x3) := fun u => row_cell (S := shJ) (HV.out _ (grownBy_trans HG.out (HF.out u))) hq (k := 3) rfl
        have c4 : ∀ u, (F u).cell? ⟨g, o + k * 7 + 4, none⟩ = some (.int .i64 x4) := fun u => row_cell (S := shJ) (HV.out _ (grownBy_trans HG.out (HF.out u))) hq (k := 4) rfl
        have c5 : ∀ u, (F u).cell? ⟨g, o + k * 7 + 5, none⟩ = some (.int .i64 x5) := fun u => row_cell (S := shJ) (HV.out _ (grownBy_trans HG.out (HF.out u))) hq (k := 5) rfl
        have c6 : ∀ u, (F u).cell? ⟨g, o + k * 7 + 6, none⟩ = some (.int .i64 x6) := fun u => row_cell (S := shJ) (HV.out _ (grownBy_trans HG.out (HF.out u))) hq (k := 6) rfl
        have d0 : ∀ u, (F u).cell? ⟨B, 0, none⟩ = some (.int .i64 y0) := fun u => blk_cell (HBX.out _ (grownBy_trans HG.out (HF.out u))) 0
        have d1 : ∀ u, (F u).cell? ⟨B, 1, none⟩ = some (.int .i64 y1) := fun u => blk_cell (HBX.out _ (grownBy_trans HG.out (HF.out u))) 1
        have d2 : ∀ u, (F u).cell? ⟨B, 2, none⟩ = some (.int .i64 y2) := fun u => blk_cell (HBX.out _ (grownBy_trans HG.out (HF.out u))) 2
        have d3 : ∀ u, (F u).cell? ⟨B, 3, none⟩ = some (.int .i64 y3) := fun u => blk_cell (HBX.out _ (grownBy_trans HG.out (HF.out u))) 3
        have d4 : ∀ u, (F u).cell? ⟨B, 4, none⟩ = some (.int .i64 y4) := fun u => blk_cell (HBX.out _ (grownBy_trans HG.out (HF.out u))) 4
        have d5 : ∀ u, (F u).cell? ⟨B, 5, none⟩ = some (.int .i64 y5) := fun u => blk_cell (HBX.out _ (grownBy_trans HG.out (HF.out u))) 5
        have d6 : ∀ u, (F u).cell? ⟨B, 6, none⟩ = some (.int .i64 y6) := fun u => blk_cell (HBX.out _ (grownBy_trans HG.out (HF.out u))) 6
        clear hq
        go_upto_region 2 with (first | fail)
        refine wp_region_quiet_in F (by kernel_rfl) (by kernel_rfl) (HRC.out _ (drew_grown _)) ?_
        repeat (go_big_quiet_step (first | (go_at_call 30; exact calls_in HRC (HF.out _) (CA.out _))))
        refine wpQuiet_nil ?_
        intro _ hw1
        obtain ⟨uq, hw2⟩ := hw1
        subst hw2
        have HGn := hide (grownBy_trans HG.out (HF.out uq))
        clear HG c0 c1 c2 c3 c4 c5 c6 d0 d1 d2 d3 d4 d5 d6 CA HF HRC
        have HG := HGn
        clear HGn
        generalize F uq = w6 at *
        go_upto_region 4 with (first | fail)
        have hq := HMEM.out k (by omega)
        have CA := hide (fun W => CA1.out k W)
        rw [HLT.out (by omega)] at CA
        generalize jobAt js k = X at *
        obtain ⟨x0, x1, x2, x3, x4, x5, x6⟩ := X
        obtain ⟨U, hU, F, HF, HRC⟩ := class_of w6
        have d0 : ∀ u, (F u).cell? ⟨B, 0, none⟩ = some (.int .i64 y0) := fun u => blk_cell (HBX.out _ (grownBy_trans HG.out (HF.out u))) 0
        have d1 : ∀ u, (F u).cell? ⟨B, 1, none⟩ = some (.int .i64 y1) := fun u => blk_cell (HBX.out _ (grownBy_trans HG.out (HF.out u))) 1
        have d2 : ∀ u, (F u).cell? ⟨B, 2, none⟩ = some (.int .i64 y2) := fun u => blk_cell (HBX.out _ (grownBy_trans HG.out (HF.out u))) 2
        have d3 : ∀ u, (F u).cell? ⟨B, 3, none⟩ = some (.int .i64 y3) := fun u => blk_cell (HBX.out _ (grownBy_trans HG.out (HF.out u))) 3
        have d4 : ∀ u, (F u).cell? ⟨B, 4, none⟩ = some (.int .i64 y4) := fun u => blk_cell (HBX.out _ (grownBy_trans HG.out (HF.out u))) 4
        have d5 : ∀ u, (F u).cell? ⟨B, 5, none⟩ = some (.int .i64 y5) := fun u => blk_cell (HBX.out _ (grownBy_trans HG.out (HF.out u))) 5
        have d6 : ∀ u, (F u).cell? ⟨B, 6, none⟩ = some (.int .i64 y6) := fun u => blk_cell (HBX.out _ (grownBy_trans HG.out (HF.out u))) 6
        have c0 : ∀ u, (F u).cell? ⟨g, o + k * 7, none⟩ = some (.int .i64 x0) := fun u => row_cell (S := shJ) (HV.out _ (grownBy_trans HG.out (HF.out u))) hq (k := 0) rfl
        have c1 : ∀ u, (F u).cell? ⟨g, o + k * 7 + 1, none⟩ = some (.int .i64 x1) := fun u => row_cell (S := shJ) (HV.out _ (grownBy_trans HG.out (HF.out u))) hq (k := 1) rfl
        have c2 : ∀ u, (F u).cell? ⟨g, o + k * 7 + 2, none⟩ = some (.int .i64 x2) := fun u => row_cell (S := shJ) (HV.out _ (grownBy_trans HG.out (HF.out u))) hq (k := 2) rfl
        have c3 : ∀ u, (F u).cell? ⟨g, o + k * 7 + 3, none⟩ = some (.int .i64 x3) := fun u => row_cell (S := shJ) (HV.out _ (grownBy_trans HG.out (HF.out u))) hq (k := 3) rfl
        have c4 : ∀ u, (F u).cell? ⟨g, o + k * 7 + 4, none⟩ = some (.int .i64 x4) := fun u => row_cell (S := shJ) (HV.out _ (grownBy_trans HG.out (HF.out u))) hq (k := 4) rfl
        have c5 : ∀ u, (F u).cell? ⟨g, o + k * 7 + 5, none⟩ = some (.int .i64 x5) := fun u => row_cell (S := shJ) (HV.out _ (grownBy_trans HG.out (HF.out u))) hq (k := 5) rfl
        have c6 : ∀ u, (F u).cell? ⟨g, o + k * 7 + 6, none⟩ = some (.int .i64 x6) := fun u => row_cell (S := shJ) (HV.out _ (grownBy_trans HG.out (HF.out u))) hq (k := 6) rfl
        clear hq
        refine wp_region_quiet_in F (by kernel_rfl) (by kernel_rfl) (HRC.out _ (drew_grown _)) ?_
        repeat (go_big_quiet_step (first | (go_at_call 19; exact calls_in HRC (HF.out _) (CM.out _ (grownBy_trans HG.out (HF.out _)))) | (go_at_call 31; exact calls_in HRC (HF.out _) (CJ.out _)) | (go_at_call 30; exact calls_in HRC (HF.out _) (CA.out _))))
        refine wpQuiet_nil ?_
        intro _ hw1
        obtain ⟨uq, hw2⟩ := hw1
        subst hw2
        have HGn := hide (grownBy_trans HG.out (HF.out uq))
        clear HG d0 d1 d2 d3 d4 d5 d6 c0 c1 c2 c3 c4 c5 c6 HF HRC
        have HG := HGn
        clear HGn
        generalize F uq = w7 at *
        have hn16 := HN16I.out
        go_wp2
        go_ret2
        exact ⟨rfl, grownBy_trans HG0.out HG.out⟩
      · skip
        have hNk : k = N := by omega
        subst hNk
        obtain ⟨U, hU, F, HF, HRC⟩ := class_of wr
        go_upto_region 2 with (first | fail)
        refine wp_region_quiet_in F (by kernel_rfl) (by kernel_rfl) (HRC.out _ (drew_grown _)) ?_
        repeat (go_big_quiet_step (first | fail))
        refine wpQuiet_nil ?_
        intro _ hw1
        obtain ⟨uq, hw2⟩ := hw1
        subst hw2
        have HGn := hide (grownBy_trans HG.out (HF.out uq))
        clear HG  HF HRC
        have HG := HGn
        clear HGn
        generalize F uq = w6 at *
        go_upto_region 4 with (first | fail)
        obtain ⟨U, hU, F, HF, HRC⟩ := class_of w6
        have d0 : ∀ u, (F u).cell? ⟨B, 0, none⟩ = some (.int .i64 y0) := fun u => blk_cell (HBX.out _ (grownBy_trans HG.out (HF.out u))) 0
        have d1 : ∀ u, (F u).cell? ⟨B, 1, none⟩ = some (.int .i64 y1) := fun u => blk_cell (HBX.out _ (grownBy_trans HG.out (HF.out u))) 1
        have d2 : ∀ u, (F u).cell? ⟨B, 2, none⟩ = some (.int .i64 y2) := fun u => blk_cell (HBX.out _ (grownBy_trans HG.out (HF.out u))) 2
        have d3 : ∀ u, (F u).cell? ⟨B, 3, none⟩ = some (.int .i64 y3) := fun u => blk_cell (HBX.out _ (grownBy_trans HG.out (HF.out u))) 3
        have d4 : ∀ u, (F u).cell? ⟨B, 4, none⟩ = some (.int .i64 y4) := fun u => blk_cell (HBX.out _ (grownBy_trans HG.out (HF.out u))) 4
        have d5 : ∀ u, (F u).cell? ⟨B, 5, none⟩ = some (.int .i64 y5) := fun u => blk_cell (HBX.out _ (grownBy_trans HG.out (HF.out u))) 5
        have d6 : ∀ u, (F u).cell? ⟨B, 6, none⟩ = some (.int .i64 y6) := fun u => blk_cell (HBX.out _ (grownBy_trans HG.out (HF.out u))) 6
        refine wp_region_quiet_in F (by kernel_rfl) (by kernel_rfl) (HRC.out _ (drew_grown _)) ?_
        repeat (go_big_quiet_step (first | (go_at_call 19; exact calls_in HRC (HF.out _) (CM.out _ (grownBy_trans HG.out (HF.out _)))) | (go_at_call 31; exact calls_in HRC (HF.out _) (CJ.out _))))
        refine wpQuiet_nil ?_
        intro _ hw1
        obtain ⟨uq, hw2⟩ := hw1
        subst hw2
        have HGn := hide (grownBy_trans HG.out (HF.out uq))
        clear HG d0 d1 d2 d3 d4 d5 d6 HF HRC
        have HG := HGn
        clear HGn
        generalize F uq = w7 at *
        have hn16 := HN16I.out
        go_wp2
        go_ret2
        exact ⟨rfl, grownBy_trans HG0.out HG.out⟩
set_option maxRecDepth 100000 in
set_option maxHeartbeats 8000000 in
theorem rput_none {lo : Nat} (cap : Nat) (js : List JobV) (j : JobV) (w : World) (hv : RowAt shJ lo w (.slice none 0 cap) js) (hP : placeN js j = 0) (hm : rowMay js = true) (hj : jobMay j = true) (hh : hasB js j = false) :
    Calls Try.prog 10 #[.slice none 0 cap, jobVal j] w fun e w' => ∃ v', e = .returned (.tuple #[v', .int .i64 0]) ∧ Own w.heap.size w' v' (putL js j) ∧ w.grownBy w' none := by
  have hlen : js.length = 0 := by obtain ⟨-, a2, c2, e, -⟩ := hv; simp only [Value.slice.injEq] at e; exact e.2.1.symm
  have HPL := place_le js j
  have hl63 := hv.1
  rw [hlen] at hl63
  have HB0 := hide (fun i (h : i < placeN js j) => ahead_iff.2 (place_ahead h))
  have HB1 := hide (fun (h : placeN js j < js.length) => ahead_no.2 (place_at h))
  have HMEM := hide (fun k (h : k < js.length) => jobAt_mem h)
  have CM := hide (fun W (hg : w.grownBy W none) => rmayJobs_any (.slice none 0 cap) js W (hv.grown hg))
  have CJ := hide (fun W => rjob_any j W)
  have HV := hide (fun W (hg : w.grownBy W none) => hv.grown hg)
  have HH := hide (has_place (j := j) (rowMay_iff.1 hm).2.2)
  have h16 := (rowMay_iff.1 hm).1
  have HLT : Hid (placeN js j < js.length → aheadB j (jobAt js (placeN js j)) = true) := hide (fun h => by
    have h2 := has_place (j := j) (rowMay_iff.1 hm).2.2
    rw [hh, decide_eq_true h, Bool.true_and] at h2
    exact ahead_iff.2 (rank_no h2.symm (place_at h)))
  have HNE : Hid (placeN js j < js.length ∨ True) := hide (.inr trivial)
  rw [hm] at CM
  rw [hj] at CJ
  rw [hlen] at h16
  clear hm hj hh
  have R0 := hide (fun W (hg : w.grownBy W none) => (show RowAt shJ 0 W (.slice none 0 cap) (js.take 0) by rw [List.take_zero]; exact rowAt_nil _ _ _ _))
  have R2 := hide (fun W (hg : w.grownBy W none) => (show RowAt shJ 0 W (.slice none 0 cap) (js.drop 0) by have h0 : js = [] := List.length_eq_zero_iff.1 (by obtain ⟨-, a2, c2, e, -⟩ := hv; simp only [Value.slice.injEq] at e; exact e.2.1.symm); subst h0; exact rowAt_nil _ _ _ _))
  have HPUT : Hid (putL js j = js.take (0) ++ [j] ++ js.drop (0)) := hide (by unfold putL; rw [hP, List.append_assoc]; rfl)
  have HT : Hid ((js.take (0)).length = 0) := hide (by rw [List.length_take, hlen]; omega)
  have HD : Hid ((js.drop (0)).length = 0 - 0) := hide (by rw [List.length_drop, hlen])
  rw [hP] at HPL HB0 HB1 HLT HNE
  rw [hlen] at HPL HB1 HMEM HLT HNE
  clear hP hlen hv HH
  generalize putL js j = PL at *
  generalize hL0 : js.take (0) = L0 at *
  generalize hL2 : js.drop (0) = L2 at *
  clear hL0 hL2
  obtain ⟨y0, y1, y2, y3, y4, y5, y6⟩ := j
  have CA0 := hide (fun i W => rahead_any (jobAt js i) ⟨y0, y1, y2, y3, y4, y5, y6⟩ W)
  have CA1 := hide (fun i W => rahead_any ⟨y0, y1, y2, y3, y4, y5, y6⟩ (jobAt js i) W)
  dsimp only [jobVal] at CA0 CA1 CJ
  go_enter Try.func10, Try.ntmps10
  go_upto_region 2 with (first | fail)
  have HG0 := hide (World.grownBy_alloc w (.cells #[.int .i64 y0, .int .i64 y1, .int .i64 y2, .int .i64 y3, .int .i64 y4, .int .i64 y5, .int .i64 y6] 24) none)
  have HBX0 := hide (heap_alloc_new w (.cells #[.int .i64 y0, .int .i64 y1, .int .i64 y2, .int .i64 y3, .int .i64 y4, .int .i64 y5, .int .i64 y6] 24))
  generalize w.alloc (.cells #[.int .i64 y0, .int .i64 y1, .int .i64 y2, .int .i64 y3, .int .i64 y4, .int .i64 y5, .int .i64 y6] 24) = w0 at *
  generalize hB : w.heap.size = B at *
  have HBW := hide hB
  clear hB
  have HBX := hide (fun W (hg : w0.grownBy W none) => box_grown HBX0.out hg (by simp))
  have HVn := hide (fun W (hg : w0.grownBy W none) => HV.out W (grownBy_trans HG0.out hg))
  have CMn := hide (fun W (hg : w0.grownBy W none) => CM.out W (grownBy_trans HG0.out hg))
  clear HBX0 HV CM
  have HV := HVn
  have CM := CMn
  clear HVn CMn
  have R0n := hide (fun W (hg : w0.grownBy W none) => R0.out W (grownBy_trans HG0.out hg))
  have R2n := hide (fun W (hg : w0.grownBy W none) => R2.out W (grownBy_trans HG0.out hg))
  clear R0 R2
  have R0 := R0n
  have R2 := R2n
  clear R0n R2n
  go_loopw [6] (fun i W => ∃ (k : Nat), k ≤ 0 ∧ i = .int .i64 k ∧ Hid (w0.grownBy W none)) (fun i _ => 0 - (intOf i).toNat)
  case atStart => exact ⟨0, by omega, rfl, grownBy_refl _ _⟩
  case round =>
    obtain ⟨k, hk, rfl, HG⟩ := hrel
    by_cases hkP : k < 0
    · exact absurd hkP (Nat.not_lt_zero _)
    · obtain rfl : k = 0 := by omega
      · skip
        obtain ⟨U, hU, F, HF, HRC⟩ := class_of wr
        go_upto_region 2 with (first | fail)
        refine wp_region_quiet_in F (by kernel_rfl) (by kernel_rfl) (HRC.out _ (drew_grown _)) ?_
        repeat (go_big_quiet_step (first | fail))
        refine wpQuiet_nil ?_
        intro _ hw1
        obtain ⟨uq, hw2⟩ := hw1
        subst hw2
        have HGn := hide (grownBy_trans HG.out (HF.out uq))
        clear HG  HF HRC
        have HG := HGn
        clear HGn
        generalize F uq = w6 at *
        go_upto_region 4 with (first | fail)
        obtain ⟨U, hU, F, HF, HRC⟩ := class_of w6
        have d0 : ∀ u, (F u).cell? ⟨B, 0, none⟩ = some (.int .i64 y0) := fun u => blk_cell (HBX.out _ (grownBy_trans HG.out (HF.out u))) 0
        have d1 : ∀ u, (F u).cell? ⟨B, 1, none⟩ = some (.int .i64 y1) := fun u => blk_cell (HBX.out _ (grownBy_trans HG.out (HF.out u))) 1
        have d2 : ∀ u, (F u).cell? ⟨B, 2, none⟩ = some (.int .i64 y2) := fun u => blk_cell (HBX.out _ (grownBy_trans HG.out (HF.out u))) 2
        have d3 : ∀ u, (F u).cell? ⟨B, 3, none⟩ = some (.int .i64 y3) := fun u => blk_cell (HBX.out _ (grownBy_trans HG.out (HF.out u))) 3
        have d4 : ∀ u, (F u).cell? ⟨B, 4, none⟩ = some (.int .i64 y4) := fun u => blk_cell (HBX.out _ (grownBy_trans HG.out (HF.out u))) 4
        have d5 : ∀ u, (F u).cell? ⟨B, 5, none⟩ = some (.int .i64 y5) := fun u => blk_cell (HBX.out _ (grownBy_trans HG.out (HF.out u))) 5
        have d6 : ∀ u, (F u).cell? ⟨B, 6, none⟩ = some (.int .i64 y6) := fun u => blk_cell (HBX.out _ (grownBy_trans HG.out (HF.out u))) 6
        refine wp_region_quiet_in F (by kernel_rfl) (by kernel_rfl) (HRC.out _ (drew_grown _)) ?_
        repeat (go_big_quiet_step (first | (go_at_call 19; exact calls_in HRC (HF.out _) (CM.out _ (grownBy_trans HG.out (HF.out _)))) | (go_at_call 31; exact calls_in HRC (HF.out _) (CJ.out _))))
        refine wpQuiet_nil ?_
        intro _ hw1
        obtain ⟨uq, hw2⟩ := hw1
        subst hw2
        have HGn := hide (grownBy_trans HG.out (HF.out uq))
        clear HG d0 d1 d2 d3 d4 d5 d6 HF HRC
        have HG := HGn
        clear HGn
        generalize F uq = w7 at *
        have HGA := hide (grownBy_trans HG0.out (grownBy_trans HG.out (World.grownBy_alloc w7 (.cells #[] 24) none)))
        have HGB := hide (grownBy_trans HG.out (World.grownBy_alloc w7 (.cells #[] 24) none))
        have HBQ := hide (show B ≤ w7.heap.size by have := (grownBy_trans HG0.out HG.out).size; rw [HBW.out] at this; exact this)
        have HBQ1 := hide (show B < w7.heap.size by have := box_lt (HBX.out _ HG.out); exact this)
        go_wp2_with (first | (at_builtin; refine wpList_copyn (S := shJ) _ rfl _ _ 22 rfl 24 (.agg #[.int .i64 0, .int .i64 0, .int .i64 0, .int .i64 0, .int .i64 0, .int .i64 0, .int .i64 0]) 56 Try.underlying22 infoJ rfl w7.heap.size w7.heap.size rfl (lit_own _ _ _) (.slice none 0 cap) L0 rfl (R0.out _ HGB.out) 0 HT.out (by omega) (by simp) ?_) | fail)
        intro a1 c1 wA ho hgA
        have HGC := hide (grown_spoil HGA.out (by rw [HBW.out]; exact HBQ.out) hgA)
        have HGD := hide (show w0.grownBy wA none from grown_spoil HGB.out (HG.out.size) hgA)
        have HO := hide ho
        have HSZ0 := hide (HG.out.size)
        have HGSQ0 : Hid (w7.heap.size ≤ wA.heap.size) := hide (by have := hgA.size; simp at this; omega)
        clear ho hgA HGA HGB HG
        generalize w7.heap.size = gq at *
        have d0 : wA.cell? ⟨B, 0, none⟩ = some (.int .i64 y0) := blk_cell (HBX.out _ HGD.out) 0
        have d1 : wA.cell? ⟨B, 1, none⟩ = some (.int .i64 y1) := blk_cell (HBX.out _ HGD.out) 1
        have d2 : wA.cell? ⟨B, 2, none⟩ = some (.int .i64 y2) := blk_cell (HBX.out _ HGD.out) 2
        have d3 : wA.cell? ⟨B, 3, none⟩ = some (.int .i64 y3) := blk_cell (HBX.out _ HGD.out) 3
        have d4 : wA.cell? ⟨B, 4, none⟩ = some (.int .i64 y4) := blk_cell (HBX.out _ HGD.out) 4
        have d5 : wA.cell? ⟨B, 5, none⟩ = some (.int .i64 y5) := blk_cell (HBX.out _ HGD.out) 5
        have d6 : wA.cell? ⟨B, 6, none⟩ = some (.int .i64 y6) := blk_cell (HBX.out _ HGD.out) 6
        have HGE := hide (grownBy_trans HGD.out (World.grownBy_alloc wA (.cells #[.int .i64 y0, .int .i64 y1, .int .i64 y2, .int .i64 y3, .int .i64 y4, .int .i64 y5, .int .i64 y6] 24) none))
        have HOE := hide (own_kept HO.out (World.grownBy_alloc wA (.cells #[.int .i64 y0, .int .i64 y1, .int .i64 y2, .int .i64 y3, .int .i64 y4, .int .i64 y5, .int .i64 y6] 24) none))
        have HLITq := hide (heap_alloc_new wA (.cells #[.int .i64 y0, .int .i64 y1, .int .i64 y2, .int .i64 y3, .int .i64 y4, .int .i64 y5, .int .i64 y6] 24))
        have HSQ := hide (HO.out)
        have HSZ : Hid (w0.heap.size ≤ gq) := HSZ0
        have HGSQ : Hid (gq ≤ wA.heap.size) := HGSQ0
        clear HO
        go_wp2_with (first | (at_builtin; refine app_row (S := shJ) _ rfl _ _ 22 24 (.agg #[.int .i64 0, .int .i64 0, .int .i64 0, .int .i64 0, .int .i64 0, .int .i64 0, .int .i64 0]) 56 Try.underlying22 infoJ rfl rfl gq (.slice a1 0 c1) 0 L0 rfl HOE.out ⟨wA.heap.size, 0, none⟩ 1 1 [⟨y0, y1, y2, y3, y4, y5, y6⟩] rfl rfl ?q1 (by omega) (by omega) ?q4 ?_) | fail)
        case q1 =>
          first
            | exact one_at shJ ⟨y0, y1, y2, y3, y4, y5, y6⟩ HLITq.out
            | exact one_list ⟨y0, y1, y2, y3, y4, y5, y6⟩
        case q4 => have := HGSQ.out; simp; omega
        intro a2 c2 wB ho hgB hb9
        clear hb9
        have HGF := hide (show w0.grownBy wB none from grown_own HGE.out (fun g hg => Nat.le_trans HSZ.out (HOE.out.lt g hg).1) hgB)
        have HO := hide ho
        have HGSB := hide hgB.size
        clear ho hgB d0 d1 d2 d3 d4 d5 d6 HOE HLITq HSQ
        obtain ⟨a3, c3, wC, hr, ho, hgC, -⟩ := run_app_any wB 22 gq _ _ _ L2 (.slice none 0 cap) HO.out (R2.out _ HGF.out) (by rw [HD.out]; omega) (Nat.le_trans HGSQ.out (Nat.le_trans (World.grownBy_alloc wA (.cells #[.int .i64 y0, .int .i64 y1, .int .i64 y2, .int .i64 y3, .int .i64 y4, .int .i64 y5, .int .i64 y6] 24) none).size HGSB.out))
        have HGG := hide (show w0.grownBy wC none from grown_own HGF.out (fun g hg => Nat.le_trans HSZ.out (HO.out.lt g hg).1) hgC)
        have HOO := hide ho
        clear ho hgC
        rw [HD.out] at hr HOO
        go_wp2_with (first | (at_builtin; refine Lib.wpList_append_run _ rfl _ _ _ _ rfl _ _ rfl rfl _ _ hr ?_) | fail)
        go_ret2
        refine ⟨_, rfl, ?_, grownBy_trans HG0.out HGG.out⟩
        have hfin := HOO.out
        unfold Own
        rw [HPUT.out]
        have hn1 : (L0 ++ [(⟨y0, y1, y2, y3, y4, y5, y6⟩ : JobV)] ++ L2).length = 0 + 1 + (0 - 0) := by rw [List.length_append, List.length_append, HT.out, HD.out]; rfl
        rw [hn1]
        exact own_mono hfin (by rw [HBW.out]; exact HBQ.out)
set_option maxRecDepth 100000 in
set_option maxHeartbeats 8000000 in
theorem rput_nil0 {lo : Nat} (g o : Nat) (s : Option Nat) (js : List JobV) (j : JobV) (w : World) (hv : RowAt shJ lo w (.slice (some ⟨g, o, s⟩) 0 0) js) (hP : placeN js j = 0) (hm : rowMay js = true) (hj : jobMay j = true) (hh : hasB js j = false) :
    Calls Try.prog 10 #[.slice (some ⟨g, o, s⟩) 0 0, jobVal j] w fun e w' => ∃ v', e = .returned (.tuple #[v', .int .i64 0]) ∧ Own w.heap.size w' v' (putL js j) ∧ w.grownBy w' none := by
  have hlen : js.length = 0 := by obtain ⟨-, a2, c2, e, -⟩ := hv; simp only [Value.slice.injEq] at e; exact e.2.1.symm
  have HPL := place_le js j
  have hl63 := hv.1
  rw [hlen] at hl63
  have HB0 := hide (fun i (h : i < placeN js j) => ahead_iff.2 (place_ahead h))
  have HB1 := hide (fun (h : placeN js j < js.length) => ahead_no.2 (place_at h))
  have HMEM := hide (fun k (h : k < js.length) => jobAt_mem h)
  have CM := hide (fun W (hg : w.grownBy W none) => rmayJobs_any (.slice (some ⟨g, o, s⟩) 0 0) js W (hv.grown hg))
  have CJ := hide (fun W => rjob_any j W)
  have HV := hide (fun W (hg : w.grownBy W none) => hv.grown hg)
  have HH := hide (has_place (j := j) (rowMay_iff.1 hm).2.2)
  have h16 := (rowMay_iff.1 hm).1
  have HLT : Hid (placeN js j < js.length → aheadB j (jobAt js (placeN js j)) = true) := hide (fun h => by
    have h2 := has_place (j := j) (rowMay_iff.1 hm).2.2
    rw [hh, decide_eq_true h, Bool.true_and] at h2
    exact ahead_iff.2 (rank_no h2.symm (place_at h)))
  have HNE : Hid (placeN js j < js.length ∨ True) := hide (.inr trivial)
  rw [hm] at CM
  rw [hj] at CJ
  rw [hlen] at h16
  clear hm hj hh
  have R0 := hide (fun W (hg : w.grownBy W none) => (show RowAt shJ 0 W (.slice (some ⟨g, o, s⟩) 0 0) (js.take 0) by rw [List.take_zero]; exact rowAt_nil _ _ _ _))
  have R2 := hide (fun W (hg : w.grownBy W none) => (show RowAt shJ 0 W (.slice (some ⟨g, o, s⟩) 0 0) (js.drop 0) by have h0 : js = [] := List.length_eq_zero_iff.1 (by obtain ⟨-, a2, c2, e, -⟩ := hv; simp only [Value.slice.injEq] at e; exact e.2.1.symm); subst h0; exact rowAt_nil _ _ _ _))
  have HPUT : Hid (putL js j = js.take (0) ++ [j] ++ js.drop (0)) := hide (by unfold putL; rw [hP, List.append_assoc]; rfl)
  have HT : Hid ((js.take (0)).length = 0) := hide (by rw [List.length_take, hlen]; omega)
  have HD : Hid ((js.drop (0)).length = 0 - 0) := hide (by rw [List.length_drop, hlen])
  rw [hP] at HPL HB0 HB1 HLT HNE
  rw [hlen] at HPL HB1 HMEM HLT HNE
  clear hP hlen hv HH
  generalize putL js j = PL at *
  generalize hL0 : js.take (0) = L0 at *
  generalize hL2 : js.drop (0) = L2 at *
  clear hL0 hL2
  obtain ⟨y0, y1, y2, y3, y4, y5, y6⟩ := j
  have CA0 := hide (fun i W => rahead_any (jobAt js i) ⟨y0, y1, y2, y3, y4, y5, y6⟩ W)
  have CA1 := hide (fun i W => rahead_any ⟨y0, y1, y2, y3, y4, y5, y6⟩ (jobAt js i) W)
  dsimp only [jobVal] at CA0 CA1 CJ
  go_enter Try.func10, Try.ntmps10
  go_upto_region 2 with (first | fail)
  have HG0 := hide (World.grownBy_alloc w (.cells #[.int .i64 y0, .int .i64 y1, .int .i64 y2, .int .i64 y3, .int .i64 y4, .int .i64 y5, .int .i64 y6] 24) none)
  have HBX0 := hide (heap_alloc_new w (.cells #[.int .i64 y0, .int .i64 y1, .int .i64 y2, .int .i64 y3, .int .i64 y4, .int .i64 y5, .int .i64 y6] 24))
  generalize w.alloc (.cells #[.int .i64 y0, .int .i64 y1, .int .i64 y2, .int .i64 y3, .int .i64 y4, .int .i64 y5, .int .i64 y6] 24) = w0 at *
  generalize hB : w.heap.size = B at *
  have HBW := hide hB
  clear hB
  have HBX := hide (fun W (hg : w0.grownBy W none) => box_grown HBX0.out hg (by simp))
  have HVn := hide (fun W (hg : w0.grownBy W none) => HV.out W (grownBy_trans HG0.out hg))
  have CMn := hide (fun W (hg : w0.grownBy W none) => CM.out W (grownBy_trans HG0.out hg))
  clear HBX0 HV CM
  have HV := HVn
  have CM := CMn
  clear HVn CMn
  have R0n := hide (fun W (hg : w0.grownBy W none) => R0.out W (grownBy_trans HG0.out hg))
  have R2n := hide (fun W (hg : w0.grownBy W none) => R2.out W (grownBy_trans HG0.out hg))
  clear R0 R2
  have R0 := R0n
  have R2 := R2n
  clear R0n R2n
  go_loopw [6] (fun i W => ∃ (k : Nat), k ≤ 0 ∧ i = .int .i64 k ∧ Hid (w0.grownBy W none)) (fun i _ => 0 - (intOf i).toNat)
  case atStart => exact ⟨0, by omega, rfl, grownBy_refl _ _⟩
  case round =>
    obtain ⟨k, hk, rfl, HG⟩ := hrel
    by_cases hkP : k < 0
    · exact absurd hkP (Nat.not_lt_zero _)
    · obtain rfl : k = 0 := by omega
      · skip
        obtain ⟨U, hU, F, HF, HRC⟩ := class_of wr
        go_upto_region 2 with (first | fail)
        refine wp_region_quiet_in F (by kernel_rfl) (by kernel_rfl) (HRC.out _ (drew_grown _)) ?_
        repeat (go_big_quiet_step (first | fail))
        refine wpQuiet_nil ?_
        intro _ hw1
        obtain ⟨uq, hw2⟩ := hw1
        subst hw2
        have HGn := hide (grownBy_trans HG.out (HF.out uq))
        clear HG  HF HRC
        have HG := HGn
        clear HGn
        generalize F uq = w6 at *
        go_upto_region 4 with (first | fail)
        obtain ⟨U, hU, F, HF, HRC⟩ := class_of w6
        have d0 : ∀ u, (F u).cell? ⟨B, 0, none⟩ = some (.int .i64 y0) := fun u => blk_cell (HBX.out _ (grownBy_trans HG.out (HF.out u))) 0
        have d1 : ∀ u, (F u).cell? ⟨B, 1, none⟩ = some (.int .i64 y1) := fun u => blk_cell (HBX.out _ (grownBy_trans HG.out (HF.out u))) 1
        have d2 : ∀ u, (F u).cell? ⟨B, 2, none⟩ = some (.int .i64 y2) := fun u => blk_cell (HBX.out _ (grownBy_trans HG.out (HF.out u))) 2
        have d3 : ∀ u, (F u).cell? ⟨B, 3, none⟩ = some (.int .i64 y3) := fun u => blk_cell (HBX.out _ (grownBy_trans HG.out (HF.out u))) 3
        have d4 : ∀ u, (F u).cell? ⟨B, 4, none⟩ = some (.int .i64 y4) := fun u => blk_cell (HBX.out _ (grownBy_trans HG.out (HF.out u))) 4
        have d5 : ∀ u, (F u).cell? ⟨B, 5, none⟩ = some (.int .i64 y5) := fun u => blk_cell (HBX.out _ (grownBy_trans HG.out (HF.out u))) 5
        have d6 : ∀ u, (F u).cell? ⟨B, 6, none⟩ = some (.int .i64 y6) := fun u => blk_cell (HBX.out _ (grownBy_trans HG.out (HF.out u))) 6
        refine wp_region_quiet_in F (by kernel_rfl) (by kernel_rfl) (HRC.out _ (drew_grown _)) ?_
        repeat (go_big_quiet_step (first | (go_at_call 19; exact calls_in HRC (HF.out _) (CM.out _ (grownBy_trans HG.out (HF.out _)))) | (go_at_call 31; exact calls_in HRC (HF.out _) (CJ.out _))))
        refine wpQuiet_nil ?_
        intro _ hw1
        obtain ⟨uq, hw2⟩ := hw1
        subst hw2
        have HGn := hide (grownBy_trans HG.out (HF.out uq))
        clear HG d0 d1 d2 d3 d4 d5 d6 HF HRC
        have HG := HGn
        clear HGn
        generalize F uq = w7 at *
        have HGA := hide (grownBy_trans HG0.out (grownBy_trans HG.out (World.grownBy_alloc w7 (.cells #[] 24) none)))
        have HGB := hide (grownBy_trans HG.out (World.grownBy_alloc w7 (.cells #[] 24) none))
        have HBQ := hide (show B ≤ w7.heap.size by have := (grownBy_trans HG0.out HG.out).size; rw [HBW.out] at this; exact this)
        have HBQ1 := hide (show B < w7.heap.size by have := box_lt (HBX.out _ HG.out); exact this)
        go_wp2_with (first | (at_builtin; refine wpList_copyn (S := shJ) _ rfl _ _ 22 rfl 24 (.agg #[.int .i64 0, .int .i64 0, .int .i64 0, .int .i64 0, .int .i64 0, .int .i64 0, .int .i64 0]) 56 Try.underlying22 infoJ rfl w7.heap.size w7.heap.size rfl (lit_own _ _ _) (.slice (some ⟨g, o, s⟩) 0 0) L0 rfl (R0.out _ HGB.out) 0 HT.out (by omega) (by simp) ?_) | fail)
        intro a1 c1 wA ho hgA
        have HGC := hide (grown_spoil HGA.out (by rw [HBW.out]; exact HBQ.out) hgA)
        have HGD := hide (show w0.grownBy wA none from grown_spoil HGB.out (HG.out.size) hgA)
        have HO := hide ho
        have HSZ0 := hide (HG.out.size)
        have HGSQ0 : Hid (w7.heap.size ≤ wA.heap.size) := hide (by have := hgA.size; simp at this; omega)
        clear ho hgA HGA HGB HG
        generalize w7.heap.size = gq at *
        have d0 : wA.cell? ⟨B, 0, none⟩ = some (.int .i64 y0) := blk_cell (HBX.out _ HGD.out) 0
        have d1 : wA.cell? ⟨B, 1, none⟩ = some (.int .i64 y1) := blk_cell (HBX.out _ HGD.out) 1
        have d2 : wA.cell? ⟨B, 2, none⟩ = some (.int .i64 y2) := blk_cell (HBX.out _ HGD.out) 2
        have d3 : wA.cell? ⟨B, 3, none⟩ = some (.int .i64 y3) := blk_cell (HBX.out _ HGD.out) 3
        have d4 : wA.cell? ⟨B, 4, none⟩ = some (.int .i64 y4) := blk_cell (HBX.out _ HGD.out) 4
        have d5 : wA.cell? ⟨B, 5, none⟩ = some (.int .i64 y5) := blk_cell (HBX.out _ HGD.out) 5
        have d6 : wA.cell? ⟨B, 6, none⟩ = some (.int .i64 y6) := blk_cell (HBX.out _ HGD.out) 6
        have HGE := hide (grownBy_trans HGD.out (World.grownBy_alloc wA (.cells #[.int .i64 y0, .int .i64 y1, .int .i64 y2, .int .i64 y3, .int .i64 y4, .int .i64 y5, .int .i64 y6] 24) none))
        have HOE := hide (own_kept HO.out (World.grownBy_alloc wA (.cells #[.int .i64 y0, .int .i64 y1, .int .i64 y2, .int .i64 y3, .int .i64 y4, .int .i64 y5, .int .i64 y6] 24) none))
        have HLITq := hide (heap_alloc_new wA (.cells #[.int .i64 y0, .int .i64 y1, .int .i64 y2, .int .i64 y3, .int .i64 y4, .int .i64 y5, .int .i64 y6] 24))
        have HSQ := hide (HO.out)
        have HSZ : Hid (w0.heap.size ≤ gq) := HSZ0
        have HGSQ : Hid (gq ≤ wA.heap.size) := HGSQ0
        clear HO
        go_wp2_with (first | (at_builtin; refine app_row (S := shJ) _ rfl _ _ 22 24 (.agg #[.int .i64 0, .int .i64 0, .int .i64 0, .int .i64 0, .int .i64 0, .int .i64 0, .int .i64 0]) 56 Try.underlying22 infoJ rfl rfl gq (.slice a1 0 c1) 0 L0 rfl HOE.out ⟨wA.heap.size, 0, none⟩ 1 1 [⟨y0, y1, y2, y3, y4, y5, y6⟩] rfl rfl ?q1 (by omega) (by omega) ?q4 ?_) | fail)
        case q1 =>
          first
            | exact one_at shJ ⟨y0, y1, y2, y3, y4, y5, y6⟩ HLITq.out
            | exact one_list ⟨y0, y1, y2, y3, y4, y5, y6⟩
        case q4 => have := HGSQ.out; simp; omega
        intro a2 c2 wB ho hgB hb9
        clear hb9
        have HGF := hide (show w0.grownBy wB none from grown_own HGE.out (fun g hg => Nat.le_trans HSZ.out (HOE.out.lt g hg).1) hgB)
        have HO := hide ho
        have HGSB := hide hgB.size
        clear ho hgB d0 d1 d2 d3 d4 d5 d6 HOE HLITq HSQ
        obtain ⟨a3, c3, wC, hr, ho, hgC, -⟩ := run_app_any wB 22 gq _ _ _ L2 (.slice (some ⟨g, o, s⟩) 0 0) HO.out (R2.out _ HGF.out) (by rw [HD.out]; omega) (Nat.le_trans HGSQ.out (Nat.le_trans (World.grownBy_alloc wA (.cells #[.int .i64 y0, .int .i64 y1, .int .i64 y2, .int .i64 y3, .int .i64 y4, .int .i64 y5, .int .i64 y6] 24) none).size HGSB.out))
        have HGG := hide (show w0.grownBy wC none from grown_own HGF.out (fun g hg => Nat.le_trans HSZ.out (HO.out.lt g hg).1) hgC)
        have HOO := hide ho
        clear ho hgC
        rw [HD.out] at hr HOO
        go_wp2_with (first | (at_builtin; refine Lib.wpList_append_run _ rfl _ _ _ _ rfl _ _ rfl rfl _ _ hr ?_) | fail)
        go_ret2
        refine ⟨_, rfl, ?_, grownBy_trans HG0.out HGG.out⟩
        have hfin := HOO.out
        unfold Own
        rw [HPUT.out]
        have hn1 : (L0 ++ [(⟨y0, y1, y2, y3, y4, y5, y6⟩ : JobV)] ++ L2).length = 0 + 1 + (0 - 0) := by rw [List.length_append, List.length_append, HT.out, HD.out]; rfl
        rw [hn1]
        exact own_mono hfin (by rw [HBW.out]; exact HBQ.out)
set_option maxRecDepth 100000 in
set_option maxHeartbeats 8000000 in
theorem rput_nil1 {lo : Nat} (g o cap : Nat) (s : Option Nat) (hc0 : cap ≠ 0) (js : List JobV) (j : JobV) (w : World) (hv : RowAt shJ lo w (.slice (some ⟨g, o, s⟩) 0 cap) js) (hP : placeN js j = 0) (hm : rowMay js = true) (hj : jobMay j = true) (hh : hasB js j = false) :
    Calls Try.prog 10 #[.slice (some ⟨g, o, s⟩) 0 cap, jobVal j] w fun e w' => ∃ v', e = .returned (.tuple #[v', .int .i64 0]) ∧ Own w.heap.size w' v' (putL js j) ∧ w.grownBy w' none := by
  have hlen : js.length = 0 := by obtain ⟨-, a2, c2, e, -⟩ := hv; simp only [Value.slice.injEq] at e; exact e.2.1.symm
  have HPL := place_le js j
  have hl63 := hv.1
  rw [hlen] at hl63
  have HB0 := hide (fun i (h : i < placeN js j) => ahead_iff.2 (place_ahead h))
  have HB1 := hide (fun (h : placeN js j < js.length) => ahead_no.2 (place_at h))
  have HMEM := hide (fun k (h : k < js.length) => jobAt_mem h)
  have CM := hide (fun W (hg : w.grownBy W none) => rmayJobs_any (.slice (some ⟨g, o, s⟩) 0 cap) js W (hv.grown hg))
  have CJ := hide (fun W => rjob_any j W)
  have HV := hide (fun W (hg : w.grownBy W none) => hv.grown hg)
  have HH := hide (has_place (j := j) (rowMay_iff.1 hm).2.2)
  have h16 := (rowMay_iff.1 hm).1
  have HLT : Hid (placeN js j < js.length → aheadB j (jobAt js (placeN js j)) = true) := hide (fun h => by
    have h2 := has_place (j := j) (rowMay_iff.1 hm).2.2
    rw [hh, decide_eq_true h, Bool.true_and] at h2
    exact ahead_iff.2 (rank_no h2.symm (place_at h)))
  have HNE : Hid (placeN js j < js.length ∨ True) := hide (.inr trivial)
  rw [hm] at CM
  rw [hj] at CJ
  rw [hlen] at h16
  clear hm hj hh
  have R0 := hide (fun W (hg : w.grownBy W none) => (show RowAt shJ 0 W (.slice (some ⟨g, o, s⟩) 0 cap) (js.take 0) by rw [List.take_zero]; exact rowAt_nil _ _ _ _))
  have R2 := hide (fun W (hg : w.grownBy W none) => (show RowAt shJ 0 W (.slice (some ⟨g, o, s⟩) 0 cap) (js.drop 0) by have h0 : js = [] := List.length_eq_zero_iff.1 (by obtain ⟨-, a2, c2, e, -⟩ := hv; simp only [Value.slice.injEq] at e; exact e.2.1.symm); subst h0; exact rowAt_nil _ _ _ _))
  have HPUT : Hid (putL js j = js.take (0) ++ [j] ++ js.drop (0)) := hide (by unfold putL; rw [hP, List.append_assoc]; rfl)
  have HT : Hid ((js.take (0)).length = 0) := hide (by rw [List.length_take, hlen]; omega)
  have HD : Hid ((js.drop (0)).length = 0 - 0) := hide (by rw [List.length_drop, hlen])
  rw [hP] at HPL HB0 HB1 HLT HNE
  rw [hlen] at HPL HB1 HMEM HLT HNE
  clear hP hlen hv HH
  generalize putL js j = PL at *
  generalize hL0 : js.take (0) = L0 at *
  generalize hL2 : js.drop (0) = L2 at *
  clear hL0 hL2
  obtain ⟨y0, y1, y2, y3, y4, y5, y6⟩ := j
  have CA0 := hide (fun i W => rahead_any (jobAt js i) ⟨y0, y1, y2, y3, y4, y5, y6⟩ W)
  have CA1 := hide (fun i W => rahead_any ⟨y0, y1, y2, y3, y4, y5, y6⟩ (jobAt js i) W)
  dsimp only [jobVal] at CA0 CA1 CJ
  go_enter Try.func10, Try.ntmps10
  go_upto_region 2 with (first | fail)
  have HG0 := hide (World.grownBy_alloc w (.cells #[.int .i64 y0, .int .i64 y1, .int .i64 y2, .int .i64 y3, .int .i64 y4, .int .i64 y5, .int .i64 y6] 24) none)
  have HBX0 := hide (heap_alloc_new w (.cells #[.int .i64 y0, .int .i64 y1, .int .i64 y2, .int .i64 y3, .int .i64 y4, .int .i64 y5, .int .i64 y6] 24))
  generalize w.alloc (.cells #[.int .i64 y0, .int .i64 y1, .int .i64 y2, .int .i64 y3, .int .i64 y4, .int .i64 y5, .int .i64 y6] 24) = w0 at *
  generalize hB : w.heap.size = B at *
  have HBW := hide hB
  clear hB
  have HBX := hide (fun W (hg : w0.grownBy W none) => box_grown HBX0.out hg (by simp))
  have HVn := hide (fun W (hg : w0.grownBy W none) => HV.out W (grownBy_trans HG0.out hg))
  have CMn := hide (fun W (hg : w0.grownBy W none) => CM.out W (grownBy_trans HG0.out hg))
  clear HBX0 HV CM
  have HV := HVn
  have CM := CMn
  clear HVn CMn
  have R0n := hide (fun W (hg : w0.grownBy W none) => R0.out W (grownBy_trans HG0.out hg))
  have R2n := hide (fun W (hg : w0.grownBy W none) => R2.out W (grownBy_trans HG0.out hg))
  clear R0 R2
  have R0 := R0n
  have R2 := R2n
  clear R0n R2n
  go_loopw [6] (fun i W => ∃ (k : Nat), k ≤ 0 ∧ i = .int .i64 k ∧ Hid (w0.grownBy W none)) (fun i _ => 0 - (intOf i).toNat)
  case atStart => exact ⟨0, by omega, rfl, grownBy_refl _ _⟩
  case round =>
    obtain ⟨k, hk, rfl, HG⟩ := hrel
    by_cases hkP : k < 0
    · exact absurd hkP (Nat.not_lt_zero _)
    · obtain rfl : k = 0 := by omega
      · skip
        obtain ⟨U, hU, F, HF, HRC⟩ := class_of wr
        go_upto_region 2 with (first | fail)
        refine wp_region_quiet_in F (by kernel_rfl) (by kernel_rfl) (HRC.out _ (drew_grown _)) ?_
        repeat (go_big_quiet_step (first | fail))
        refine wpQuiet_nil ?_
        intro _ hw1
        obtain ⟨uq, hw2⟩ := hw1
        subst hw2
        have HGn := hide (grownBy_trans HG.out (HF.out uq))
        clear HG  HF HRC
        have HG := HGn
        clear HGn
        generalize F uq = w6 at *
        go_upto_region 4 with (first | fail)
        obtain ⟨U, hU, F, HF, HRC⟩ := class_of w6
        have d0 : ∀ u, (F u).cell? ⟨B, 0, none⟩ = some (.int .i64 y0) := fun u => blk_cell (HBX.out _ (grownBy_trans HG.out (HF.out u))) 0
        have d1 : ∀ u, (F u).cell? ⟨B, 1, none⟩ = some (.int .i64 y1) := fun u => blk_cell (HBX.out _ (grownBy_trans HG.out (HF.out u))) 1
        have d2 : ∀ u, (F u).cell? ⟨B, 2, none⟩ = some (.int .i64 y2) := fun u => blk_cell (HBX.out _ (grownBy_trans HG.out (HF.out u))) 2
        have d3 : ∀ u, (F u).cell? ⟨B, 3, none⟩ = some (.int .i64 y3) := fun u => blk_cell (HBX.out _ (grownBy_trans HG.out (HF.out u))) 3
        have d4 : ∀ u, (F u).cell? ⟨B, 4, none⟩ = some (.int .i64 y4) := fun u => blk_cell (HBX.out _ (grownBy_trans HG.out (HF.out u))) 4
        have d5 : ∀ u, (F u).cell? ⟨B, 5, none⟩ = some (.int .i64 y5) := fun u => blk_cell (HBX.out _ (grownBy_trans HG.out (HF.out u))) 5
        have d6 : ∀ u, (F u).cell? ⟨B, 6, none⟩ = some (.int .i64 y6) := fun u => blk_cell (HBX.out _ (grownBy_trans HG.out (HF.out u))) 6
        refine wp_region_quiet_in F (by kernel_rfl) (by kernel_rfl) (HRC.out _ (drew_grown _)) ?_
        repeat (go_big_quiet_step (first | (go_at_call 19; exact calls_in HRC (HF.out _) (CM.out _ (grownBy_trans HG.out (HF.out _)))) | (go_at_call 31; exact calls_in HRC (HF.out _) (CJ.out _))))
        refine wpQuiet_nil ?_
        intro _ hw1
        obtain ⟨uq, hw2⟩ := hw1
        subst hw2
        have HGn := hide (grownBy_trans HG.out (HF.out uq))
        clear HG d0 d1 d2 d3 d4 d5 d6 HF HRC
        have HG := HGn
        clear HGn
        generalize F uq = w7 at *
        have HGA := hide (grownBy_trans HG0.out (grownBy_trans HG.out (World.grownBy_alloc w7 (.cells #[] 24) none)))
        have HGB := hide (grownBy_trans HG.out (World.grownBy_alloc w7 (.cells #[] 24) none))
        have HBQ := hide (show B ≤ w7.heap.size by have := (grownBy_trans HG0.out HG.out).size; rw [HBW.out] at this; exact this)
        have HBQ1 := hide (show B < w7.heap.size by have := box_lt (HBX.out _ HG.out); exact this)
        go_wp2_with (first | (at_builtin; refine wpList_copyn (S := shJ) _ rfl _ _ 22 rfl 24 (.agg #[.int .i64 0, .int .i64 0, .int .i64 0, .int .i64 0, .int .i64 0, .int .i64 0, .int .i64 0]) 56 Try.underlying22 infoJ rfl w7.heap.size w7.heap.size rfl (lit_own _ _ _) (.slice (some ⟨g, o, s⟩) 0 cap) L0 rfl (R0.out _ HGB.out) 0 HT.out (by omega) (by simp) ?_) | fail)
        intro a1 c1 wA ho hgA
        have HGC := hide (grown_spoil HGA.out (by rw [HBW.out]; exact HBQ.out) hgA)
        have HGD := hide (show w0.grownBy wA none from grown_spoil HGB.out (HG.out.size) hgA)
        have HO := hide ho
        have HSZ0 := hide (HG.out.size)
        have HGSQ0 : Hid (w7.heap.size ≤ wA.heap.size) := hide (by have := hgA.size; simp at this; omega)
        clear ho hgA HGA HGB HG
        generalize w7.heap.size = gq at *
        have d0 : wA.cell? ⟨B, 0, none⟩ = some (.int .i64 y0) := blk_cell (HBX.out _ HGD.out) 0
        have d1 : wA.cell? ⟨B, 1, none⟩ = some (.int .i64 y1) := blk_cell (HBX.out _ HGD.out) 1
        have d2 : wA.cell? ⟨B, 2, none⟩ = some (.int .i64 y2) := blk_cell (HBX.out _ HGD.out) 2
        have d3 : wA.cell? ⟨B, 3, none⟩ = some (.int .i64 y3) := blk_cell (HBX.out _ HGD.out) 3
        have d4 : wA.cell? ⟨B, 4, none⟩ = some (.int .i64 y4) := blk_cell (HBX.out _ HGD.out) 4
        have d5 : wA.cell? ⟨B, 5, none⟩ = some (.int .i64 y5) := blk_cell (HBX.out _ HGD.out) 5
        have d6 : wA.cell? ⟨B, 6, none⟩ = some (.int .i64 y6) := blk_cell (HBX.out _ HGD.out) 6
        have HGE := hide (grownBy_trans HGD.out (World.grownBy_alloc wA (.cells #[.int .i64 y0, .int .i64 y1, .int .i64 y2, .int .i64 y3, .int .i64 y4, .int .i64 y5, .int .i64 y6] 24) none))
        have HOE := hide (own_kept HO.out (World.grownBy_alloc wA (.cells #[.int .i64 y0, .int .i64 y1, .int .i64 y2, .int .i64 y3, .int .i64 y4, .int .i64 y5, .int .i64 y6] 24) none))
        have HLITq := hide (heap_alloc_new wA (.cells #[.int .i64 y0, .int .i64 y1, .int .i64 y2, .int .i64 y3, .int .i64 y4, .int .i64 y5, .int .i64 y6] 24))
        have HSQ := hide (HO.out)
        have HSZ : Hid (w0.heap.size ≤ gq) := HSZ0
        have HGSQ : Hid (gq ≤ wA.heap.size) := HGSQ0
        clear HO
        go_wp2_with (first | (at_builtin; refine app_row (S := shJ) _ rfl _ _ 22 24 (.agg #[.int .i64 0, .int .i64 0, .int .i64 0, .int .i64 0, .int .i64 0, .int .i64 0, .int .i64 0]) 56 Try.underlying22 infoJ rfl rfl gq (.slice a1 0 c1) 0 L0 rfl HOE.out ⟨wA.heap.size, 0, none⟩ 1 1 [⟨y0, y1, y2, y3, y4, y5, y6⟩] rfl rfl ?q1 (by omega) (by omega) ?q4 ?_) | fail)
        case q1 =>
          first
            | exact one_at shJ ⟨y0, y1, y2, y3, y4, y5, y6⟩ HLITq.out
            | exact one_list ⟨y0, y1, y2, y3, y4, y5, y6⟩
        case q4 => have := HGSQ.out; simp; omega
        intro a2 c2 wB ho hgB hb9
        clear hb9
        have HGF := hide (show w0.grownBy wB none from grown_own HGE.out (fun g hg => Nat.le_trans HSZ.out (HOE.out.lt g hg).1) hgB)
        have HO := hide ho
        have HGSB := hide hgB.size
        clear ho hgB d0 d1 d2 d3 d4 d5 d6 HOE HLITq HSQ
        obtain ⟨a3, c3, wC, hr, ho, hgC, -⟩ := run_app_any wB 22 gq _ _ _ L2 (.slice (some ⟨g, o, s⟩) 0 cap) HO.out (R2.out _ HGF.out) (by rw [HD.out]; omega) (Nat.le_trans HGSQ.out (Nat.le_trans (World.grownBy_alloc wA (.cells #[.int .i64 y0, .int .i64 y1, .int .i64 y2, .int .i64 y3, .int .i64 y4, .int .i64 y5, .int .i64 y6] 24) none).size HGSB.out))
        have HGG := hide (show w0.grownBy wC none from grown_own HGF.out (fun g hg => Nat.le_trans HSZ.out (HO.out.lt g hg).1) hgC)
        have HOO := hide ho
        clear ho hgC
        rw [HD.out] at hr HOO
        go_wp2_with (first | (at_builtin; refine Lib.wpList_append_run _ rfl _ _ _ _ rfl _ _ rfl rfl _ _ hr ?_) | fail)
        go_ret2
        refine ⟨_, rfl, ?_, grownBy_trans HG0.out HGG.out⟩
        have hfin := HOO.out
        unfold Own
        rw [HPUT.out]
        have hn1 : (L0 ++ [(⟨y0, y1, y2, y3, y4, y5, y6⟩ : JobV)] ++ L2).length = 0 + 1 + (0 - 0) := by rw [List.length_append, List.length_append, HT.out, HD.out]; rfl
        rw [hn1]
        exact own_mono hfin (by rw [HBW.out]; exact HBQ.out)
set_option maxRecDepth 100000 in
set_option maxHeartbeats 8000000 in
theorem rput_end {lo : Nat} (g o P : Nat) (js : List JobV) (j : JobV) (w : World) (hv : RowAt shJ lo w (.slice (some ⟨g, o, none⟩) P P) js) (hP : placeN js j = P) (hm : rowMay js = true) (hj : jobMay j = true) (hh : hasB js j = false) (hN : P ≠ 16) :
    Calls Try.prog 10 #[.slice (some ⟨g, o, none⟩) P P, jobVal j] w fun e w' => ∃ v', e = .returned (.tuple #[v', .int .i64 0]) ∧ Own w.heap.size w' v' (putL js j) ∧ w.grownBy w' none := by
  have hlen : js.length = P := by obtain ⟨-, a2, c2, e, -⟩ := hv; simp only [Value.slice.injEq] at e; exact e.2.1.symm
  have HPL := place_le js j
  have hl63 := hv.1
  rw [hlen] at hl63
  have HB0 := hide (fun i (h : i < placeN js j) => ahead_iff.2 (place_ahead h))
  have HB1 := hide (fun (h : placeN js j < js.length) => ahead_no.2 (place_at h))
  have HMEM := hide (fun k (h : k < js.length) => jobAt_mem h)
  have CM := hide (fun W (hg : w.grownBy W none) => rmayJobs_any (.slice (some ⟨g, o, none⟩) P P) js W (hv.grown hg))
  have CJ := hide (fun W => rjob_any j W)
  have HV := hide (fun W (hg : w.grownBy W none) => hv.grown hg)
  have HH := hide (has_place (j := j) (rowMay_iff.1 hm).2.2)
  have h16 := (rowMay_iff.1 hm).1
  have HLT : Hid (placeN js j < js.length → aheadB j (jobAt js (placeN js j)) = true) := hide (fun h => by
    have h2 := has_place (j := j) (rowMay_iff.1 hm).2.2
    rw [hh, decide_eq_true h, Bool.true_and] at h2
    exact ahead_iff.2 (rank_no h2.symm (place_at h)))
  have HNE : Hid (placeN js j < js.length ∨ True) := hide (.inr trivial)
  rw [hm] at CM
  rw [hj] at CJ
  rw [hlen] at h16
  clear hm hj hh
  have R0 := hide (fun W (hg : w.grownBy W none) => ((row_take (p := P) (hv.grown hg) (Nat.le_refl P)).mono (Nat.zero_le _)))
  have R2 := hide (fun W (hg : w.grownBy W none) => (show RowAt shJ 0 W (.slice (some ⟨g, o, none⟩) 0 0) (js.drop P) by rw [List.drop_eq_nil_of_le (by obtain ⟨-, a2, c2, e, -⟩ := hv; simp only [Value.slice.injEq] at e; omega)]; exact rowAt_nil _ _ _ _))
  have HPUT : Hid (putL js j = js.take (P) ++ [j] ++ js.drop (P)) := hide (by unfold putL; rw [hP, List.append_assoc]; rfl)
  have HT : Hid ((js.take (P)).length = P) := hide (by rw [List.length_take, hlen]; omega)
  have HD : Hid ((js.drop (P)).length = 0) := hide (by rw [List.length_drop, hlen]; omega)
  rw [hP] at HPL HB0 HB1 HLT HNE
  rw [hlen] at HPL HB1 HMEM HLT HNE
  have HN16I : Hid (((P : Nat) : Int) ≠ 16) := hide (by omega)
  clear hN
  clear hP hlen hv HH
  generalize putL js j = PL at *
  generalize hL0 : js.take (P) = L0 at *
  generalize hL2 : js.drop (P) = L2 at *
  clear hL0 hL2
  obtain ⟨y0, y1, y2, y3, y4, y5, y6⟩ := j
  have CA0 := hide (fun i W => rahead_any (jobAt js i) ⟨y0, y1, y2, y3, y4, y5, y6⟩ W)
  have CA1 := hide (fun i W => rahead_any ⟨y0, y1, y2, y3, y4, y5, y6⟩ (jobAt js i) W)
  dsimp only [jobVal] at CA0 CA1 CJ
  go_enter Try.func10, Try.ntmps10
  go_upto_region 2 with (first | fail)
  have HG0 := hide (World.grownBy_alloc w (.cells #[.int .i64 y0, .int .i64 y1, .int .i64 y2, .int .i64 y3, .int .i64 y4, .int .i64 y5, .int .i64 y6] 24) none)
  have HBX0 := hide (heap_alloc_new w (.cells #[.int .i64 y0, .int .i64 y1, .int .i64 y2, .int .i64 y3, .int .i64 y4, .int .i64 y5, .int .i64 y6] 24))
  generalize w.alloc (.cells #[.int .i64 y0, .int .i64 y1, .int .i64 y2, .int .i64 y3, .int .i64 y4, .int .i64 y5, .int .i64 y6] 24) = w0 at *
  generalize hB : w.heap.size = B at *
  have HBW := hide hB
  clear hB
  have HBX := hide (fun W (hg : w0.grownBy W none) => box_grown HBX0.out hg (by simp))
  have HVn := hide (fun W (hg : w0.grownBy W none) => HV.out W (grownBy_trans HG0.out hg))
  have CMn := hide (fun W (hg : w0.grownBy W none) => CM.out W (grownBy_trans HG0.out hg))
  clear HBX0 HV CM
  have HV := HVn
  have CM := CMn
  clear HVn CMn
  have R0n := hide (fun W (hg : w0.grownBy W none) => R0.out W (grownBy_trans HG0.out hg))
  have R2n := hide (fun W (hg : w0.grownBy W none) => R2.out W (grownBy_trans HG0.out hg))
  clear R0 R2
  have R0 := R0n
  have R2 := R2n
  clear R0n R2n
  go_loopw [6] (fun i W => ∃ (k : Nat), k ≤ P ∧ i = .int .i64 k ∧ Hid (w0.grownBy W none)) (fun i _ => P - (intOf i).toNat)
  case atStart => exact ⟨0, by omega, rfl, grownBy_refl _ _⟩
  case round =>
    obtain ⟨k, hk, rfl, HG⟩ := hrel
    by_cases hkP : k < P
    · skip
      have hq := HMEM.out k (by omega)
      have CA := hide (fun W => CA0.out k W)
      rw [HB0.out k hkP] at CA
      have hkN : k < P := by omega
      generalize jobAt js k = X at *
      obtain ⟨x0, x1, x2, x3, x4, x5, x6⟩ := X
      obtain ⟨U, hU, F, HF, HRC⟩ := class_of wr
      have c0 : ∀ u, (F u).cell? ⟨g, o + k * 7, none⟩ = some (.int .i64 x0) := fun u => row_cell (S := shJ) (HV.out _ (grownBy_trans HG.out (HF.out u))) hq (k := 0) rfl
      have c1 : ∀ u, (F u).cell? ⟨g, o + k * 7 + 1, none⟩ = some (.int .i64 x1) := fun u => row_cell (S := shJ) (HV.out _ (grownBy_trans HG.out (HF.out u))) hq (k := 1) rfl
      have c2 : ∀ u, (F u).cell? ⟨g, o + k * 7 + 2, none⟩ = some (.int .i64 x2) := fun u => row_cell (S := shJ) (HV.out _ (grownBy_trans HG.out (HF.out u))) hq (k := 2) rfl
      have c3 : ∀ u, (F u).cell? ⟨g, o + k * 7 + 3, none⟩ = some (.int .i64 x3) := fun u => row_cell (S := shJ) (HV.out _ (grownBy_trans HG.out (HF.out u))) hq (k := 3) rfl
      have c4 : ∀ u, (F u).cell? ⟨g, o + k * 7 + 4, none⟩ = some (.int .i64 x4) := fun u => row_cell (S := shJ) (HV.out _ (grownBy_trans HG.out (HF.out u))) hq (k := 4) rfl
      have c5 : ∀ u, (F u).cell? ⟨g, o + k * 7 + 5, none⟩ = some (.int .i64 x5) := fun u => row_cell (S := shJ) (HV.out _ (grownBy_trans HG.out (HF.out u))) hq (k := 5) rfl
      have c6 : ∀ u, (F u).cell? ⟨g, o + k * 7 + 6, none⟩ = some (.int .i64 x6) := fun u => row_cell (S := shJ) (HV.out _ (grownBy_trans HG.out (HF.out u))) hq (k := 6) rfl
      have d0 : ∀ u, (F u).cell? ⟨B, 0, none⟩ = some (.int .i64 y0) := fun u => blk_cell (HBX.out _ (grownBy_trans HG.out (HF.out u))) 0
      have d1 : ∀ u, (F u).cell? ⟨B, 1, none⟩ = some (.int .i64 y1) := fun u => blk_cell (HBX.out _ (grownBy_trans HG.out (HF.out u))) 1
      have d2 : ∀ u, (F u).cell? ⟨B, 2, none⟩ = some (.int .i64 y2) := fun u => blk_cell (HBX.out _ (grownBy_trans HG.out (HF.out u))) 2
      have d3 : ∀ u, (F u).cell? ⟨B, 3, none⟩ = some (.int .i64 y3) := fun u => blk_cell (HBX.out _ (grownBy_trans HG.out (HF.out u))) 3
      have d4 : ∀ u, (F u).cell? ⟨B, 4, none⟩ = some (.int .i64 y4) := fun u => blk_cell (HBX.out _ (grownBy_trans HG.out (HF.out u))) 4
      have d5 : ∀ u, (F u).cell? ⟨B, 5, none⟩ = some (.int .i64 y5) := fun u => blk_cell (HBX.out _ (grownBy_trans HG.out (HF.out u))) 5
      have d6 : ∀ u, (F u).cell? ⟨B, 6, none⟩ = some (.int .i64 y6) := fun u => blk_cell (HBX.out _ (grownBy_trans HG.out (HF.out u))) 6
      clear hq
      go_upto_region 2 with (first | fail)
      refine wp_region_quiet_in F (by kernel_rfl) (by kernel_rfl) (HRC.out _ (drew_grown _)) ?_
      repeat (go_big_quiet_step (first | (go_at_call 30; exact calls_in HRC (HF.out _) (CA.out _))))
      refine wpQuiet_nil ?_
      intro _ hw1
      obtain ⟨uq, hw2⟩ := hw1
      subst hw2
      have HGn := hide (grownBy_trans HG.out (HF.out uq))
      clear HG c0 c1 c2 c3 c4 c5 c6 d0 d1 d2 d3 d4 d5 d6 HF HRC
      have HG := HGn
      clear HGn
      generalize F uq = w5 at *
      go_wp2
      go_roundw
      case rel => exact ⟨k + 1, by omega, by go_num, HG⟩
      case measure => simp [intOf]; omega
    · obtain rfl : k = P := by omega
      · skip
        obtain ⟨U, hU, F, HF, HRC⟩ := class_of wr
        go_upto_region 2 with (first | fail)
        refine wp_region_quiet_in F (by kernel_rfl) (by kernel_rfl) (HRC.out _ (drew_grown _)) ?_
        repeat (go_big_quiet_step (first | fail))
        refine wpQuiet_nil ?_
        intro _ hw1
        obtain ⟨uq, hw2⟩ := hw1
        subst hw2
        have HGn := hide (grownBy_trans HG.out (HF.out uq))
        clear HG  HF HRC
        have HG := HGn
        clear HGn
        generalize F uq = w6 at *
        go_upto_region 4 with (first | fail)
        obtain ⟨U, hU, F, HF, HRC⟩ := class_of w6
        have d0 : ∀ u, (F u).cell? ⟨B, 0, none⟩ = some (.int .i64 y0) := fun u => blk_cell (HBX.out _ (grownBy_trans HG.out (HF.out u))) 0
        have d1 : ∀ u, (F u).cell? ⟨B, 1, none⟩ = some (.int .i64 y1) := fun u => blk_cell (HBX.out _ (grownBy_trans HG.out (HF.out u))) 1
        have d2 : ∀ u, (F u).cell? ⟨B, 2, none⟩ = some (.int .i64 y2) := fun u => blk_cell (HBX.out _ (grownBy_trans HG.out (HF.out u))) 2
        have d3 : ∀ u, (F u).cell? ⟨B, 3, none⟩ = some (.int .i64 y3) := fun u => blk_cell (HBX.out _ (grownBy_trans HG.out (HF.out u))) 3
        have d4 : ∀ u, (F u).cell? ⟨B, 4, none⟩ = some (.int .i64 y4) := fun u => blk_cell (HBX.out _ (grownBy_trans HG.out (HF.out u))) 4
        have d5 : ∀ u, (F u).cell? ⟨B, 5, none⟩ = some (.int .i64 y5) := fun u => blk_cell (HBX.out _ (grownBy_trans HG.out (HF.out u))) 5
        have d6 : ∀ u, (F u).cell? ⟨B, 6, none⟩ = some (.int .i64 y6) := fun u => blk_cell (HBX.out _ (grownBy_trans HG.out (HF.out u))) 6
        refine wp_region_quiet_in F (by kernel_rfl) (by kernel_rfl) (HRC.out _ (drew_grown _)) ?_
        repeat (go_big_quiet_step (first | (go_at_call 19; exact calls_in HRC (HF.out _) (CM.out _ (grownBy_trans HG.out (HF.out _)))) | (go_at_call 31; exact calls_in HRC (HF.out _) (CJ.out _))))
        refine wpQuiet_nil ?_
        intro _ hw1
        obtain ⟨uq, hw2⟩ := hw1
        subst hw2
        have HGn := hide (grownBy_trans HG.out (HF.out uq))
        clear HG d0 d1 d2 d3 d4 d5 d6 HF HRC
        have HG := HGn
        clear HGn
        generalize F uq = w7 at *
        have hn16 := HN16I.out
        have HGA := hide (grownBy_trans HG0.out (grownBy_trans HG.out (World.grownBy_alloc w7 (.cells #[] 24) none)))
        have HGB := hide (grownBy_trans HG.out (World.grownBy_alloc w7 (.cells #[] 24) none))
        have HBQ := hide (show B ≤ w7.heap.size by have := (grownBy_trans HG0.out HG.out).size; rw [HBW.out] at this; exact this)
        have HBQ1 := hide (show B < w7.heap.size by have := box_lt (HBX.out _ HG.out); exact this)
        go_wp2_with (first | (at_builtin; refine wpList_copyn (S := shJ) _ rfl _ _ 22 rfl 24 (.agg #[.int .i64 0, .int .i64 0, .int .i64 0, .int .i64 0, .int .i64 0, .int .i64 0, .int .i64 0]) 56 Try.underlying22 infoJ rfl w7.heap.size w7.heap.size rfl (lit_own _ _ _) (.slice (some ⟨g, o, none⟩) k k) L0 rfl (R0.out _ HGB.out) k HT.out (by omega) (by simp) ?_) | fail)
        intro a1 c1 wA ho hgA
        have HGC := hide (grown_spoil HGA.out (by rw [HBW.out]; exact HBQ.out) hgA)
        have HGD := hide (show w0.grownBy wA none from grown_spoil HGB.out (HG.out.size) hgA)
        have HO := hide ho
        have HSZ0 := hide (HG.out.size)
        have HGSQ0 : Hid (w7.heap.size ≤ wA.heap.size) := hide (by have := hgA.size; simp at this; omega)
        clear ho hgA HGA HGB HG
        generalize w7.heap.size = gq at *
        have d0 : wA.cell? ⟨B, 0, none⟩ = some (.int .i64 y0) := blk_cell (HBX.out _ HGD.out) 0
        have d1 : wA.cell? ⟨B, 1, none⟩ = some (.int .i64 y1) := blk_cell (HBX.out _ HGD.out) 1
        have d2 : wA.cell? ⟨B, 2, none⟩ = some (.int .i64 y2) := blk_cell (HBX.out _ HGD.out) 2
        have d3 : wA.cell? ⟨B, 3, none⟩ = some (.int .i64 y3) := blk_cell (HBX.out _ HGD.out) 3
        have d4 : wA.cell? ⟨B, 4, none⟩ = some (.int .i64 y4) := blk_cell (HBX.out _ HGD.out) 4
        have d5 : wA.cell? ⟨B, 5, none⟩ = some (.int .i64 y5) := blk_cell (HBX.out _ HGD.out) 5
        have d6 : wA.cell? ⟨B, 6, none⟩ = some (.int .i64 y6) := blk_cell (HBX.out _ HGD.out) 6
        have HGE := hide (grownBy_trans HGD.out (World.grownBy_alloc wA (.cells #[.int .i64 y0, .int .i64 y1, .int .i64 y2, .int .i64 y3, .int .i64 y4, .int .i64 y5, .int .i64 y6] 24) none))
        have HOE := hide (own_kept HO.out (World.grownBy_alloc wA (.cells #[.int .i64 y0, .int .i64 y1, .int .i64 y2, .int .i64 y3, .int .i64 y4, .int .i64 y5, .int .i64 y6] 24) none))
        have HLITq := hide (heap_alloc_new wA (.cells #[.int .i64 y0, .int .i64 y1, .int .i64 y2, .int .i64 y3, .int .i64 y4, .int .i64 y5, .int .i64 y6] 24))
        have HSQ := hide (HO.out)
        have HSZ : Hid (w0.heap.size ≤ gq) := HSZ0
        have HGSQ : Hid (gq ≤ wA.heap.size) := HGSQ0
        clear HO
        go_wp2_with (first | (at_builtin; refine app_row (S := shJ) _ rfl _ _ 22 24 (.agg #[.int .i64 0, .int .i64 0, .int .i64 0, .int .i64 0, .int .i64 0, .int .i64 0, .int .i64 0]) 56 Try.underlying22 infoJ rfl rfl gq (.slice a1 k c1) k L0 rfl HOE.out ⟨wA.heap.size, 0, none⟩ 1 1 [⟨y0, y1, y2, y3, y4, y5, y6⟩] rfl rfl ?q1 (by omega) (by omega) ?q4 ?_) | fail)
        case q1 =>
          first
            | exact one_at shJ ⟨y0, y1, y2, y3, y4, y5, y6⟩ HLITq.out
            | exact one_list ⟨y0, y1, y2, y3, y4, y5, y6⟩
        case q4 => have := HGSQ.out; simp; omega
        intro a2 c2 wB ho hgB hb9
        clear hb9
        have HGF := hide (show w0.grownBy wB none from grown_own HGE.out (fun g hg => Nat.le_trans HSZ.out (HOE.out.lt g hg).1) hgB)
        have HO := hide ho
        have HGSB := hide hgB.size
        clear ho hgB d0 d1 d2 d3 d4 d5 d6 HOE HLITq HSQ
        obtain ⟨a3, c3, wC, hr, ho, hgC, -⟩ := run_app_any wB 22 gq _ _ _ L2 (.slice (some ⟨g, o, none⟩) 0 0) HO.out (R2.out _ HGF.out) (by rw [HD.out]; omega) (Nat.le_trans HGSQ.out (Nat.le_trans (World.grownBy_alloc wA (.cells #[.int .i64 y0, .int .i64 y1, .int .i64 y2, .int .i64 y3, .int .i64 y4, .int .i64 y5, .int .i64 y6] 24) none).size HGSB.out))
        have HGG := hide (show w0.grownBy wC none from grown_own HGF.out (fun g hg => Nat.le_trans HSZ.out (HO.out.lt g hg).1) hgC)
        have HOO := hide ho
        clear ho hgC
        rw [HD.out] at hr HOO
        go_wp2_with (first | (at_builtin; refine Lib.wpList_append_run _ rfl _ _ _ _ rfl _ _ rfl rfl _ _ hr ?_) | fail)
        go_ret2
        refine ⟨_, rfl, ?_, grownBy_trans HG0.out HGG.out⟩
        have hfin := HOO.out
        unfold Own
        rw [HPUT.out]
        have hn1 : (L0 ++ [(⟨y0, y1, y2, y3, y4, y5, y6⟩ : JobV)] ++ L2).length = k + 1 + (0) := by rw [List.length_append, List.length_append, HT.out, HD.out]; rfl
        rw [hn1]
        exact own_mono hfin (by rw [HBW.out]; exact HBQ.out)
set_option maxRecDepth 100000 in
set_option maxHeartbeats 8000000 in
theorem rput_mid {lo : Nat} (g o N P cap : Nat) (hne : cap ≠ P) (hNc : N ≤ cap) (js : List JobV) (j : JobV) (w : World) (hv : RowAt shJ lo w (.slice (some ⟨g, o, none⟩) N cap) js) (hP : placeN js j = P) (hm : rowMay js = true) (hj : jobMay j = true) (hh : hasB js j = false) (hN : N ≠ 16) :
    Calls Try.prog 10 #[.slice (some ⟨g, o, none⟩) N cap, jobVal j] w fun e w' => ∃ v', e = .returned (.tuple #[v', .int .i64 0]) ∧ Own w.heap.size w' v' (putL js j) ∧ w.grownBy w' none := by
  have hlen : js.length = N := by obtain ⟨-, a2, c2, e, -⟩ := hv; simp only [Value.slice.injEq] at e; exact e.2.1.symm
  have HPL := place_le js j
  have hl63 := hv.1
  rw [hlen] at hl63
  have HB0 := hide (fun i (h : i < placeN js j) => ahead_iff.2 (place_ahead h))
  have HB1 := hide (fun (h : placeN js j < js.length) => ahead_no.2 (place_at h))
  have HMEM := hide (fun k (h : k < js.length) => jobAt_mem h)
  have CM := hide (fun W (hg : w.grownBy W none) => rmayJobs_any (.slice (some ⟨g, o, none⟩) N cap) js W (hv.grown hg))
  have CJ := hide (fun W => rjob_any j W)
  have HV := hide (fun W (hg : w.grownBy W none) => hv.grown hg)
  have HH := hide (has_place (j := j) (rowMay_iff.1 hm).2.2)
  have h16 := (rowMay_iff.1 hm).1
  have HLT : Hid (placeN js j < js.length → aheadB j (jobAt js (placeN js j)) = true) := hide (fun h => by
    have h2 := has_place (j := j) (rowMay_iff.1 hm).2.2
    rw [hh, decide_eq_true h, Bool.true_and] at h2
    exact ahead_iff.2 (rank_no h2.symm (place_at h)))
  have HNE : Hid (placeN js j < js.length ∨ True) := hide (.inr trivial)
  rw [hm] at CM
  rw [hj] at CJ
  rw [hlen] at h16
  clear hm hj hh
  have R0 := hide (fun W (hg : w.grownBy W none) => ((row_take (p := P) (hv.grown hg) (show P ≤ N by have := place_le js j; obtain ⟨-, a2, c2, e, -⟩ := hv; simp only [Value.slice.injEq] at e; omega)).mono (Nat.zero_le _)))
  have R2 := hide (fun W (hg : w.grownBy W none) => ((row_drop (p := P) (hv.grown hg) (show P ≤ N by have := place_le js j; obtain ⟨-, a2, c2, e, -⟩ := hv; simp only [Value.slice.injEq] at e; omega)).mono (Nat.zero_le _)))
  have HPUT : Hid (putL js j = js.take (P) ++ [j] ++ js.drop (P)) := hide (by unfold putL; rw [hP, List.append_assoc]; rfl)
  have HT : Hid ((js.take (P)).length = P) := hide (by rw [List.length_take, hlen]; omega)
  have HD : Hid ((js.drop (P)).length = N - P) := hide (by rw [List.length_drop, hlen])
  rw [hP] at HPL HB0 HB1 HLT HNE
  rw [hlen] at HPL HB1 HMEM HLT HNE
  have hcP : ¬(cap < P) := by omega
  have hnP : ¬(N < P) := by omega
  have HN16I : Hid (((N : Nat) : Int) ≠ 16) := hide (by omega)
  clear hN
  clear hP hlen hv HH
  generalize putL js j = PL at *
  generalize hL0 : js.take (P) = L0 at *
  generalize hL2 : js.drop (P) = L2 at *
  clear hL0 hL2
  obtain ⟨y0, y1, y2, y3, y4, y5, y6⟩ := j
  have CA0 := hide (fun i W => rahead_any (jobAt js i) ⟨y0, y1, y2, y3, y4, y5, y6⟩ W)
  have CA1 := hide (fun i W => rahead_any ⟨y0, y1, y2, y3, y4, y5, y6⟩ (jobAt js i) W)
  dsimp only [jobVal] at CA0 CA1 CJ
  go_enter Try.func10, Try.ntmps10
  go_upto_region 2 with (first | fail)
  have HG0 := hide (World.grownBy_alloc w (.cells #[.int .i64 y0, .int .i64 y1, .int .i64 y2, .int .i64 y3, .int .i64 y4, .int .i64 y5, .int .i64 y6] 24) none)
  have HBX0 := hide (heap_alloc_new w (.cells #[.int .i64 y0, .int .i64 y1, .int .i64 y2, .int .i64 y3, .int .i64 y4, .int .i64 y5, .int .i64 y6] 24))
  generalize w.alloc (.cells #[.int .i64 y0, .int .i64 y1, .int .i64 y2, .int .i64 y3, .int .i64 y4, .int .i64 y5, .int .i64 y6] 24) = w0 at *
  generalize hB : w.heap.size = B at *
  have HBW := hide hB
  clear hB
  have HBX := hide (fun W (hg : w0.grownBy W none) => box_grown HBX0.out hg (by simp))
  have HVn := hide (fun W (hg : w0.grownBy W none) => HV.out W (grownBy_trans HG0.out hg))
  have CMn := hide (fun W (hg : w0.grownBy W none) => CM.out W (grownBy_trans HG0.out hg))
  clear HBX0 HV CM
  have HV := HVn
  have CM := CMn
  clear HVn CMn
  have R0n := hide (fun W (hg : w0.grownBy W none) => R0.out W (grownBy_trans HG0.out hg))
  have R2n := hide (fun W (hg : w0.grownBy W none) => R2.out W (grownBy_trans HG0.out hg))
  clear R0 R2
  have R0 := R0n
  have R2 := R2n
  clear R0n R2n
  go_loopw [6] (fun i W => ∃ (k : Nat), k ≤ P ∧ i = .int .i64 k ∧ Hid (w0.grownBy W none)) (fun i _ => P - (intOf i).toNat)
  case atStart => exact ⟨0, by omega, rfl, grownBy_refl _ _⟩
  case round =>
    obtain ⟨k, hk, rfl, HG⟩ := hrel
    by_cases hkP : k < P
    · skip
      have hq := HMEM.out k (by omega)
      have CA := hide (fun W => CA0.out k W)
      rw [HB0.out k hkP] at CA
      have hkN : k < N := by omega
      generalize jobAt js k = X at *
      obtain ⟨x0, x1, x2, x3, x4, x5, x6⟩ := X
      obtain ⟨U, hU, F, HF, HRC⟩ := class_of wr
      have c0 : ∀ u, (F u).cell? ⟨g, o + k * 7, none⟩ = some (.int .i64 x0) := fun u => row_cell (S := shJ) (HV.out _ (grownBy_trans HG.out (HF.out u))) hq (k := 0) rfl
      have c1 : ∀ u, (F u).cell? ⟨g, o + k * 7 + 1, none⟩ = some (.int .i64 x1) := fun u => row_cell (S := shJ) (HV.out _ (grownBy_trans HG.out (HF.out u))) hq (k := 1) rfl
      have c2 : ∀ u, (F u).cell? ⟨g, o + k * 7 + 2, none⟩ = some (.int .i64 x2) := fun u => row_cell (S := shJ) (HV.out _ (grownBy_trans HG.out (HF.out u))) hq (k := 2) rfl
      have c3 : ∀ u, (F u).cell? ⟨g, o + k * 7 + 3, none⟩ = some (.int .i64 x3) := fun u => row_cell (S := shJ) (HV.out _ (grownBy_trans HG.out (HF.out u))) hq (k := 3) rfl
      have c4 : ∀ u, (F u).cell? ⟨g, o + k * 7 + 4, none⟩ = some (.int .i64 x4) := fun u => row_cell (S := shJ) (HV.out _ (grownBy_trans HG.out (HF.out u))) hq (k := 4) rfl
      have c5 : ∀ u, (F u).cell? ⟨g, o + k * 7 + 5, none⟩ = some (.int .i64 x5) := fun u => row_cell (S := shJ) (HV.out _ (grownBy_trans HG.out (HF.out u))) hq (k := 5) rfl
      have c6 : ∀ u, (F u).cell? ⟨g, o + k * 7 + 6, none⟩ = some (.int .i64 x6) := fun u => row_cell (S := shJ) (HV.out _ (grownBy_trans HG.out (HF.out u))) hq (k := 6) rfl
      have d0 : ∀ u, (F u).cell? ⟨B, 0, none⟩ = some (.int .i64 y0) := fun u => blk_cell (HBX.out _ (grownBy_trans HG.out (HF.out u))) 0
      have d1 : ∀ u, (F u).cell? ⟨B, 1, none⟩ = some (.int .i64 y1) := fun u => blk_cell (HBX.out _ (grownBy_trans HG.out (HF.out u))) 1
      have d2 : ∀ u, (F u).cell? ⟨B, 2, none⟩ = some (.int .i64 y2) := fun u => blk_cell (HBX.out _ (grownBy_trans HG.out (HF.out u))) 2
      have d3 : ∀ u, (F u).cell? ⟨B, 3, none⟩ = some (.int .i64 y3) := fun u => blk_cell (HBX.out _ (grownBy_trans HG.out (HF.out u))) 3
      have d4 : ∀ u, (F u).cell? ⟨B, 4, none⟩ = some (.int .i64 y4) := fun u => blk_cell (HBX.out _ (grownBy_trans HG.out (HF.out u))) 4
      have d5 : ∀ u, (F u).cell? ⟨B, 5, none⟩ = some (.int .i64 y5) := fun u => blk_cell (HBX.out _ (grownBy_trans HG.out (HF.out u))) 5
      have d6 : ∀ u, (F u).cell? ⟨B, 6, none⟩ = some (.int .i64 y6) := fun u => blk_cell (HBX.out _ (grownBy_trans HG.out (HF.out u))) 6
      clear hq
      go_upto_region 2 with (first | fail)
      refine wp_region_quiet_in F (by kernel_rfl) (by kernel_rfl) (HRC.out _ (drew_grown _)) ?_
      repeat (go_big_quiet_step (first | (go_at_call 30; exact calls_in HRC (HF.out _) (CA.out _))))
      refine wpQuiet_nil ?_
      intro _ hw1
      obtain ⟨uq, hw2⟩ := hw1
      subst hw2
      have HGn := hide (grownBy_trans HG.out (HF.out uq))
      clear HG c0 c1 c2 c3 c4 c5 c6 d0 d1 d2 d3 d4 d5 d6 HF HRC
      have HG := HGn
      clear HGn
      generalize F uq = w5 at *
      go_wp2
      go_roundw
      case rel => exact ⟨k + 1, by omega, by go_num, HG⟩
      case measure => simp [intOf]; omega
    · obtain rfl : k = P := by omega
      by_cases hlN : k < N
      · skip
        have hq := HMEM.out k (by omega)
        have CA := hide (fun W => CA0.out k W)
        rw [HB1.out hlN] at CA
        obtain ⟨X, hX⟩ : ∃ X, jobAt js k = X := ⟨_, rfl⟩
        rw [hX] at CA hq
        clear hX
        obtain ⟨x0, x1, x2, x3, x4, x5, x6⟩ := X
        obtain ⟨U, hU, F, HF, HRC⟩ := class_of wr
        have c0 : ∀ u, (F u).cell? ⟨g, o + k * 7, none⟩ = some (.int .i64 x0) := fun u => row_cell (S := shJ) (HV.out _ (grownBy_trans HG.out (HF.out u))) hq (k := 0) rfl
        have c1 : ∀ u, (F u).cell? ⟨g, o + k * 7 + 1, none⟩ = some (.int .i64 x1) := fun u => row_cell (S := shJ) (HV.out _ (grownBy_trans HG.out (HF.out u))) hq (k := 1) rfl
        have c2 : ∀ u, (F u).cell? ⟨g, o + k * 7 + 2, none⟩ = some (.int .i64 x2) := fun u => row_cell (S := shJ) (HV.out _ (grownBy_trans HG.out (HF.out u))) hq (k := 2) rfl
        have c3 : ∀ u, (F u).cell? ⟨g, o + k * 7 + 3, none⟩ = some (.int .i64 x3) := fun u => row_cell (S := shJ) (HV.out _ (grownBy_trans HG.out (HF.out u))) hq (k := 3) rfl
        have c4 : ∀ u, (F u).cell? ⟨g, o + k * 7 + 4, none⟩ = some (.int .i64 x4) := fun u => row_cell (S := shJ) (HV.out _ (grownBy_trans HG.out (HF.out u))) hq (k := 4) rfl
        have c5 : ∀ u, (F u).cell? ⟨g, o + k * 7 + 5, none⟩ = some (.int .i64 x5) := fun u => row_cell (S := shJ) (HV.out _ (grownBy_trans HG.out (HF.out u))) hq (k := 5) rfl
        have c6 : ∀ u, (F u).cell? ⟨g, o + k * 7 + 6, none⟩ = some (.int .i64 x6) := fun u => row_cell (S := shJ) (HV.out _ (grownBy_trans HG.out (HF.out u))) hq (k := 6) rfl
        have d0 : ∀ u, (F u).cell? ⟨B, 0, none⟩ = some (.int .i64 y0) := fun u => blk_cell (HBX.out _ (grownBy_trans HG.out (HF.out u))) 0
        have d1 : ∀ u, (F u).cell? ⟨B, 1, none⟩ = some (.int .i64 y1) := fun u => blk_cell (HBX.out _ (grownBy_trans HG.out (HF.out u))) 1
        have d2 : ∀ u, (F u).cell? ⟨B, 2, none⟩ = some (.int .i64 y2) := fun u => blk_cell (HBX.out _ (grownBy_trans HG.out (HF.out u))) 2
        have d3 : ∀ u, (F u).cell? ⟨B, 3, none⟩ = some (.int .i64 y3) := fun u => blk_cell (HBX.out _ (grownBy_trans HG.out (HF.out u))) 3
        have d4 : ∀ u, (F u).cell? ⟨B, 4, none⟩ = some (.int .i64 y4) := fun u => blk_cell (HBX.out _ (grownBy_trans HG.out (HF.out u))) 4
        have d5 : ∀ u, (F u).cell? ⟨B, 5, none⟩ = some (.int .i64 y5) := fun u => blk_cell (HBX.out _ (grownBy_trans HG.out (HF.out u))) 5
        have d6 : ∀ u, (F u).cell? ⟨B, 6, none⟩ = some (.int .i64 y6) := fun u => blk_cell (HBX.out _ (grownBy_trans HG.out (HF.out u))) 6
        clear hq
        go_upto_region 2 with (first | fail)
        refine wp_region_quiet_in F (by kernel_rfl) (by kernel_rfl) (HRC.out _ (drew_grown _)) ?_
        repeat (go_big_quiet_step (first | (go_at_call 30; exact calls_in HRC (HF.out _) (CA.out _))))
        refine wpQuiet_nil ?_
        intro _ hw1
        obtain ⟨uq, hw2⟩ := hw1
        subst hw2
        have HGn := hide (grownBy_trans HG.out (HF.out uq))
        clear HG c0 c1 c2 c3 c4 c5 c6 d0 d1 d2 d3 d4 d5 d6 CA HF HRC
        have HG := HGn
        clear HGn
        generalize F uq = w6 at *
        go_upto_region 4 with (first | fail)
        have hq := HMEM.out k (by omega)
        have CA := hide (fun W => CA1.out k W)
        rw [HLT.out (by omega)] at CA
        generalize jobAt js k = X at *
        obtain ⟨x0, x1, x2, x3, x4, x5, x6⟩ := X
        obtain ⟨U, hU, F, HF, HRC⟩ := class_of w6
        have d0 : ∀ u, (F u).cell? ⟨B, 0, none⟩ = some (.int .i64 y0) := fun u => blk_cell (HBX.out _ (grownBy_trans HG.out (HF.out u))) 0
        have d1 : ∀ u, (F u).cell? ⟨B, 1, none⟩ = some (.int .i64 y1) := fun u => blk_cell (HBX.out _ (grownBy_trans HG.out (HF.out u))) 1
        have d2 : ∀ u, (F u).cell? ⟨B, 2, none⟩ = some (.int .i64 y2) := fun u => blk_cell (HBX.out _ (grownBy_trans HG.out (HF.out u))) 2
        have d3 : ∀ u, (F u).cell? ⟨B, 3, none⟩ = some (.int .i64 y3) := fun u => blk_cell (HBX.out _ (grownBy_trans HG.out (HF.out u))) 3
        have d4 : ∀ u, (F u).cell? ⟨B, 4, none⟩ = some (.int .i64 y4) := fun u => blk_cell (HBX.out _ (grownBy_trans HG.out (HF.out u))) 4
        have d5 : ∀ u, (F u).cell? ⟨B, 5, none⟩ = some (.int .i64 y5) := fun u => blk_cell (HBX.out _ (grownBy_trans HG.out (HF.out u))) 5
        have d6 : ∀ u, (F u).cell? ⟨B, 6, none⟩ = some (.int .i64 y6) := fun u => blk_cell (HBX.out _ (grownBy_trans HG.out (HF.out u))) 6
        have c0 : ∀ u, (F u).cell? ⟨g, o + k * 7, none⟩ = some (.int .i64 x0) := fun u => row_cell (S := shJ) (HV.out _ (grownBy_trans HG.out (HF.out u))) hq (k := 0) rfl
        have c1 : ∀ u, (F u).cell? ⟨g, o + k * 7 + 1, none⟩ = some (.int .i64 x1) := fun u => row_cell (S := shJ) (HV.out _ (grownBy_trans HG.out (HF.out u))) hq (k := 1) rfl
        have c2 : ∀ u, (F u).cell? ⟨g, o + k * 7 + 2, none⟩ = some (.int .i64 x2) := fun u => row_cell (S := shJ) (HV.out _ (grownBy_trans HG.out (HF.out u))) hq (k := 2) rfl
        have c3 : ∀ u, (F u).cell? ⟨g, o + k * 7 + 3, none⟩ = some (.int .i64 x3) := fun u => row_cell (S := shJ) (HV.out _ (grownBy_trans HG.out (HF.out u))) hq (k := 3) rfl
        have c4 : ∀ u, (F u).cell? ⟨g, o + k * 7 + 4, none⟩ = some (.int .i64 x4) := fun u => row_cell (S := shJ) (HV.out _ (grownBy_trans HG.out (HF.out u))) hq (k := 4) rfl
        have c5 : ∀ u, (F u).cell? ⟨g, o + k * 7 + 5, none⟩ = some (.int .i64 x5) := fun u => row_cell (S := shJ) (HV.out _ (grownBy_trans HG.out (HF.out u))) hq (k := 5) rfl
        have c6 : ∀ u, (F u).cell? ⟨g, o + k * 7 + 6, none⟩ = some (.int .i64 x6) := fun u => row_cell (S := shJ) (HV.out _ (grownBy_trans HG.out (HF.out u))) hq (k := 6) rfl
        clear hq
        refine wp_region_quiet_in F (by kernel_rfl) (by kernel_rfl) (HRC.out _ (drew_grown _)) ?_
        repeat (go_big_quiet_step (first | (go_at_call 19; exact calls_in HRC (HF.out _) (CM.out _ (grownBy_trans HG.out (HF.out _)))) | (go_at_call 31; exact calls_in HRC (HF.out _) (CJ.out _)) | (go_at_call 30; exact calls_in HRC (HF.out _) (CA.out _))))
        refine wpQuiet_nil ?_
        intro _ hw1
        obtain ⟨uq, hw2⟩ := hw1
        subst hw2
        have HGn := hide (grownBy_trans HG.out (HF.out uq))
        clear HG d0 d1 d2 d3 d4 d5 d6 c0 c1 c2 c3 c4 c5 c6 HF HRC
        have HG := HGn
        clear HGn
        generalize F uq = w7 at *
        have hn16 := HN16I.out
        have HGA := hide (grownBy_trans HG0.out (grownBy_trans HG.out (World.grownBy_alloc w7 (.cells #[] 24) none)))
        have HGB := hide (grownBy_trans HG.out (World.grownBy_alloc w7 (.cells #[] 24) none))
        have HBQ := hide (show B ≤ w7.heap.size by have := (grownBy_trans HG0.out HG.out).size; rw [HBW.out] at this; exact this)
        have HBQ1 := hide (show B < w7.heap.size by have := box_lt (HBX.out _ HG.out); exact this)
        go_wp2_with (first | (at_builtin; refine wpList_copyn (S := shJ) _ rfl _ _ 22 rfl 24 (.agg #[.int .i64 0, .int .i64 0, .int .i64 0, .int .i64 0, .int .i64 0, .int .i64 0, .int .i64 0]) 56 Try.underlying22 infoJ rfl w7.heap.size w7.heap.size rfl (lit_own _ _ _) (.slice (some ⟨g, o, none⟩) k cap) L0 rfl (R0.out _ HGB.out) k HT.out (by omega) (by simp) ?_) | fail)
        intro a1 c1 wA ho hgA
        have HGC := hide (grown_spoil HGA.out (by rw [HBW.out]; exact HBQ.out) hgA)
        have HGD := hide (show w0.grownBy wA none from grown_spoil HGB.out (HG.out.size) hgA)
        have HO := hide ho
        have HSZ0 := hide (HG.out.size)
        have HGSQ0 : Hid (w7.heap.size ≤ wA.heap.size) := hide (by have := hgA.size; simp at this; omega)
        clear ho hgA HGA HGB HG
        generalize w7.heap.size = gq at *
        have d0 : wA.cell? ⟨B, 0, none⟩ = some (.int .i64 y0) := blk_cell (HBX.out _ HGD.out) 0
        have d1 : wA.cell? ⟨B, 1, none⟩ = some (.int .i64 y1) := blk_cell (HBX.out _ HGD.out) 1
        have d2 : wA.cell? ⟨B, 2, none⟩ = some (.int .i64 y2) := blk_cell (HBX.out _ HGD.out) 2
        have d3 : wA.cell? ⟨B, 3, none⟩ = some (.int .i64 y3) := blk_cell (HBX.out _ HGD.out) 3
        have d4 : wA.cell? ⟨B, 4, none⟩ = some (.int .i64 y4) := blk_cell (HBX.out _ HGD.out) 4
        have d5 : wA.cell? ⟨B, 5, none⟩ = some (.int .i64 y5) := blk_cell (HBX.out _ HGD.out) 5
        have d6 : wA.cell? ⟨B, 6, none⟩ = some (.int .i64 y6) := blk_cell (HBX.out _ HGD.out) 6
        have HGE := hide (grownBy_trans HGD.out (World.grownBy_alloc wA (.cells #[.int .i64 y0, .int .i64 y1, .int .i64 y2, .int .i64 y3, .int .i64 y4, .int .i64 y5, .int .i64 y6] 24) none))
        have HOE := hide (own_kept HO.out (World.grownBy_alloc wA (.cells #[.int .i64 y0, .int .i64 y1, .int .i64 y2, .int .i64 y3, .int .i64 y4, .int .i64 y5, .int .i64 y6] 24) none))
        have HLITq := hide (heap_alloc_new wA (.cells #[.int .i64 y0, .int .i64 y1, .int .i64 y2, .int .i64 y3, .int .i64 y4, .int .i64 y5, .int .i64 y6] 24))
        have HSQ := hide (HO.out)
        have HSZ : Hid (w0.heap.size ≤ gq) := HSZ0
        have HGSQ : Hid (gq ≤ wA.heap.size) := HGSQ0
        clear HO
        go_wp2_with (first | (at_builtin; refine app_row (S := shJ) _ rfl _ _ 22 24 (.agg #[.int .i64 0, .int .i64 0, .int .i64 0, .int .i64 0, .int .i64 0, .int .i64 0, .int .i64 0]) 56 Try.underlying22 infoJ rfl rfl gq (.slice a1 k c1) k L0 rfl HOE.out ⟨wA.heap.size, 0, none⟩ 1 1 [⟨y0, y1, y2, y3, y4, y5, y6⟩] rfl rfl ?q1 (by omega) (by omega) ?q4 ?_) | fail)
        case q1 =>
          first
            | exact one_at shJ ⟨y0, y1, y2, y3, y4, y5, y6⟩ HLITq.out
            | exact one_list ⟨y0, y1, y2, y3, y4, y5, y6⟩
        case q4 => have := HGSQ.out; simp; omega
        intro a2 c2 wB ho hgB hb9
        clear hb9
        have HGF := hide (show w0.grownBy wB none from grown_own HGE.out (fun g hg => Nat.le_trans HSZ.out (HOE.out.lt g hg).1) hgB)
        have HO := hide ho
        have HGSB := hide hgB.size
        clear ho hgB d0 d1 d2 d3 d4 d5 d6 HOE HLITq HSQ
        obtain ⟨a3, c3, wC, hr, ho, hgC, -⟩ := run_app_any wB 22 gq _ _ _ L2 (.slice (some ⟨g, o + k * 7, none⟩) (N - k) (cap - k)) HO.out (R2.out _ HGF.out) (by rw [HD.out]; omega) (Nat.le_trans HGSQ.out (Nat.le_trans (World.grownBy_alloc wA (.cells #[.int .i64 y0, .int .i64 y1, .int .i64 y2, .int .i64 y3, .int .i64 y4, .int .i64 y5, .int .i64 y6] 24) none).size HGSB.out))
        have HGG := hide (show w0.grownBy wC none from grown_own HGF.out (fun g hg => Nat.le_trans HSZ.out (HO.out.lt g hg).1) hgC)
        have HOO := hide ho
        clear ho hgC
        rw [HD.out] at hr HOO
        go_wp2_with (first | (at_builtin; refine Lib.wpList_append_run _ rfl _ _ _ _ rfl _ _ rfl rfl _ _ hr ?_) | fail)
        go_ret2
        refine ⟨_, rfl, ?_, grownBy_trans HG0.out HGG.out⟩
        have hfin := HOO.out
        unfold Own
        rw [HPUT.out]
        have hn1 : (L0 ++ [(⟨y0, y1, y2, y3, y4, y5, y6⟩ : JobV)] ++ L2).length = k + 1 + (N - k) := by rw [List.length_append, List.length_append, HT.out, HD.out]; rfl
        rw [hn1]
        exact own_mono hfin (by rw [HBW.out]; exact HBQ.out)
      · skip
        obtain ⟨U, hU, F, HF, HRC⟩ := class_of wr
        go_upto_region 2 with (first | fail)
        refine wp_region_quiet_in F (by kernel_rfl) (by kernel_rfl) (HRC.out _ (drew_grown _)) ?_
        repeat (go_big_quiet_step (first | fail))
        refine wpQuiet_nil ?_
        intro _ hw1
        obtain ⟨uq, hw2⟩ := hw1
        subst hw2
        have HGn := hide (grownBy_trans HG.out (HF.out uq))
        clear HG  HF HRC
        have HG := HGn
        clear HGn
        generalize F uq = w6 at *
        go_upto_region 4 with (first | fail)
        obtain ⟨U, hU, F, HF, HRC⟩ := class_of w6
        have d0 : ∀ u, (F u).cell? ⟨B, 0, none⟩ = some (.int .i64 y0) := fun u => blk_cell (HBX.out _ (grownBy_trans HG.out (HF.out u))) 0
        have d1 : ∀ u, (F u).cell? ⟨B, 1, none⟩ = some (.int .i64 y1) := fun u => blk_cell (HBX.out _ (grownBy_trans HG.out (HF.out u))) 1
        have d2 : ∀ u, (F u).cell? ⟨B, 2, none⟩ = some (.int .i64 y2) := fun u => blk_cell (HBX.out _ (grownBy_trans HG.out (HF.out u))) 2
        have d3 : ∀ u, (F u).cell? ⟨B, 3, none⟩ = some (.int .i64 y3) := fun u => blk_cell (HBX.out _ (grownBy_trans HG.out (HF.out u))) 3
        have d4 : ∀ u, (F u).cell? ⟨B, 4, none⟩ = some (.int .i64 y4) := fun u => blk_cell (HBX.out _ (grownBy_trans HG.out (HF.out u))) 4
        have d5 : ∀ u, (F u).cell? ⟨B, 5, none⟩ = some (.int .i64 y5) := fun u => blk_cell (HBX.out _ (grownBy_trans HG.out (HF.out u))) 5
        have d6 : ∀ u, (F u).cell? ⟨B, 6, none⟩ = some (.int .i64 y6) := fun u => blk_cell (HBX.out _ (grownBy_trans HG.out (HF.out u))) 6
        refine wp_region_quiet_in F (by kernel_rfl) (by kernel_rfl) (HRC.out _ (drew_grown _)) ?_
        repeat (go_big_quiet_step (first | (go_at_call 19; exact calls_in HRC (HF.out _) (CM.out _ (grownBy_trans HG.out (HF.out _)))) | (go_at_call 31; exact calls_in HRC (HF.out _) (CJ.out _))))
        refine wpQuiet_nil ?_
        intro _ hw1
        obtain ⟨uq, hw2⟩ := hw1
        subst hw2
        have HGn := hide (grownBy_trans HG.out (HF.out uq))
        clear HG d0 d1 d2 d3 d4 d5 d6 HF HRC
        have HG := HGn
        clear HGn
        generalize F uq = w7 at *
        have hn16 := HN16I.out
        have HGA := hide (grownBy_trans HG0.out (grownBy_trans HG.out (World.grownBy_alloc w7 (.cells #[] 24) none)))
        have HGB := hide (grownBy_trans HG.out (World.grownBy_alloc w7 (.cells #[] 24) none))
        have HBQ := hide (show B ≤ w7.heap.size by have := (grownBy_trans HG0.out HG.out).size; rw [HBW.out] at this; exact this)
        have HBQ1 := hide (show B < w7.heap.size by have := box_lt (HBX.out _ HG.out); exact this)
        go_wp2_with (first | (at_builtin; refine wpList_copyn (S := shJ) _ rfl _ _ 22 rfl 24 (.agg #[.int .i64 0, .int .i64 0, .int .i64 0, .int .i64 0, .int .i64 0, .int .i64 0, .int .i64 0]) 56 Try.underlying22 infoJ rfl w7.heap.size w7.heap.size rfl (lit_own _ _ _) (.slice (some ⟨g, o, none⟩) k cap) L0 rfl (R0.out _ HGB.out) k HT.out (by omega) (by simp) ?_) | fail)
        intro a1 c1 wA ho hgA
        have HGC := hide (grown_spoil HGA.out (by rw [HBW.out]; exact HBQ.out) hgA)
        have HGD := hide (show w0.grownBy wA none from grown_spoil HGB.out (HG.out.size) hgA)
        have HO := hide ho
        have HSZ0 := hide (HG.out.size)
        have HGSQ0 : Hid (w7.heap.size ≤ wA.heap.size) := hide (by have := hgA.size; simp at this; omega)
        clear ho hgA HGA HGB HG
        generalize w7.heap.size = gq at *
        have d0 : wA.cell? ⟨B, 0, none⟩ = some (.int .i64 y0) := blk_cell (HBX.out _ HGD.out) 0
        have d1 : wA.cell? ⟨B, 1, none⟩ = some (.int .i64 y1) := blk_cell (HBX.out _ HGD.out) 1
        have d2 : wA.cell? ⟨B, 2, none⟩ = some (.int .i64 y2) := blk_cell (HBX.out _ HGD.out) 2
        have d3 : wA.cell? ⟨B, 3, none⟩ = some (.int .i64 y3) := blk_cell (HBX.out _ HGD.out) 3
        have d4 : wA.cell? ⟨B, 4, none⟩ = some (.int .i64 y4) := blk_cell (HBX.out _ HGD.out) 4
        have d5 : wA.cell? ⟨B, 5, none⟩ = some (.int .i64 y5) := blk_cell (HBX.out _ HGD.out) 5
        have d6 : wA.cell? ⟨B, 6, none⟩ = some (.int .i64 y6) := blk_cell (HBX.out _ HGD.out) 6
        have HGE := hide (grownBy_trans HGD.out (World.grownBy_alloc wA (.cells #[.int .i64 y0, .int .i64 y1, .int .i64 y2, .int .i64 y3, .int .i64 y4, .int .i64 y5, .int .i64 y6] 24) none))
        have HOE := hide (own_kept HO.out (World.grownBy_alloc wA (.cells #[.int .i64 y0, .int .i64 y1, .int .i64 y2, .int .i64 y3, .int .i64 y4, .int .i64 y5, .int .i64 y6] 24) none))
        have HLITq := hide (heap_alloc_new wA (.cells #[.int .i64 y0, .int .i64 y1, .int .i64 y2, .int .i64 y3, .int .i64 y4, .int .i64 y5, .int .i64 y6] 24))
        have HSQ := hide (HO.out)
        have HSZ : Hid (w0.heap.size ≤ gq) := HSZ0
        have HGSQ : Hid (gq ≤ wA.heap.size) := HGSQ0
        clear HO
        go_wp2_with (first | (at_builtin; refine app_row (S := shJ) _ rfl _ _ 22 24 (.agg #[.int .i64 0, .int .i64 0, .int .i64 0, .int .i64 0, .int .i64 0, .int .i64 0, .int .i64 0]) 56 Try.underlying22 infoJ rfl rfl gq (.slice a1 k c1) k L0 rfl HOE.out ⟨wA.heap.size, 0, none⟩ 1 1 [⟨y0, y1, y2, y3, y4, y5, y6⟩] rfl rfl ?q1 (by omega) (by omega) ?q4 ?_) | fail)
        case q1 =>
          first
            | exact one_at shJ ⟨y0, y1, y2, y3, y4, y5, y6⟩ HLITq.out
            | exact one_list ⟨y0, y1, y2, y3, y4, y5, y6⟩
        case q4 => have := HGSQ.out; simp; omega
        intro a2 c2 wB ho hgB hb9
        clear hb9
        have HGF := hide (show w0.grownBy wB none from grown_own HGE.out (fun g hg => Nat.le_trans HSZ.out (HOE.out.lt g hg).1) hgB)
        have HO := hide ho
        have HGSB := hide hgB.size
        clear ho hgB d0 d1 d2 d3 d4 d5 d6 HOE HLITq HSQ
        obtain ⟨a3, c3, wC, hr, ho, hgC, -⟩ := run_app_any wB 22 gq _ _ _ L2 (.slice (some ⟨g, o + k * 7, none⟩) (N - k) (cap - k)) HO.out (R2.out _ HGF.out) (by rw [HD.out]; omega) (Nat.le_trans HGSQ.out (Nat.le_trans (World.grownBy_alloc wA (.cells #[.int .i64 y0, .int .i64 y1, .int .i64 y2, .int .i64 y3, .int .i64 y4, .int .i64 y5, .int .i64 y6] 24) none).size HGSB.out))
        have HGG := hide (show w0.grownBy wC none from grown_own HGF.out (fun g hg => Nat.le_trans HSZ.out (HO.out.lt g hg).1) hgC)
        have HOO := hide ho
        clear ho hgC
        rw [HD.out] at hr HOO
        go_wp2_with (first | (at_builtin; refine Lib.wpList_append_run _ rfl _ _ _ _ rfl _ _ rfl rfl _ _ hr ?_) | fail)
        go_ret2
        refine ⟨_, rfl, ?_, grownBy_trans HG0.out HGG.out⟩
        have hfin := HOO.out
        unfold Own
        rw [HPUT.out]
        have hn1 : (L0 ++ [(⟨y0, y1, y2, y3, y4, y5, y6⟩ : JobV)] ++ L2).length = k + 1 + (N - k) := by rw [List.length_append, List.length_append, HT.out, HD.out]; rfl
        rw [hn1]
        exact own_mono hfin (by rw [HBW.out]; exact HBQ.out)
theorem rput_ok {lo : Nat} (v : Value) (js : List JobV) (j : JobV) (w : World) (hv : RowAt shJ lo w v js) (hm : rowMay js = true) (hj : jobMay j = true) (hh : hasB js j = false) (h16 : js.length ≠ 16) :
    Calls Try.prog 10 #[v, jobVal j] w fun e w' => ∃ v', e = .returned (.tuple #[v', .int .i64 0]) ∧ Own w.heap.size w' v' (putL js j) ∧ w.grownBy w' none := by
  have hp := place_le js j
  obtain ⟨hl, a, cap, rfl, ha⟩ := id hv
  cases a with
  | none =>
    have h0 : js = [] := by
      rcases Nat.eq_zero_or_pos js.length with e | e
      · exact List.length_eq_zero_iff.1 e
      · obtain ⟨g, o, h, _⟩ := ha e; cases h
    subst h0
    exact rput_none cap [] j w hv (by simpa using hp) hm hj hh
  | some ad =>
    by_cases h0 : js.length = 0
    · obtain rfl := List.length_eq_zero_iff.1 h0
      obtain ⟨g, o, s⟩ := ad
      by_cases hc : cap = 0
      · subst hc
        exact rput_nil0 g o s [] j w hv (by simpa using hp) hm hj hh
      · exact rput_nil1 g o cap s hc [] j w hv (by simpa using hp) hm hj hh
    · obtain ⟨g, o, e, hlo, -⟩ := ha (by omega)
      cases e
      by_cases hc : cap = placeN js j
      · have hN : js.length = placeN js j := by omega
        have hv3 := hv
        rw [hc, hN] at hv3 ⊢
        exact rput_end g o _ js j w hv3 rfl hm hj hh (by omega)
      · exact rput_mid g o _ _ cap hc (by omega) js j w hv rfl hm hj hh h16
theorem rput_any {lo : Nat} (v : Value) (js : List JobV) (j : JobV) (w : World) (hv : RowAt shJ lo w v js) :
    Calls Try.prog 10 #[v, jobVal j] w fun e w' => ∃ v', e = .returned (.tuple #[v', .int .i64 (putE js j)]) ∧ Own w.heap.size w' v' (putV js j) ∧ w.grownBy w' none := by
  obtain ⟨hl, a, cap, rfl, -⟩ := id hv
  cases hm : rowMay js with
  | false =>
    rw [show putE js j = 1200 by simp [putE, okB, hm], show putV js j = [] by simp [putV, okB, hm]]
    exact (rput_b0 a _ cap _ js j w hv rfl hm).mono fun e w' h => ⟨_, h.1, own_nil _ _, h.2⟩
  | true =>
    cases hj : jobMay j with
    | false =>
      rw [show putE js j = 1200 by simp [putE, okB, hj], show putV js j = [] by simp [putV, okB, hj]]
      exact (rput_b1 a _ cap _ js j w hv rfl hm hj).mono fun e w' h => ⟨_, h.1, own_nil _ _, h.2⟩
    | true =>
      cases hh : hasB js j with
      | true =>
        rw [show putE js j = 1200 by simp [putE, okB, hh], show putV js j = [] by simp [putV, okB, hh]]
        exact (rput_b2 a _ cap _ js j w hv rfl hm hj hh).mono fun e w' h => ⟨_, h.1, own_nil _ _, h.2⟩
      | false =>
        by_cases h16 : js.length = 16
        · rw [show putE js j = 1201 by simp [putE, okB, hm, hj, hh, h16], show putV js j = [] by simp [putV, okB, h16]]
          exact (rput_full a _ cap _ js j w hv rfl hm hj hh h16).mono fun e w' h => ⟨_, h.1, own_nil _ _, h.2⟩
        · rw [show putE js j = 0 by simp [putE, okB, hm, hj, hh, h16], show putV js j = putL js j by simp [putV, okB, hm, hj, hh, h16]]
          exact rput_ok _ js j w hv hm hj hh h16
#print axioms rput_any
end Go.Proofs.Ytebiifcifcefoaa
