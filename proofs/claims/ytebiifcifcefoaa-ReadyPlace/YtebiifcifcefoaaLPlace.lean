/- The statement ReadyPlace answers true: the walk over the translation. -/
import Derived.Test.YtebiifcifcefoaaAw
import Derived.Test.YtebiifcifcefoaaPmath
import Derived.Test.YtebiifcifcefoaaStill
namespace Go.Proofs.Ytebiifcifcefoaa
open Go.RowKit
attribute [local go_sem] alloc_drewN setCell_drewN

theorem putL_first {js : List JobV} {j : JobV} (h : rowMay (putL js j) = true) : firstV (putL js j) = jobAt (putL js j) 0 ∧ firstB (putL js j) = true := by
  have h2 : firstB (putL js j) = true := by unfold firstB; rw [h, putL_len, decide_eq_true (by omega)]; rfl
  exact ⟨by unfold firstV; rw [if_pos h2], h2⟩
set_option maxRecDepth 100000 in
set_option maxHeartbeats 8000000 in
theorem place_law {lo : Nat} (v : Value) (js : List JobV) (j : JobV) (w : World) (hv : RowAt shJ lo w v js) :
    Calls Try.prog 7 #[v, jobVal j] w fun e w' => e = .returned (.bool true) ∧ w.grownBy w' none := by
  have CA := hide awake_any
  have NUM := hide num_to
  have CP := hide (fun W (hg : w.grownBy W none) => put_at (j := j) W (hv.grown hg) rfl rfl rfl)
  have HV := hide (fun W (hg : w.grownBy W none) => hv.grown hg)
  obtain ⟨hl, a, cap, rfl, -⟩ := hv
  have HE1 := hide (fun (h : okB js j = false ∨ js.length = 16) => (show putV js j = [] by
    rcases h with h | h
    · simp [putV, h]
    · simp [putV, h]))
  have HE2 := hide (fun (h : okB js j = false ∨ js.length = 16) => (show putE js j ≠ 0 by
    cases h9 : okB js j with
    | false => simp [putE, h9]
    | true => rcases h with h | h
              · rw [h] at h9; cases h9
              · simp [putE, h9, h]))
  have HE3 := hide (fun (h1 : okB js j = true) (h2 : js.length ≠ 16) => (show putV js j = putL js j by simp [putV, h1, h2]))
  have HE4 := hide (fun (h1 : okB js j = true) (h2 : js.length ≠ 16) => (show putE js j = 0 by simp [putE, h1, h2]))
  have HMY := hide (fun (h1 : okB js j = true) (h2 : js.length ≠ 16) => putL_may h1 h2)
  have HMJ := hide (fun (h1 : okB js j = true) => (ok_iff.1 h1).1)
  have HLEN := hide (putL_len js j)
  have HPL := hide (place_le js j)
  have HA0 := hide (fun i (h : i < placeN js j) => put_at0 h)
  have HA1 := hide (put_at1 (js := js) (j := j))
  have HA2 := hide (fun i (h : placeN js j ≤ i) => put_at2 (j := j) h)
  have HB0 := hide (fun i (h : i < placeN js j) => place_ahead h)
  have HB1 := hide (fun (h1 : okB js j = true) i (h : placeN js j ≤ i) (hi : i < js.length) => rank_no (has_no (ok_iff.1 h1).2.2 hi) (place_behind (rowMay_iff.1 (ok_iff.1 h1).1).2.2 h hi))
  obtain ⟨P, hP⟩ : ∃ P, placeN js j = P := ⟨_, rfl⟩
  rw [hP] at HPL HA0 HA1 HA2 HB0 HB1
  clear hP
  have HMEM := hide (fun k (h : k < js.length) => jobAt_mem h)
  have HMP := hide (fun k (h : k < (putL js j).length) => jobAt_mem h)
  have HMP2 := hide (fun k (h : k < (putL js j).length) => jobAt_mem h)
  generalize hN : js.length = N at *
  have HNN := hide hN
  clear hN HMP2
  obtain ⟨y0, y1, y2, y3, y4, y5, y6⟩ := j
  go_enter Try.func7, Try.ntmps7
  go_upto_region 1 with (first | fail)
  have HG := hide (World.grownBy_alloc w (.cells #[.int .i64 y0, .int .i64 y1, .int .i64 y2, .int .i64 y3, .int .i64 y4, .int .i64 y5, .int .i64 y6] 24) none)
  have HBX0 := hide (heap_alloc_new w (.cells #[.int .i64 y0, .int .i64 y1, .int .i64 y2, .int .i64 y3, .int .i64 y4, .int .i64 y5, .int .i64 y6] 24))
  generalize hW0 : w.alloc (.cells #[.int .i64 y0, .int .i64 y1, .int .i64 y2, .int .i64 y3, .int .i64 y4, .int .i64 y5, .int .i64 y6] 24) = w0 at *
  generalize hB : w.heap.size = B at *
  clear hW0 hB
  go_wp2_with (first | fail)
  refine (CA.out _).mono ?_; rintro e w1 ⟨rfl, hg⟩
  have HGn := hide (grownBy_trans HG.out hg)
  have HBX := hide (box_grown HBX0.out hg (by simp))
  clear hg CA HG HBX0
  have HG := HGn
  clear HGn
  have d0 : w1.cell? ⟨B, 0, none⟩ = some (.int .i64 y0) := blk_cell HBX.out 0
  have d1 : w1.cell? ⟨B, 1, none⟩ = some (.int .i64 y1) := blk_cell HBX.out 1
  have d2 : w1.cell? ⟨B, 2, none⟩ = some (.int .i64 y2) := blk_cell HBX.out 2
  have d3 : w1.cell? ⟨B, 3, none⟩ = some (.int .i64 y3) := blk_cell HBX.out 3
  have d4 : w1.cell? ⟨B, 4, none⟩ = some (.int .i64 y4) := blk_cell HBX.out 4
  have d5 : w1.cell? ⟨B, 5, none⟩ = some (.int .i64 y5) := blk_cell HBX.out 5
  have d6 : w1.cell? ⟨B, 6, none⟩ = some (.int .i64 y6) := blk_cell HBX.out 6
  go_wp2_with (first | fail)
  refine (CP.out _ HG.out).mono ?_; rintro e w2 ⟨a1, q1, rfl, ho, hg⟩
  have HGn := hide (grownBy_trans HG.out hg)
  have HBXn := hide (box_grown HBX.out hg (by simp))
  have HO := hide ho
  clear hg ho CP HG HBX d0 d1 d2 d3 d4 d5 d6
  have HG := HGn
  have HBX := HBXn
  clear HGn HBXn
  by_cases hok : okB js ⟨y0, y1, y2, y3, y4, y5, y6⟩ = true ∧ N ≠ 16
  · have e1 := HE3.out hok.1 hok.2
    have e2 := HE4.out hok.1 hok.2
    have MJ := HMJ.out hok.1
    have MP := HMY.out hok.1 hok.2
    have H16 := (rowMay_iff.1 MJ).1
    have HLN := HLEN.out
    have HB1n := hide (HB1.out hok.1)
    rw [e1] at HO ⊢
    rw [e2]
    rw [HNN.out] at H16
    rw [HLEN.out] at HMP
    rw [HLEN.out] at HO ⊢
    clear HLN
    clear e1 e2 HE1 HE2 HE3 HE4 hok HMY HMJ HB1
    have HB1 := HB1n
    clear HB1n
    have CY1 := hide (fun W (hg : w2.grownBy W none) => may_at (b := true) W (HO.out.row.grown hg) MP)
    have CY2 := hide (fun W (hg : w.grownBy W none) => may_at (b := true) W (HV.out W hg) MJ)
    have CF := hide (fun W (hg : w2.grownBy W none) => first_at W (HO.out.row.grown hg) (putL_first MP).1 (putL_first MP).2)
    have RA2 := hide (fun W (hg : w2.grownBy W none) => HO.out.row.grown hg)
    clear MP MJ HO
    generalize putL js ⟨y0, y1, y2, y3, y4, y5, y6⟩ = PL at *
    have h15 : N ≤ 16 := H16
    clear H16
    generalize hM : N + 1 = M at *
    have HM := hide hM
    have hMN : (N : Int) + 1 = M := by omega
    have hM17 : M ≤ 17 := by omega
    clear hM HLEN
    go_wp2_with (first | (go_at_call 16; refine (NUM.out _ _).mono ?_; rintro e wn ⟨rfl, rfl⟩) | fail)
    refine (CY1.out _ (grownBy_refl _ _)).mono ?_; rintro e w3 ⟨rfl, hg⟩
    have HR := hide hg
    clear hg CY1
    go_wp2_with (first | fail)
    refine (CY2.out _ (grownBy_trans HG.out HR.out)).mono ?_; rintro e w4 ⟨rfl, hg⟩
    have HRn := hide (grownBy_trans HR.out hg)
    clear hg CY2 HR
    have HR := HRn
    clear HRn
    have RJ2 := hide (fun W (hg : w2.grownBy W none) => HV.out W (grownBy_trans HG.out hg))
    have HBX2 := hide (fun W (hg : w2.grownBy W none) => box_grown HBX.out hg (by simp))
    clear HV HBX
    have RA := RA2
    have RJ := RJ2
    have HBX := HBX2
    clear RA2 RJ2 HBX2
    clear hMN
    go_wp2
    go_loopw [7, 8, 9] (fun p q i W => ∃ (k t : Nat) (s : Int), k ≤ M ∧ i = .int .i64 k ∧ p = .int .i64 t ∧ q = .int .i64 s ∧ Hid ((k ≤ P ∧ t = k ∧ s = 0) ∨ (P < k ∧ t + 1 = k ∧ s = 1)) ∧ Hid (w2.grownBy W none)) (fun _ _ i _ => M - (intOf i).toNat)
    case atStart => exact ⟨0, 0, 0, by omega, rfl, rfl, rfl, hide (.inl ⟨by omega, rfl, rfl⟩), HR⟩
    case round =>
      clear HR
      obtain ⟨k, t, s, hk, rfl, rfl, rfl, HP, HR⟩ := hrel
      by_cases hlt : k < M
      · obtain ⟨g, o, rfl⟩ := row_addr (RA.out wr HR.out) (by omega)
        have hq := HMP.out k hlt
        by_cases hkP : k = P
        · have hX := HA1.out
          subst hkP
          rw [hX] at hq
          have hs : s = 0 := by rcases HP.out with h | h <;> omega
          have ht : t = k := by rcases HP.out with h | h <;> omega
          subst hs ht
          clear hX
          go_upto_region 12 with (first | fail)
          obtain ⟨U, hU, F, HF, HRC⟩ := class_of wr
          have c0 : ∀ u, (F u).cell? ⟨g, o + t * 7, none⟩ = some (.int .i64 y0) := fun u => row_cell (S := shJ) (RA.out _ (grownBy_trans HR.out (HF.out u))) hq (k := 0) rfl
          have c1 : ∀ u, (F u).cell? ⟨g, o + t * 7 + 1, none⟩ = some (.int .i64 y1) := fun u => row_cell (S := shJ) (RA.out _ (grownBy_trans HR.out (HF.out u))) hq (k := 1) rfl
          have c2 : ∀ u, (F u).cell? ⟨g, o + t * 7 + 2, none⟩ = some (.int .i64 y2) := fun u => row_cell (S := shJ) (RA.out _ (grownBy_trans HR.out (HF.out u))) hq (k := 2) rfl
          have c3 : ∀ u, (F u).cell? ⟨g, o + t * 7 + 3, none⟩ = some (.int .i64 y3) := fun u => row_cell (S := shJ) (RA.out _ (grownBy_trans HR.out (HF.out u))) hq (k := 3) rfl
          have c4 : ∀ u, (F u).cell? ⟨g, o + t * 7 + 4, none⟩ = some (.int .i64 y4) := fun u => row_cell (S := shJ) (RA.out _ (grownBy_trans HR.out (HF.out u))) hq (k := 4) rfl
          have c5 : ∀ u, (F u).cell? ⟨g, o + t * 7 + 5, none⟩ = some (.int .i64 y5) := fun u => row_cell (S := shJ) (RA.out _ (grownBy_trans HR.out (HF.out u))) hq (k := 5) rfl
          have c6 : ∀ u, (F u).cell? ⟨g, o + t * 7 + 6, none⟩ = some (.int .i64 y6) := fun u => row_cell (S := shJ) (RA.out _ (grownBy_trans HR.out (HF.out u))) hq (k := 6) rfl
          have d0 : ∀ u, (F u).cell? ⟨B, 0, none⟩ = some (.int .i64 y0) := fun u => blk_cell (HBX.out _ (grownBy_trans HR.out (HF.out u))) 0
          have d1 : ∀ u, (F u).cell? ⟨B, 1, none⟩ = some (.int .i64 y1) := fun u => blk_cell (HBX.out _ (grownBy_trans HR.out (HF.out u))) 1
          have d2 : ∀ u, (F u).cell? ⟨B, 2, none⟩ = some (.int .i64 y2) := fun u => blk_cell (HBX.out _ (grownBy_trans HR.out (HF.out u))) 2
          have d3 : ∀ u, (F u).cell? ⟨B, 3, none⟩ = some (.int .i64 y3) := fun u => blk_cell (HBX.out _ (grownBy_trans HR.out (HF.out u))) 3
          have d4 : ∀ u, (F u).cell? ⟨B, 4, none⟩ = some (.int .i64 y4) := fun u => blk_cell (HBX.out _ (grownBy_trans HR.out (HF.out u))) 4
          have d5 : ∀ u, (F u).cell? ⟨B, 5, none⟩ = some (.int .i64 y5) := fun u => blk_cell (HBX.out _ (grownBy_trans HR.out (HF.out u))) 5
          have d6 : ∀ u, (F u).cell? ⟨B, 6, none⟩ = some (.int .i64 y6) := fun u => blk_cell (HBX.out _ (grownBy_trans HR.out (HF.out u))) 6
          refine wp_region_quiet_in F (by kernel_rfl) (by kernel_rfl) (HRC.out _ (drew_grown _)) ?_
          repeat (go_big_quiet_step (first | fail))
          refine wpQuiet_nil ?_
          intro _ hw1
          obtain ⟨uq, hw2⟩ := hw1
          subst hw2
          have HRn := hide (grownBy_trans HR.out (HF.out uq))
          clear HR c0 c1 c2 c3 c4 c5 c6 d0 d1 d2 d3 d4 d5 d6 HF HRC
          have HR := HRn
          clear HRn
          generalize F uq = w5 at *
          go_wp2
          go_roundw
          case rel => exact ⟨t + 1, t, 1, by omega, by go_num, rfl, rfl, hide (.inr ⟨by omega, rfl, rfl⟩), HR⟩
          case measure => simp [intOf]; omega
        · rcases (show (k < P ∧ t = k ∧ s = 0) ∨ (P < k ∧ t + 1 = k ∧ s = 1) by rcases HP.out with h | h <;> omega) with ⟨h1, ht, hs⟩ | ⟨h1, ht, hs⟩
          · skip
            subst ht hs
            clear hkP
            have hX := HA0.out t h1
            have hah := HB0.out t h1
            have hqj := HMEM.out t (by have := HPL.out; have := HM.out; omega)
            rw [hX] at hq
            generalize hXX : jobAt js t = X at *
            obtain ⟨x0, x1, x2, x3, x4, x5, x6⟩ := X
            clear hX hXX
            unfold Ahead at hah
            dsimp only at hah
            have hpr : ¬ y2 < x2 := by omega
            have hnN : ¬ (N ≤ t) := by have := HPL.out; have := HM.out; omega
            have htN : t < N := by omega
            have hthree : ¬ x2 = y2 ∨ ¬ x3 = y3 ∨ ¬ x0 = y0 := by omega
            obtain ⟨gj, oj, rfl⟩ := row_addr (RJ.out wr HR.out) (by omega)
            clear hah HP
            have HEND : Hid ((t + 1 ≤ P ∧ t + 1 = t + 1 ∧ (0 : Int) = 0) ∨ (P < t + 1 ∧ t + 1 + 1 = t + 1 ∧ (0 : Int) = 1)) := hide (.inl ⟨by omega, rfl, rfl⟩)
            clear h1
            rcases hthree with hne | hne | hne
            · skip
              go_upto_region 12 with (first | fail)
              obtain ⟨U, hU, F, HF, HRC⟩ := class_of wr
              have c0 : ∀ u, (F u).cell? ⟨g, o + t * 7, none⟩ = some (.int .i64 x0) := fun u => row_cell (S := shJ) (RA.out _ (grownBy_trans HR.out (HF.out u))) hq (k := 0) rfl
              have c1 : ∀ u, (F u).cell? ⟨g, o + t * 7 + 1, none⟩ = some (.int .i64 x1) := fun u => row_cell (S := shJ) (RA.out _ (grownBy_trans HR.out (HF.out u))) hq (k := 1) rfl
              have c2 : ∀ u, (F u).cell? ⟨g, o + t * 7 + 2, none⟩ = some (.int .i64 x2) := fun u => row_cell (S := shJ) (RA.out _ (grownBy_trans HR.out (HF.out u))) hq (k := 2) rfl
              have c3 : ∀ u, (F u).cell? ⟨g, o + t * 7 + 3, none⟩ = some (.int .i64 x3) := fun u => row_cell (S := shJ) (RA.out _ (grownBy_trans HR.out (HF.out u))) hq (k := 3) rfl
              have c4 : ∀ u, (F u).cell? ⟨g, o + t * 7 + 4, none⟩ = some (.int .i64 x4) := fun u => row_cell (S := shJ) (RA.out _ (grownBy_trans HR.out (HF.out u))) hq (k := 4) rfl
              have c5 : ∀ u, (F u).cell? ⟨g, o + t * 7 + 5, none⟩ = some (.int .i64 x5) := fun u => row_cell (S := shJ) (RA.out _ (grownBy_trans HR.out (HF.out u))) hq (k := 5) rfl
              have c6 : ∀ u, (F u).cell? ⟨g, o + t * 7 + 6, none⟩ = some (.int .i64 x6) := fun u => row_cell (S := shJ) (RA.out _ (grownBy_trans HR.out (HF.out u))) hq (k := 6) rfl
              have d0 : ∀ u, (F u).cell? ⟨B, 0, none⟩ = some (.int .i64 y0) := fun u => blk_cell (HBX.out _ (grownBy_trans HR.out (HF.out u))) 0
              have d1 : ∀ u, (F u).cell? ⟨B, 1, none⟩ = some (.int .i64 y1) := fun u => blk_cell (HBX.out _ (grownBy_trans HR.out (HF.out u))) 1
              have d2 : ∀ u, (F u).cell? ⟨B, 2, none⟩ = some (.int .i64 y2) := fun u => blk_cell (HBX.out _ (grownBy_trans HR.out (HF.out u))) 2
              have d3 : ∀ u, (F u).cell? ⟨B, 3, none⟩ = some (.int .i64 y3) := fun u => blk_cell (HBX.out _ (grownBy_trans HR.out (HF.out u))) 3
              have d4 : ∀ u, (F u).cell? ⟨B, 4, none⟩ = some (.int .i64 y4) := fun u => blk_cell (HBX.out _ (grownBy_trans HR.out (HF.out u))) 4
              have d5 : ∀ u, (F u).cell? ⟨B, 5, none⟩ = some (.int .i64 y5) := fun u => blk_cell (HBX.out _ (grownBy_trans HR.out (HF.out u))) 5
              have d6 : ∀ u, (F u).cell? ⟨B, 6, none⟩ = some (.int .i64 y6) := fun u => blk_cell (HBX.out _ (grownBy_trans HR.out (HF.out u))) 6
              refine wp_region_quiet_in F (by kernel_rfl) (by kernel_rfl) (HRC.out _ (drew_grown _)) ?_
              repeat (go_big_quiet_step (first | fail))
              refine wpQuiet_nil ?_
              intro _ hw1
              obtain ⟨uq, hw2⟩ := hw1
              subst hw2
              have HRn := hide (grownBy_trans HR.out (HF.out uq))
              clear HR c0 c1 c2 c3 c4 c5 c6 d0 d1 d2 d3 d4 d5 d6 HF HRC
              have HR := HRn
              clear HRn
              generalize F uq = w5 at *
              go_upto_region 14 with (first | fail)
              obtain ⟨U, hU, F, HF, HRC⟩ := class_of w5
              have c0 : ∀ u, (F u).cell? ⟨g, o + t * 7, none⟩ = some (.int .i64 x0) := fun u => row_cell (S := shJ) (RA.out _ (grownBy_trans HR.out (HF.out u))) hq (k := 0) rfl
              have c1 : ∀ u, (F u).cell? ⟨g, o + t * 7 + 1, none⟩ = some (.int .i64 x1) := fun u => row_cell (S := shJ) (RA.out _ (grownBy_trans HR.out (HF.out u))) hq (k := 1) rfl
              have c2 : ∀ u, (F u).cell? ⟨g, o + t * 7 + 2, none⟩ = some (.int .i64 x2) := fun u => row_cell (S := shJ) (RA.out _ (grownBy_trans HR.out (HF.out u))) hq (k := 2) rfl
              have c3 : ∀ u, (F u).cell? ⟨g, o + t * 7 + 3, none⟩ = some (.int .i64 x3) := fun u => row_cell (S := shJ) (RA.out _ (grownBy_trans HR.out (HF.out u))) hq (k := 3) rfl
              have c4 : ∀ u, (F u).cell? ⟨g, o + t * 7 + 4, none⟩ = some (.int .i64 x4) := fun u => row_cell (S := shJ) (RA.out _ (grownBy_trans HR.out (HF.out u))) hq (k := 4) rfl
              have c5 : ∀ u, (F u).cell? ⟨g, o + t * 7 + 5, none⟩ = some (.int .i64 x5) := fun u => row_cell (S := shJ) (RA.out _ (grownBy_trans HR.out (HF.out u))) hq (k := 5) rfl
              have c6 : ∀ u, (F u).cell? ⟨g, o + t * 7 + 6, none⟩ = some (.int .i64 x6) := fun u => row_cell (S := shJ) (RA.out _ (grownBy_trans HR.out (HF.out u))) hq (k := 6) rfl
              have d0 : ∀ u, (F u).cell? ⟨gj, oj + t * 7, none⟩ = some (.int .i64 x0) := fun u => row_cell (S := shJ) (RJ.out _ (grownBy_trans HR.out (HF.out u))) hqj (k := 0) rfl
              have d1 : ∀ u, (F u).cell? ⟨gj, oj + t * 7 + 1, none⟩ = some (.int .i64 x1) := fun u => row_cell (S := shJ) (RJ.out _ (grownBy_trans HR.out (HF.out u))) hqj (k := 1) rfl
              have d2 : ∀ u, (F u).cell? ⟨gj, oj + t * 7 + 2, none⟩ = some (.int .i64 x2) := fun u => row_cell (S := shJ) (RJ.out _ (grownBy_trans HR.out (HF.out u))) hqj (k := 2) rfl
              have d3 : ∀ u, (F u).cell? ⟨gj, oj + t * 7 + 3, none⟩ = some (.int .i64 x3) := fun u => row_cell (S := shJ) (RJ.out _ (grownBy_trans HR.out (HF.out u))) hqj (k := 3) rfl
              have d4 : ∀ u, (F u).cell? ⟨gj, oj + t * 7 + 4, none⟩ = some (.int .i64 x4) := fun u => row_cell (S := shJ) (RJ.out _ (grownBy_trans HR.out (HF.out u))) hqj (k := 4) rfl
              have d5 : ∀ u, (F u).cell? ⟨gj, oj + t * 7 + 5, none⟩ = some (.int .i64 x5) := fun u => row_cell (S := shJ) (RJ.out _ (grownBy_trans HR.out (HF.out u))) hqj (k := 5) rfl
              have d6 : ∀ u, (F u).cell? ⟨gj, oj + t * 7 + 6, none⟩ = some (.int .i64 x6) := fun u => row_cell (S := shJ) (RJ.out _ (grownBy_trans HR.out (HF.out u))) hqj (k := 6) rfl
              refine wp_region_quiet_in F (by kernel_rfl) (by kernel_rfl) (HRC.out _ (drew_grown _)) ?_
              repeat (go_big_quiet_step (first | fail))
              refine wpQuiet_nil ?_
              intro _ hw1
              obtain ⟨uq, hw2⟩ := hw1
              subst hw2
              have HRn := hide (grownBy_trans HR.out (HF.out uq))
              clear HR c0 c1 c2 c3 c4 c5 c6 d0 d1 d2 d3 d4 d5 d6 HF HRC
              have HR := HRn
              clear HRn
              generalize F uq = w6 at *
              go_upto_region 16 with (first | fail)
              obtain ⟨U, hU, F, HF, HRC⟩ := class_of w6
              have c2 : ∀ u, (F u).cell? ⟨g, o + t * 7 + 2, none⟩ = some (.int .i64 x2) := fun u => row_cell (S := shJ) (RA.out _ (grownBy_trans HR.out (HF.out u))) hq (k := 2) rfl
              have d2 : ∀ u, (F u).cell? ⟨B, 2, none⟩ = some (.int .i64 y2) := fun u => blk_cell (HBX.out _ (grownBy_trans HR.out (HF.out u))) 2
              refine wp_region_quiet_in F (by kernel_rfl) (by kernel_rfl) (HRC.out _ (drew_grown _)) ?_
              repeat (go_big_quiet_step (first | fail))
              refine wpQuiet_nil ?_
              intro _ hw1
              obtain ⟨uq, hw2⟩ := hw1
              subst hw2
              have HRn := hide (grownBy_trans HR.out (HF.out uq))
              clear HR c2 d2 HF HRC
              have HR := HRn
              clear HRn
              generalize F uq = w7 at *
              go_wp2
              go_roundw
              case rel => exact ⟨t + 1, t + 1, 0, by omega, by go_num, by go_num, rfl, HEND, HR⟩
              case measure => simp [intOf]; omega
            · skip
              go_upto_region 12 with (first | fail)
              obtain ⟨U, hU, F, HF, HRC⟩ := class_of wr
              have c0 : ∀ u, (F u).cell? ⟨g, o + t * 7, none⟩ = some (.int .i64 x0) := fun u => row_cell (S := shJ) (RA.out _ (grownBy_trans HR.out (HF.out u))) hq (k := 0) rfl
              have c1 : ∀ u, (F u).cell? ⟨g, o + t * 7 + 1, none⟩ = some (.int .i64 x1) := fun u => row_cell (S := shJ) (RA.out _ (grownBy_trans HR.out (HF.out u))) hq (k := 1) rfl
              have c2 : ∀ u, (F u).cell? ⟨g, o + t * 7 + 2, none⟩ = some (.int .i64 x2) := fun u => row_cell (S := shJ) (RA.out _ (grownBy_trans HR.out (HF.out u))) hq (k := 2) rfl
              have c3 : ∀ u, (F u).cell? ⟨g, o + t * 7 + 3, none⟩ = some (.int .i64 x3) := fun u => row_cell (S := shJ) (RA.out _ (grownBy_trans HR.out (HF.out u))) hq (k := 3) rfl
              have c4 : ∀ u, (F u).cell? ⟨g, o + t * 7 + 4, none⟩ = some (.int .i64 x4) := fun u => row_cell (S := shJ) (RA.out _ (grownBy_trans HR.out (HF.out u))) hq (k := 4) rfl
              have c5 : ∀ u, (F u).cell? ⟨g, o + t * 7 + 5, none⟩ = some (.int .i64 x5) := fun u => row_cell (S := shJ) (RA.out _ (grownBy_trans HR.out (HF.out u))) hq (k := 5) rfl
              have c6 : ∀ u, (F u).cell? ⟨g, o + t * 7 + 6, none⟩ = some (.int .i64 x6) := fun u => row_cell (S := shJ) (RA.out _ (grownBy_trans HR.out (HF.out u))) hq (k := 6) rfl
              have d0 : ∀ u, (F u).cell? ⟨B, 0, none⟩ = some (.int .i64 y0) := fun u => blk_cell (HBX.out _ (grownBy_trans HR.out (HF.out u))) 0
              have d1 : ∀ u, (F u).cell? ⟨B, 1, none⟩ = some (.int .i64 y1) := fun u => blk_cell (HBX.out _ (grownBy_trans HR.out (HF.out u))) 1
              have d2 : ∀ u, (F u).cell? ⟨B, 2, none⟩ = some (.int .i64 y2) := fun u => blk_cell (HBX.out _ (grownBy_trans HR.out (HF.out u))) 2
              have d3 : ∀ u, (F u).cell? ⟨B, 3, none⟩ = some (.int .i64 y3) := fun u => blk_cell (HBX.out _ (grownBy_trans HR.out (HF.out u))) 3
              have d4 : ∀ u, (F u).cell? ⟨B, 4, none⟩ = some (.int .i64 y4) := fun u => blk_cell (HBX.out _ (grownBy_trans HR.out (HF.out u))) 4
              have d5 : ∀ u, (F u).cell? ⟨B, 5, none⟩ = some (.int .i64 y5) := fun u => blk_cell (HBX.out _ (grownBy_trans HR.out (HF.out u))) 5
              have d6 : ∀ u, (F u).cell? ⟨B, 6, none⟩ = some (.int .i64 y6) := fun u => blk_cell (HBX.out _ (grownBy_trans HR.out (HF.out u))) 6
              refine wp_region_quiet_in F (by kernel_rfl) (by kernel_rfl) (HRC.out _ (drew_grown _)) ?_
              repeat (go_big_quiet_step (first | fail))
              refine wpQuiet_nil ?_
              intro _ hw1
              obtain ⟨uq, hw2⟩ := hw1
              subst hw2
              have HRn := hide (grownBy_trans HR.out (HF.out uq))
              clear HR c0 c1 c2 c3 c4 c5 c6 d0 d1 d2 d3 d4 d5 d6 HF HRC
              have HR := HRn
              clear HRn
              generalize F uq = w5 at *
              go_upto_region 14 with (first | fail)
              obtain ⟨U, hU, F, HF, HRC⟩ := class_of w5
              have c0 : ∀ u, (F u).cell? ⟨g, o + t * 7, none⟩ = some (.int .i64 x0) := fun u => row_cell (S := shJ) (RA.out _ (grownBy_trans HR.out (HF.out u))) hq (k := 0) rfl
              have c1 : ∀ u, (F u).cell? ⟨g, o + t * 7 + 1, none⟩ = some (.int .i64 x1) := fun u => row_cell (S := shJ) (RA.out _ (grownBy_trans HR.out (HF.out u))) hq (k := 1) rfl
              have c2 : ∀ u, (F u).cell? ⟨g, o + t * 7 + 2, none⟩ = some (.int .i64 x2) := fun u => row_cell (S := shJ) (RA.out _ (grownBy_trans HR.out (HF.out u))) hq (k := 2) rfl
              have c3 : ∀ u, (F u).cell? ⟨g, o + t * 7 + 3, none⟩ = some (.int .i64 x3) := fun u => row_cell (S := shJ) (RA.out _ (grownBy_trans HR.out (HF.out u))) hq (k := 3) rfl
              have c4 : ∀ u, (F u).cell? ⟨g, o + t * 7 + 4, none⟩ = some (.int .i64 x4) := fun u => row_cell (S := shJ) (RA.out _ (grownBy_trans HR.out (HF.out u))) hq (k := 4) rfl
              have c5 : ∀ u, (F u).cell? ⟨g, o + t * 7 + 5, none⟩ = some (.int .i64 x5) := fun u => row_cell (S := shJ) (RA.out _ (grownBy_trans HR.out (HF.out u))) hq (k := 5) rfl
              have c6 : ∀ u, (F u).cell? ⟨g, o + t * 7 + 6, none⟩ = some (.int .i64 x6) := fun u => row_cell (S := shJ) (RA.out _ (grownBy_trans HR.out (HF.out u))) hq (k := 6) rfl
              have d0 : ∀ u, (F u).cell? ⟨gj, oj + t * 7, none⟩ = some (.int .i64 x0) := fun u => row_cell (S := shJ) (RJ.out _ (grownBy_trans HR.out (HF.out u))) hqj (k := 0) rfl
              have d1 : ∀ u, (F u).cell? ⟨gj, oj + t * 7 + 1, none⟩ = some (.int .i64 x1) := fun u => row_cell (S := shJ) (RJ.out _ (grownBy_trans HR.out (HF.out u))) hqj (k := 1) rfl
              have d2 : ∀ u, (F u).cell? ⟨gj, oj + t * 7 + 2, none⟩ = some (.int .i64 x2) := fun u => row_cell (S := shJ) (RJ.out _ (grownBy_trans HR.out (HF.out u))) hqj (k := 2) rfl
              have d3 : ∀ u, (F u).cell? ⟨gj, oj + t * 7 + 3, none⟩ = some (.int .i64 x3) := fun u => row_cell (S := shJ) (RJ.out _ (grownBy_trans HR.out (HF.out u))) hqj (k := 3) rfl
              have d4 : ∀ u, (F u).cell? ⟨gj, oj + t * 7 + 4, none⟩ = some (.int .i64 x4) := fun u => row_cell (S := shJ) (RJ.out _ (grownBy_trans HR.out (HF.out u))) hqj (k := 4) rfl
              have d5 : ∀ u, (F u).cell? ⟨gj, oj + t * 7 + 5, none⟩ = some (.int .i64 x5) := fun u => row_cell (S := shJ) (RJ.out _ (grownBy_trans HR.out (HF.out u))) hqj (k := 5) rfl
              have d6 : ∀ u, (F u).cell? ⟨gj, oj + t * 7 + 6, none⟩ = some (.int .i64 x6) := fun u => row_cell (S := shJ) (RJ.out _ (grownBy_trans HR.out (HF.out u))) hqj (k := 6) rfl
              refine wp_region_quiet_in F (by kernel_rfl) (by kernel_rfl) (HRC.out _ (drew_grown _)) ?_
              repeat (go_big_quiet_step (first | fail))
              refine wpQuiet_nil ?_
              intro _ hw1
              obtain ⟨uq, hw2⟩ := hw1
              subst hw2
              have HRn := hide (grownBy_trans HR.out (HF.out uq))
              clear HR c0 c1 c2 c3 c4 c5 c6 d0 d1 d2 d3 d4 d5 d6 HF HRC
              have HR := HRn
              clear HRn
              generalize F uq = w6 at *
              go_upto_region 16 with (first | fail)
              obtain ⟨U, hU, F, HF, HRC⟩ := class_of w6
              have c2 : ∀ u, (F u).cell? ⟨g, o + t * 7 + 2, none⟩ = some (.int .i64 x2) := fun u => row_cell (S := shJ) (RA.out _ (grownBy_trans HR.out (HF.out u))) hq (k := 2) rfl
              have d2 : ∀ u, (F u).cell? ⟨B, 2, none⟩ = some (.int .i64 y2) := fun u => blk_cell (HBX.out _ (grownBy_trans HR.out (HF.out u))) 2
              refine wp_region_quiet_in F (by kernel_rfl) (by kernel_rfl) (HRC.out _ (drew_grown _)) ?_
              repeat (go_big_quiet_step (first | fail))
              refine wpQuiet_nil ?_
              intro _ hw1
              obtain ⟨uq, hw2⟩ := hw1
              subst hw2
              have HRn := hide (grownBy_trans HR.out (HF.out uq))
              clear HR c2 d2 HF HRC
              have HR := HRn
              clear HRn
              generalize F uq = w7 at *
              go_wp2
              go_roundw
              case rel => exact ⟨t + 1, t + 1, 0, by omega, by go_num, by go_num, rfl, HEND, HR⟩
              case measure => simp [intOf]; omega
            · skip
              go_upto_region 12 with (first | fail)
              obtain ⟨U, hU, F, HF, HRC⟩ := class_of wr
              have c0 : ∀ u, (F u).cell? ⟨g, o + t * 7, none⟩ = some (.int .i64 x0) := fun u => row_cell (S := shJ) (RA.out _ (grownBy_trans HR.out (HF.out u))) hq (k := 0) rfl
              have c1 : ∀ u, (F u).cell? ⟨g, o + t * 7 + 1, none⟩ = some (.int .i64 x1) := fun u => row_cell (S := shJ) (RA.out _ (grownBy_trans HR.out (HF.out u))) hq (k := 1) rfl
              have c2 : ∀ u, (F u).cell? ⟨g, o + t * 7 + 2, none⟩ = some (.int .i64 x2) := fun u => row_cell (S := shJ) (RA.out _ (grownBy_trans HR.out (HF.out u))) hq (k := 2) rfl
              have c3 : ∀ u, (F u).cell? ⟨g, o + t * 7 + 3, none⟩ = some (.int .i64 x3) := fun u => row_cell (S := shJ) (RA.out _ (grownBy_trans HR.out (HF.out u))) hq (k := 3) rfl
              have c4 : ∀ u, (F u).cell? ⟨g, o + t * 7 + 4, none⟩ = some (.int .i64 x4) := fun u => row_cell (S := shJ) (RA.out _ (grownBy_trans HR.out (HF.out u))) hq (k := 4) rfl
              have c5 : ∀ u, (F u).cell? ⟨g, o + t * 7 + 5, none⟩ = some (.int .i64 x5) := fun u => row_cell (S := shJ) (RA.out _ (grownBy_trans HR.out (HF.out u))) hq (k := 5) rfl
              have c6 : ∀ u, (F u).cell? ⟨g, o + t * 7 + 6, none⟩ = some (.int .i64 x6) := fun u => row_cell (S := shJ) (RA.out _ (grownBy_trans HR.out (HF.out u))) hq (k := 6) rfl
              have d0 : ∀ u, (F u).cell? ⟨B, 0, none⟩ = some (.int .i64 y0) := fun u => blk_cell (HBX.out _ (grownBy_trans HR.out (HF.out u))) 0
              have d1 : ∀ u, (F u).cell? ⟨B, 1, none⟩ = some (.int .i64 y1) := fun u => blk_cell (HBX.out _ (grownBy_trans HR.out (HF.out u))) 1
              have d2 : ∀ u, (F u).cell? ⟨B, 2, none⟩ = some (.int .i64 y2) := fun u => blk_cell (HBX.out _ (grownBy_trans HR.out (HF.out u))) 2
              have d3 : ∀ u, (F u).cell? ⟨B, 3, none⟩ = some (.int .i64 y3) := fun u => blk_cell (HBX.out _ (grownBy_trans HR.out (HF.out u))) 3
              have d4 : ∀ u, (F u).cell? ⟨B, 4, none⟩ = some (.int .i64 y4) := fun u => blk_cell (HBX.out _ (grownBy_trans HR.out (HF.out u))) 4
              have d5 : ∀ u, (F u).cell? ⟨B, 5, none⟩ = some (.int .i64 y5) := fun u => blk_cell (HBX.out _ (grownBy_trans HR.out (HF.out u))) 5
              have d6 : ∀ u, (F u).cell? ⟨B, 6, none⟩ = some (.int .i64 y6) := fun u => blk_cell (HBX.out _ (grownBy_trans HR.out (HF.out u))) 6
              refine wp_region_quiet_in F (by kernel_rfl) (by kernel_rfl) (HRC.out _ (drew_grown _)) ?_
              repeat (go_big_quiet_step (first | fail))
              refine wpQuiet_nil ?_
              intro _ hw1
              obtain ⟨uq, hw2⟩ := hw1
              subst hw2
              have HRn := hide (grownBy_trans HR.out (HF.out uq))
              clear HR c0 c1 c2 c3 c4 c5 c6 d0 d1 d2 d3 d4 d5 d6 HF HRC
              have HR := HRn
              clear HRn
              generalize F uq = w5 at *
              go_upto_region 14 with (first | fail)
              obtain ⟨U, hU, F, HF, HRC⟩ := class_of w5
              have c0 : ∀ u, (F u).cell? ⟨g, o + t * 7, none⟩ = some (.int .i64 x0) := fun u => row_cell (S := shJ) (RA.out _ (grownBy_trans HR.out (HF.out u))) hq (k := 0) rfl
              have c1 : ∀ u, (F u).cell? ⟨g, o + t * 7 + 1, none⟩ = some (.int .i64 x1) := fun u => row_cell (S := shJ) (RA.out _ (grownBy_trans HR.out (HF.out u))) hq (k := 1) rfl
              have c2 : ∀ u, (F u).cell? ⟨g, o + t * 7 + 2, none⟩ = some (.int .i64 x2) := fun u => row_cell (S := shJ) (RA.out _ (grownBy_trans HR.out (HF.out u))) hq (k := 2) rfl
              have c3 : ∀ u, (F u).cell? ⟨g, o + t * 7 + 3, none⟩ = some (.int .i64 x3) := fun u => row_cell (S := shJ) (RA.out _ (grownBy_trans HR.out (HF.out u))) hq (k := 3) rfl
              have c4 : ∀ u, (F u).cell? ⟨g, o + t * 7 + 4, none⟩ = some (.int .i64 x4) := fun u => row_cell (S := shJ) (RA.out _ (grownBy_trans HR.out (HF.out u))) hq (k := 4) rfl
              have c5 : ∀ u, (F u).cell? ⟨g, o + t * 7 + 5, none⟩ = some (.int .i64 x5) := fun u => row_cell (S := shJ) (RA.out _ (grownBy_trans HR.out (HF.out u))) hq (k := 5) rfl
              have c6 : ∀ u, (F u).cell? ⟨g, o + t * 7 + 6, none⟩ = some (.int .i64 x6) := fun u => row_cell (S := shJ) (RA.out _ (grownBy_trans HR.out (HF.out u))) hq (k := 6) rfl
              have d0 : ∀ u, (F u).cell? ⟨gj, oj + t * 7, none⟩ = some (.int .i64 x0) := fun u => row_cell (S := shJ) (RJ.out _ (grownBy_trans HR.out (HF.out u))) hqj (k := 0) rfl
              have d1 : ∀ u, (F u).cell? ⟨gj, oj + t * 7 + 1, none⟩ = some (.int .i64 x1) := fun u => row_cell (S := shJ) (RJ.out _ (grownBy_trans HR.out (HF.out u))) hqj (k := 1) rfl
              have d2 : ∀ u, (F u).cell? ⟨gj, oj + t * 7 + 2, none⟩ = some (.int .i64 x2) := fun u => row_cell (S := shJ) (RJ.out _ (grownBy_trans HR.out (HF.out u))) hqj (k := 2) rfl
              have d3 : ∀ u, (F u).cell? ⟨gj, oj + t * 7 + 3, none⟩ = some (.int .i64 x3) := fun u => row_cell (S := shJ) (RJ.out _ (grownBy_trans HR.out (HF.out u))) hqj (k := 3) rfl
              have d4 : ∀ u, (F u).cell? ⟨gj, oj + t * 7 + 4, none⟩ = some (.int .i64 x4) := fun u => row_cell (S := shJ) (RJ.out _ (grownBy_trans HR.out (HF.out u))) hqj (k := 4) rfl
              have d5 : ∀ u, (F u).cell? ⟨gj, oj + t * 7 + 5, none⟩ = some (.int .i64 x5) := fun u => row_cell (S := shJ) (RJ.out _ (grownBy_trans HR.out (HF.out u))) hqj (k := 5) rfl
              have d6 : ∀ u, (F u).cell? ⟨gj, oj + t * 7 + 6, none⟩ = some (.int .i64 x6) := fun u => row_cell (S := shJ) (RJ.out _ (grownBy_trans HR.out (HF.out u))) hqj (k := 6) rfl
              refine wp_region_quiet_in F (by kernel_rfl) (by kernel_rfl) (HRC.out _ (drew_grown _)) ?_
              repeat (go_big_quiet_step (first | fail))
              refine wpQuiet_nil ?_
              intro _ hw1
              obtain ⟨uq, hw2⟩ := hw1
              subst hw2
              have HRn := hide (grownBy_trans HR.out (HF.out uq))
              clear HR c0 c1 c2 c3 c4 c5 c6 d0 d1 d2 d3 d4 d5 d6 HF HRC
              have HR := HRn
              clear HRn
              generalize F uq = w6 at *
              go_upto_region 16 with (first | fail)
              obtain ⟨U, hU, F, HF, HRC⟩ := class_of w6
              have c2 : ∀ u, (F u).cell? ⟨g, o + t * 7 + 2, none⟩ = some (.int .i64 x2) := fun u => row_cell (S := shJ) (RA.out _ (grownBy_trans HR.out (HF.out u))) hq (k := 2) rfl
              have d2 : ∀ u, (F u).cell? ⟨B, 2, none⟩ = some (.int .i64 y2) := fun u => blk_cell (HBX.out _ (grownBy_trans HR.out (HF.out u))) 2
              refine wp_region_quiet_in F (by kernel_rfl) (by kernel_rfl) (HRC.out _ (drew_grown _)) ?_
              repeat (go_big_quiet_step (first | fail))
              refine wpQuiet_nil ?_
              intro _ hw1
              obtain ⟨uq, hw2⟩ := hw1
              subst hw2
              have HRn := hide (grownBy_trans HR.out (HF.out uq))
              clear HR c2 d2 HF HRC
              have HR := HRn
              clear HRn
              generalize F uq = w7 at *
              go_wp2
              go_roundw
              case rel => exact ⟨t + 1, t + 1, 0, by omega, by go_num, by go_num, rfl, HEND, HR⟩
              case measure => simp [intOf]; omega
          · skip
            subst ht hs
            clear hkP
            have hX := HA2.out t (by omega)
            have hah := HB1.out t (by omega) (by have := HM.out; omega)
            have hqj := HMEM.out t (by have := HPL.out; have := HM.out; omega)
            rw [hX] at hq
            generalize hXX : jobAt js t = X at *
            obtain ⟨x0, x1, x2, x3, x4, x5, x6⟩ := X
            clear hX hXX
            unfold Ahead at hah
            dsimp only at hah
            have hpr : ¬ x2 < y2 := by omega
            have hnN : ¬ (N ≤ t) := by have := HPL.out; have := HM.out; omega
            have htN : t < N := by omega
            have hthree : ¬ x2 = y2 ∨ ¬ x3 = y3 ∨ ¬ x0 = y0 := by omega
            obtain ⟨gj, oj, rfl⟩ := row_addr (RJ.out wr HR.out) (by omega)
            clear hah HP
            have HEND : Hid ((t + 1 + 1 ≤ P ∧ t + 1 = t + 1 + 1 ∧ (1 : Int) = 0) ∨ (P < t + 1 + 1 ∧ t + 1 + 1 = t + 1 + 1 ∧ (1 : Int) = 1)) := hide (.inr ⟨by omega, rfl, rfl⟩)
            clear h1
            rcases hthree with hne | hne | hne
            · skip
              go_upto_region 12 with (first | fail)
              obtain ⟨U, hU, F, HF, HRC⟩ := class_of wr
              have c0 : ∀ u, (F u).cell? ⟨g, o + (t + 1) * 7, none⟩ = some (.int .i64 x0) := fun u => row_cell (S := shJ) (RA.out _ (grownBy_trans HR.out (HF.out u))) hq (k := 0) rfl
              have c1 : ∀ u, (F u).cell? ⟨g, o + (t + 1) * 7 + 1, none⟩ = some (.int .i64 x1) := fun u => row_cell (S := shJ) (RA.out _ (grownBy_trans HR.out (HF.out u))) hq (k := 1) rfl
              have c2 : ∀ u, (F u).cell? ⟨g, o + (t + 1) * 7 + 2, none⟩ = some (.int .i64 x2) := fun u => row_cell (S := shJ) (RA.out _ (grownBy_trans HR.out (HF.out u))) hq (k := 2) rfl
              have c3 : ∀ u, (F u).cell? ⟨g, o + (t + 1) * 7 + 3, none⟩ = some (.int .i64 x3) := fun u => row_cell (S := shJ) (RA.out _ (grownBy_trans HR.out (HF.out u))) hq (k := 3) rfl
              have c4 : ∀ u, (F u).cell? ⟨g, o + (t + 1) * 7 + 4, none⟩ = some (.int .i64 x4) := fun u => row_cell (S := shJ) (RA.out _ (grownBy_trans HR.out (HF.out u))) hq (k := 4) rfl
              have c5 : ∀ u, (F u).cell? ⟨g, o + (t + 1) * 7 + 5, none⟩ = some (.int .i64 x5) := fun u => row_cell (S := shJ) (RA.out _ (grownBy_trans HR.out (HF.out u))) hq (k := 5) rfl
              have c6 : ∀ u, (F u).cell? ⟨g, o + (t + 1) * 7 + 6, none⟩ = some (.int .i64 x6) := fun u => row_cell (S := shJ) (RA.out _ (grownBy_trans HR.out (HF.out u))) hq (k := 6) rfl
              have d0 : ∀ u, (F u).cell? ⟨B, 0, none⟩ = some (.int .i64 y0) := fun u => blk_cell (HBX.out _ (grownBy_trans HR.out (HF.out u))) 0
              have d1 : ∀ u, (F u).cell? ⟨B, 1, none⟩ = some (.int .i64 y1) := fun u => blk_cell (HBX.out _ (grownBy_trans HR.out (HF.out u))) 1
              have d2 : ∀ u, (F u).cell? ⟨B, 2, none⟩ = some (.int .i64 y2) := fun u => blk_cell (HBX.out _ (grownBy_trans HR.out (HF.out u))) 2
              have d3 : ∀ u, (F u).cell? ⟨B, 3, none⟩ = some (.int .i64 y3) := fun u => blk_cell (HBX.out _ (grownBy_trans HR.out (HF.out u))) 3
              have d4 : ∀ u, (F u).cell? ⟨B, 4, none⟩ = some (.int .i64 y4) := fun u => blk_cell (HBX.out _ (grownBy_trans HR.out (HF.out u))) 4
              have d5 : ∀ u, (F u).cell? ⟨B, 5, none⟩ = some (.int .i64 y5) := fun u => blk_cell (HBX.out _ (grownBy_trans HR.out (HF.out u))) 5
              have d6 : ∀ u, (F u).cell? ⟨B, 6, none⟩ = some (.int .i64 y6) := fun u => blk_cell (HBX.out _ (grownBy_trans HR.out (HF.out u))) 6
              refine wp_region_quiet_in F (by kernel_rfl) (by kernel_rfl) (HRC.out _ (drew_grown _)) ?_
              repeat (go_big_quiet_step (first | fail))
              refine wpQuiet_nil ?_
              intro _ hw1
              obtain ⟨uq, hw2⟩ := hw1
              subst hw2
              have HRn := hide (grownBy_trans HR.out (HF.out uq))
              clear HR c0 c1 c2 c3 c4 c5 c6 d0 d1 d2 d3 d4 d5 d6 HF HRC
              have HR := HRn
              clear HRn
              generalize F uq = w5 at *
              go_upto_region 14 with (first | fail)
              obtain ⟨U, hU, F, HF, HRC⟩ := class_of w5
              have c0 : ∀ u, (F u).cell? ⟨g, o + (t + 1) * 7, none⟩ = some (.int .i64 x0) := fun u => row_cell (S := shJ) (RA.out _ (grownBy_trans HR.out (HF.out u))) hq (k := 0) rfl
              have c1 : ∀ u, (F u).cell? ⟨g, o + (t + 1) * 7 + 1, none⟩ = some (.int .i64 x1) := fun u => row_cell (S := shJ) (RA.out _ (grownBy_trans HR.out (HF.out u))) hq (k := 1) rfl
              have c2 : ∀ u, (F u).cell? ⟨g, o + (t + 1) * 7 + 2, none⟩ = some (.int .i64 x2) := fun u => row_cell (S := shJ) (RA.out _ (grownBy_trans HR.out (HF.out u))) hq (k := 2) rfl
              have c3 : ∀ u, (F u).cell? ⟨g, o + (t + 1) * 7 + 3, none⟩ = some (.int .i64 x3) := fun u => row_cell (S := shJ) (RA.out _ (grownBy_trans HR.out (HF.out u))) hq (k := 3) rfl
              have c4 : ∀ u, (F u).cell? ⟨g, o + (t + 1) * 7 + 4, none⟩ = some (.int .i64 x4) := fun u => row_cell (S := shJ) (RA.out _ (grownBy_trans HR.out (HF.out u))) hq (k := 4) rfl
              have c5 : ∀ u, (F u).cell? ⟨g, o + (t + 1) * 7 + 5, none⟩ = some (.int .i64 x5) := fun u => row_cell (S := shJ) (RA.out _ (grownBy_trans HR.out (HF.out u))) hq (k := 5) rfl
              have c6 : ∀ u, (F u).cell? ⟨g, o + (t + 1) * 7 + 6, none⟩ = some (.int .i64 x6) := fun u => row_cell (S := shJ) (RA.out _ (grownBy_trans HR.out (HF.out u))) hq (k := 6) rfl
              have d0 : ∀ u, (F u).cell? ⟨gj, oj + t * 7, none⟩ = some (.int .i64 x0) := fun u => row_cell (S := shJ) (RJ.out _ (grownBy_trans HR.out (HF.out u))) hqj (k := 0) rfl
              have d1 : ∀ u, (F u).cell? ⟨gj, oj + t * 7 + 1, none⟩ = some (.int .i64 x1) := fun u => row_cell (S := shJ) (RJ.out _ (grownBy_trans HR.out (HF.out u))) hqj (k := 1) rfl
              have d2 : ∀ u, (F u).cell? ⟨gj, oj + t * 7 + 2, none⟩ = some (.int .i64 x2) := fun u => row_cell (S := shJ) (RJ.out _ (grownBy_trans HR.out (HF.out u))) hqj (k := 2) rfl
              have d3 : ∀ u, (F u).cell? ⟨gj, oj + t * 7 + 3, none⟩ = some (.int .i64 x3) := fun u => row_cell (S := shJ) (RJ.out _ (grownBy_trans HR.out (HF.out u))) hqj (k := 3) rfl
              have d4 : ∀ u, (F u).cell? ⟨gj, oj + t * 7 + 4, none⟩ = some (.int .i64 x4) := fun u => row_cell (S := shJ) (RJ.out _ (grownBy_trans HR.out (HF.out u))) hqj (k := 4) rfl
              have d5 : ∀ u, (F u).cell? ⟨gj, oj + t * 7 + 5, none⟩ = some (.int .i64 x5) := fun u => row_cell (S := shJ) (RJ.out _ (grownBy_trans HR.out (HF.out u))) hqj (k := 5) rfl
              have d6 : ∀ u, (F u).cell? ⟨gj, oj + t * 7 + 6, none⟩ = some (.int .i64 x6) := fun u => row_cell (S := shJ) (RJ.out _ (grownBy_trans HR.out (HF.out u))) hqj (k := 6) rfl
              refine wp_region_quiet_in F (by kernel_rfl) (by kernel_rfl) (HRC.out _ (drew_grown _)) ?_
              repeat (go_big_quiet_step (first | fail))
              refine wpQuiet_nil ?_
              intro _ hw1
              obtain ⟨uq, hw2⟩ := hw1
              subst hw2
              have HRn := hide (grownBy_trans HR.out (HF.out uq))
              clear HR c0 c1 c2 c3 c4 c5 c6 d0 d1 d2 d3 d4 d5 d6 HF HRC
              have HR := HRn
              clear HRn
              generalize F uq = w6 at *
              go_upto_region 16 with (first | fail)
              obtain ⟨U, hU, F, HF, HRC⟩ := class_of w6
              have c2 : ∀ u, (F u).cell? ⟨g, o + (t + 1) * 7 + 2, none⟩ = some (.int .i64 x2) := fun u => row_cell (S := shJ) (RA.out _ (grownBy_trans HR.out (HF.out u))) hq (k := 2) rfl
              have d2 : ∀ u, (F u).cell? ⟨B, 2, none⟩ = some (.int .i64 y2) := fun u => blk_cell (HBX.out _ (grownBy_trans HR.out (HF.out u))) 2
              refine wp_region_quiet_in F (by kernel_rfl) (by kernel_rfl) (HRC.out _ (drew_grown _)) ?_
              repeat (go_big_quiet_step (first | fail))
              refine wpQuiet_nil ?_
              intro _ hw1
              obtain ⟨uq, hw2⟩ := hw1
              subst hw2
              have HRn := hide (grownBy_trans HR.out (HF.out uq))
              clear HR c2 d2 HF HRC
              have HR := HRn
              clear HRn
              generalize F uq = w7 at *
              go_wp2
              go_roundw
              case rel => exact ⟨t + 1 + 1, t + 1, 1, by omega, by go_num, by go_num, rfl, HEND, HR⟩
              case measure => simp [intOf]; omega
            · skip
              go_upto_region 12 with (first | fail)
              obtain ⟨U, hU, F, HF, HRC⟩ := class_of wr
              have c0 : ∀ u, (F u).cell? ⟨g, o + (t + 1) * 7, none⟩ = some (.int .i64 x0) := fun u => row_cell (S := shJ) (RA.out _ (grownBy_trans HR.out (HF.out u))) hq (k := 0) rfl
              have c1 : ∀ u, (F u).cell? ⟨g, o + (t + 1) * 7 + 1, none⟩ = some (.int .i64 x1) := fun u => row_cell (S := shJ) (RA.out _ (grownBy_trans HR.out (HF.out u))) hq (k := 1) rfl
              have c2 : ∀ u, (F u).cell? ⟨g, o + (t + 1) * 7 + 2, none⟩ = some (.int .i64 x2) := fun u => row_cell (S := shJ) (RA.out _ (grownBy_trans HR.out (HF.out u))) hq (k := 2) rfl
              have c3 : ∀ u, (F u).cell? ⟨g, o + (t + 1) * 7 + 3, none⟩ = some (.int .i64 x3) := fun u => row_cell (S := shJ) (RA.out _ (grownBy_trans HR.out (HF.out u))) hq (k := 3) rfl
              have c4 : ∀ u, (F u).cell? ⟨g, o + (t + 1) * 7 + 4, none⟩ = some (.int .i64 x4) := fun u => row_cell (S := shJ) (RA.out _ (grownBy_trans HR.out (HF.out u))) hq (k := 4) rfl
              have c5 : ∀ u, (F u).cell? ⟨g, o + (t + 1) * 7 + 5, none⟩ = some (.int .i64 x5) := fun u => row_cell (S := shJ) (RA.out _ (grownBy_trans HR.out (HF.out u))) hq (k := 5) rfl
              have c6 : ∀ u, (F u).cell? ⟨g, o + (t + 1) * 7 + 6, none⟩ = some (.int .i64 x6) := fun u => row_cell (S := shJ) (RA.out _ (grownBy_trans HR.out (HF.out u))) hq (k := 6) rfl
              have d0 : ∀ u, (F u).cell? ⟨B, 0, none⟩ = some (.int .i64 y0) := fun u => blk_cell (HBX.out _ (grownBy_trans HR.out (HF.out u))) 0
              have d1 : ∀ u, (F u).cell? ⟨B, 1, none⟩ = some (.int .i64 y1) := fun u => blk_cell (HBX.out _ (grownBy_trans HR.out (HF.out u))) 1
              have d2 : ∀ u, (F u).cell? ⟨B, 2, none⟩ = some (.int .i64 y2) := fun u => blk_cell (HBX.out _ (grownBy_trans HR.out (HF.out u))) 2
              have d3 : ∀ u, (F u).cell? ⟨B, 3, none⟩ = some (.int .i64 y3) := fun u => blk_cell (HBX.out _ (grownBy_trans HR.out (HF.out u))) 3
              have d4 : ∀ u, (F u).cell? ⟨B, 4, none⟩ = some (.int .i64 y4) := fun u => blk_cell (HBX.out _ (grownBy_trans HR.out (HF.out u))) 4
              have d5 : ∀ u, (F u).cell? ⟨B, 5, none⟩ = some (.int .i64 y5) := fun u => blk_cell (HBX.out _ (grownBy_trans HR.out (HF.out u))) 5
              have d6 : ∀ u, (F u).cell? ⟨B, 6, none⟩ = some (.int .i64 y6) := fun u => blk_cell (HBX.out _ (grownBy_trans HR.out (HF.out u))) 6
              refine wp_region_quiet_in F (by kernel_rfl) (by kernel_rfl) (HRC.out _ (drew_grown _)) ?_
              repeat (go_big_quiet_step (first | fail))
              refine wpQuiet_nil ?_
              intro _ hw1
              obtain ⟨uq, hw2⟩ := hw1
              subst hw2
              have HRn := hide (grownBy_trans HR.out (HF.out uq))
              clear HR c0 c1 c2 c3 c4 c5 c6 d0 d1 d2 d3 d4 d5 d6 HF HRC
              have HR := HRn
              clear HRn
              generalize F uq = w5 at *
              go_upto_region 14 with (first | fail)
              obtain ⟨U, hU, F, HF, HRC⟩ := class_of w5
              have c0 : ∀ u, (F u).cell? ⟨g, o + (t + 1) * 7, none⟩ = some (.int .i64 x0) := fun u => row_cell (S := shJ) (RA.out _ (grownBy_trans HR.out (HF.out u))) hq (k := 0) rfl
              have c1 : ∀ u, (F u).cell? ⟨g, o + (t + 1) * 7 + 1, none⟩ = some (.int .i64 x1) := fun u => row_cell (S := shJ) (RA.out _ (grownBy_trans HR.out (HF.out u))) hq (k := 1) rfl
              have c2 : ∀ u, (F u).cell? ⟨g, o + (t + 1) * 7 + 2, none⟩ = some (.int .i64 x2) := fun u => row_cell (S := shJ) (RA.out _ (grownBy_trans HR.out (HF.out u))) hq (k := 2) rfl
              have c3 : ∀ u, (F u).cell? ⟨g, o + (t + 1) * 7 + 3, none⟩ = some (.int .i64 x3) := fun u => row_cell (S := shJ) (RA.out _ (grownBy_trans HR.out (HF.out u))) hq (k := 3) rfl
              have c4 : ∀ u, (F u).cell? ⟨g, o + (t + 1) * 7 + 4, none⟩ = some (.int .i64 x4) := fun u => row_cell (S := shJ) (RA.out _ (grownBy_trans HR.out (HF.out u))) hq (k := 4) rfl
              have c5 : ∀ u, (F u).cell? ⟨g, o + (t + 1) * 7 + 5, none⟩ = some (.int .i64 x5) := fun u => row_cell (S := shJ) (RA.out _ (grownBy_trans HR.out (HF.out u))) hq (k := 5) rfl
              have c6 : ∀ u, (F u).cell? ⟨g, o + (t + 1) * 7 + 6, none⟩ = some (.int .i64 x6) := fun u => row_cell (S := shJ) (RA.out _ (grownBy_trans HR.out (HF.out u))) hq (k := 6) rfl
              have d0 : ∀ u, (F u).cell? ⟨gj, oj + t * 7, none⟩ = some (.int .i64 x0) := fun u => row_cell (S := shJ) (RJ.out _ (grownBy_trans HR.out (HF.out u))) hqj (k := 0) rfl
              have d1 : ∀ u, (F u).cell? ⟨gj, oj + t * 7 + 1, none⟩ = some (.int .i64 x1) := fun u => row_cell (S := shJ) (RJ.out _ (grownBy_trans HR.out (HF.out u))) hqj (k := 1) rfl
              have d2 : ∀ u, (F u).cell? ⟨gj, oj + t * 7 + 2, none⟩ = some (.int .i64 x2) := fun u => row_cell (S := shJ) (RJ.out _ (grownBy_trans HR.out (HF.out u))) hqj (k := 2) rfl
              have d3 : ∀ u, (F u).cell? ⟨gj, oj + t * 7 + 3, none⟩ = some (.int .i64 x3) := fun u => row_cell (S := shJ) (RJ.out _ (grownBy_trans HR.out (HF.out u))) hqj (k := 3) rfl
              have d4 : ∀ u, (F u).cell? ⟨gj, oj + t * 7 + 4, none⟩ = some (.int .i64 x4) := fun u => row_cell (S := shJ) (RJ.out _ (grownBy_trans HR.out (HF.out u))) hqj (k := 4) rfl
              have d5 : ∀ u, (F u).cell? ⟨gj, oj + t * 7 + 5, none⟩ = some (.int .i64 x5) := fun u => row_cell (S := shJ) (RJ.out _ (grownBy_trans HR.out (HF.out u))) hqj (k := 5) rfl
              have d6 : ∀ u, (F u).cell? ⟨gj, oj + t * 7 + 6, none⟩ = some (.int .i64 x6) := fun u => row_cell (S := shJ) (RJ.out _ (grownBy_trans HR.out (HF.out u))) hqj (k := 6) rfl
              refine wp_region_quiet_in F (by kernel_rfl) (by kernel_rfl) (HRC.out _ (drew_grown _)) ?_
              repeat (go_big_quiet_step (first | fail))
              refine wpQuiet_nil ?_
              intro _ hw1
              obtain ⟨uq, hw2⟩ := hw1
              subst hw2
              have HRn := hide (grownBy_trans HR.out (HF.out uq))
              clear HR c0 c1 c2 c3 c4 c5 c6 d0 d1 d2 d3 d4 d5 d6 HF HRC
              have HR := HRn
              clear HRn
              generalize F uq = w6 at *
              go_upto_region 16 with (first | fail)
              obtain ⟨U, hU, F, HF, HRC⟩ := class_of w6
              have c2 : ∀ u, (F u).cell? ⟨g, o + (t + 1) * 7 + 2, none⟩ = some (.int .i64 x2) := fun u => row_cell (S := shJ) (RA.out _ (grownBy_trans HR.out (HF.out u))) hq (k := 2) rfl
              have d2 : ∀ u, (F u).cell? ⟨B, 2, none⟩ = some (.int .i64 y2) := fun u => blk_cell (HBX.out _ (grownBy_trans HR.out (HF.out u))) 2
              refine wp_region_quiet_in F (by kernel_rfl) (by kernel_rfl) (HRC.out _ (drew_grown _)) ?_
              repeat (go_big_quiet_step (first | fail))
              refine wpQuiet_nil ?_
              intro _ hw1
              obtain ⟨uq, hw2⟩ := hw1
              subst hw2
              have HRn := hide (grownBy_trans HR.out (HF.out uq))
              clear HR c2 d2 HF HRC
              have HR := HRn
              clear HRn
              generalize F uq = w7 at *
              go_wp2
              go_roundw
              case rel => exact ⟨t + 1 + 1, t + 1, 1, by omega, by go_num, by go_num, rfl, HEND, HR⟩
              case measure => simp [intOf]; omega
            · skip
              go_upto_region 12 with (first | fail)
              obtain ⟨U, hU, F, HF, HRC⟩ := class_of wr
              have c0 : ∀ u, (F u).cell? ⟨g, o + (t + 1) * 7, none⟩ = some (.int .i64 x0) := fun u => row_cell (S := shJ) (RA.out _ (grownBy_trans HR.out (HF.out u))) hq (k := 0) rfl
              have c1 : ∀ u, (F u).cell? ⟨g, o + (t + 1) * 7 + 1, none⟩ = some (.int .i64 x1) := fun u => row_cell (S := shJ) (RA.out _ (grownBy_trans HR.out (HF.out u))) hq (k := 1) rfl
              have c2 : ∀ u, (F u).cell? ⟨g, o + (t + 1) * 7 + 2, none⟩ = some (.int .i64 x2) := fun u => row_cell (S := shJ) (RA.out _ (grownBy_trans HR.out (HF.out u))) hq (k := 2) rfl
              have c3 : ∀ u, (F u).cell? ⟨g, o + (t + 1) * 7 + 3, none⟩ = some (.int .i64 x3) := fun u => row_cell (S := shJ) (RA.out _ (grownBy_trans HR.out (HF.out u))) hq (k := 3) rfl
              have c4 : ∀ u, (F u).cell? ⟨g, o + (t + 1) * 7 + 4, none⟩ = some (.int .i64 x4) := fun u => row_cell (S := shJ) (RA.out _ (grownBy_trans HR.out (HF.out u))) hq (k := 4) rfl
              have c5 : ∀ u, (F u).cell? ⟨g, o + (t + 1) * 7 + 5, none⟩ = some (.int .i64 x5) := fun u => row_cell (S := shJ) (RA.out _ (grownBy_trans HR.out (HF.out u))) hq (k := 5) rfl
              have c6 : ∀ u, (F u).cell? ⟨g, o + (t + 1) * 7 + 6, none⟩ = some (.int .i64 x6) := fun u => row_cell (S := shJ) (RA.out _ (grownBy_trans HR.out (HF.out u))) hq (k := 6) rfl
              have d0 : ∀ u, (F u).cell? ⟨B, 0, none⟩ = some (.int .i64 y0) := fun u => blk_cell (HBX.out _ (grownBy_trans HR.out (HF.out u))) 0
              have d1 : ∀ u, (F u).cell? ⟨B, 1, none⟩ = some (.int .i64 y1) := fun u => blk_cell (HBX.out _ (grownBy_trans HR.out (HF.out u))) 1
              have d2 : ∀ u, (F u).cell? ⟨B, 2, none⟩ = some (.int .i64 y2) := fun u => blk_cell (HBX.out _ (grownBy_trans HR.out (HF.out u))) 2
              have d3 : ∀ u, (F u).cell? ⟨B, 3, none⟩ = some (.int .i64 y3) := fun u => blk_cell (HBX.out _ (grownBy_trans HR.out (HF.out u))) 3
              have d4 : ∀ u, (F u).cell? ⟨B, 4, none⟩ = some (.int .i64 y4) := fun u => blk_cell (HBX.out _ (grownBy_trans HR.out (HF.out u))) 4
              have d5 : ∀ u, (F u).cell? ⟨B, 5, none⟩ = some (.int .i64 y5) := fun u => blk_cell (HBX.out _ (grownBy_trans HR.out (HF.out u))) 5
              have d6 : ∀ u, (F u).cell? ⟨B, 6, none⟩ = some (.int .i64 y6) := fun u => blk_cell (HBX.out _ (grownBy_trans HR.out (HF.out u))) 6
              refine wp_region_quiet_in F (by kernel_rfl) (by kernel_rfl) (HRC.out _ (drew_grown _)) ?_
              repeat (go_big_quiet_step (first | fail))
              refine wpQuiet_nil ?_
              intro _ hw1
              obtain ⟨uq, hw2⟩ := hw1
              subst hw2
              have HRn := hide (grownBy_trans HR.out (HF.out uq))
              clear HR c0 c1 c2 c3 c4 c5 c6 d0 d1 d2 d3 d4 d5 d6 HF HRC
              have HR := HRn
              clear HRn
              generalize F uq = w5 at *
              go_upto_region 14 with (first | fail)
              obtain ⟨U, hU, F, HF, HRC⟩ := class_of w5
              have c0 : ∀ u, (F u).cell? ⟨g, o + (t + 1) * 7, none⟩ = some (.int .i64 x0) := fun u => row_cell (S := shJ) (RA.out _ (grownBy_trans HR.out (HF.out u))) hq (k := 0) rfl
              have c1 : ∀ u, (F u).cell? ⟨g, o + (t + 1) * 7 + 1, none⟩ = some (.int .i64 x1) := fun u => row_cell (S := shJ) (RA.out _ (grownBy_trans HR.out (HF.out u))) hq (k := 1) rfl
              have c2 : ∀ u, (F u).cell? ⟨g, o + (t + 1) * 7 + 2, none⟩ = some (.int .i64 x2) := fun u => row_cell (S := shJ) (RA.out _ (grownBy_trans HR.out (HF.out u))) hq (k := 2) rfl
              have c3 : ∀ u, (F u).cell? ⟨g, o + (t + 1) * 7 + 3, none⟩ = some (.int .i64 x3) := fun u => row_cell (S := shJ) (RA.out _ (grownBy_trans HR.out (HF.out u))) hq (k := 3) rfl
              have c4 : ∀ u, (F u).cell? ⟨g, o + (t + 1) * 7 + 4, none⟩ = some (.int .i64 x4) := fun u => row_cell (S := shJ) (RA.out _ (grownBy_trans HR.out (HF.out u))) hq (k := 4) rfl
              have c5 : ∀ u, (F u).cell? ⟨g, o + (t + 1) * 7 + 5, none⟩ = some (.int .i64 x5) := fun u => row_cell (S := shJ) (RA.out _ (grownBy_trans HR.out (HF.out u))) hq (k := 5) rfl
              have c6 : ∀ u, (F u).cell? ⟨g, o + (t + 1) * 7 + 6, none⟩ = some (.int .i64 x6) := fun u => row_cell (S := shJ) (RA.out _ (grownBy_trans HR.out (HF.out u))) hq (k := 6) rfl
              have d0 : ∀ u, (F u).cell? ⟨gj, oj + t * 7, none⟩ = some (.int .i64 x0) := fun u => row_cell (S := shJ) (RJ.out _ (grownBy_trans HR.out (HF.out u))) hqj (k := 0) rfl
              have d1 : ∀ u, (F u).cell? ⟨gj, oj + t * 7 + 1, none⟩ = some (.int .i64 x1) := fun u => row_cell (S := shJ) (RJ.out _ (grownBy_trans HR.out (HF.out u))) hqj (k := 1) rfl
              have d2 : ∀ u, (F u).cell? ⟨gj, oj + t * 7 + 2, none⟩ = some (.int .i64 x2) := fun u => row_cell (S := shJ) (RJ.out _ (grownBy_trans HR.out (HF.out u))) hqj (k := 2) rfl
              have d3 : ∀ u, (F u).cell? ⟨gj, oj + t * 7 + 3, none⟩ = some (.int .i64 x3) := fun u => row_cell (S := shJ) (RJ.out _ (grownBy_trans HR.out (HF.out u))) hqj (k := 3) rfl
              have d4 : ∀ u, (F u).cell? ⟨gj, oj + t * 7 + 4, none⟩ = some (.int .i64 x4) := fun u => row_cell (S := shJ) (RJ.out _ (grownBy_trans HR.out (HF.out u))) hqj (k := 4) rfl
              have d5 : ∀ u, (F u).cell? ⟨gj, oj + t * 7 + 5, none⟩ = some (.int .i64 x5) := fun u => row_cell (S := shJ) (RJ.out _ (grownBy_trans HR.out (HF.out u))) hqj (k := 5) rfl
              have d6 : ∀ u, (F u).cell? ⟨gj, oj + t * 7 + 6, none⟩ = some (.int .i64 x6) := fun u => row_cell (S := shJ) (RJ.out _ (grownBy_trans HR.out (HF.out u))) hqj (k := 6) rfl
              refine wp_region_quiet_in F (by kernel_rfl) (by kernel_rfl) (HRC.out _ (drew_grown _)) ?_
              repeat (go_big_quiet_step (first | fail))
              refine wpQuiet_nil ?_
              intro _ hw1
              obtain ⟨uq, hw2⟩ := hw1
              subst hw2
              have HRn := hide (grownBy_trans HR.out (HF.out uq))
              clear HR c0 c1 c2 c3 c4 c5 c6 d0 d1 d2 d3 d4 d5 d6 HF HRC
              have HR := HRn
              clear HRn
              generalize F uq = w6 at *
              go_upto_region 16 with (first | fail)
              obtain ⟨U, hU, F, HF, HRC⟩ := class_of w6
              have c2 : ∀ u, (F u).cell? ⟨g, o + (t + 1) * 7 + 2, none⟩ = some (.int .i64 x2) := fun u => row_cell (S := shJ) (RA.out _ (grownBy_trans HR.out (HF.out u))) hq (k := 2) rfl
              have d2 : ∀ u, (F u).cell? ⟨B, 2, none⟩ = some (.int .i64 y2) := fun u => blk_cell (HBX.out _ (grownBy_trans HR.out (HF.out u))) 2
              refine wp_region_quiet_in F (by kernel_rfl) (by kernel_rfl) (HRC.out _ (drew_grown _)) ?_
              repeat (go_big_quiet_step (first | fail))
              refine wpQuiet_nil ?_
              intro _ hw1
              obtain ⟨uq, hw2⟩ := hw1
              subst hw2
              have HRn := hide (grownBy_trans HR.out (HF.out uq))
              clear HR c2 d2 HF HRC
              have HR := HRn
              clear HRn
              generalize F uq = w7 at *
              go_wp2
              go_roundw
              case rel => exact ⟨t + 1 + 1, t + 1, 1, by omega, by go_num, by go_num, rfl, HEND, HR⟩
              case measure => simp [intOf]; omega
      · obtain rfl : k = M := by omega
        obtain ⟨ht, hs⟩ : t + 1 = k ∧ s = 1 := by rcases HP.out with h | h <;> (have := HPL.out; have := HM.out; omega)
        subst hs
        obtain ⟨g, o, rfl⟩ := row_addr (RA.out wr HR.out) (by omega)
        have hq := HMP.out 0 (by omega)
        generalize jobAt PL 0 = X at *
        obtain ⟨x0, x1, x2, x3, x4, x5, x6⟩ := X
        dsimp only [jobVal] at CF
        clear HP hlt
        go_wp2_with (first | fail)
        refine (CF.out _ HR.out).mono ?_; rintro e w8 ⟨rfl, hg⟩
        have HRn := hide (grownBy_trans HR.out hg)
        clear hg CF HR
        have HR := HRn
        clear HRn
        go_upto_region 20 with (first | fail)
        have HX := hide (heap_alloc_new w8 (.cells #[.int .i64 x0, .int .i64 x1, .int .i64 x2, .int .i64 x3, .int .i64 x4, .int .i64 x5, .int .i64 x6] 24))
        have HRn := hide (grownBy_trans HR.out (World.grownBy_alloc w8 (.cells #[.int .i64 x0, .int .i64 x1, .int .i64 x2, .int .i64 x3, .int .i64 x4, .int .i64 x5, .int .i64 x6] 24) none))
        generalize w8.alloc (.cells #[.int .i64 x0, .int .i64 x1, .int .i64 x2, .int .i64 x3, .int .i64 x4, .int .i64 x5, .int .i64 x6] 24) = w9 at *
        generalize w8.heap.size = BX at *
        clear HR
        have HR := HRn
        clear HRn
        obtain ⟨U, hU, F, HF, HRC⟩ := class_of w9
        have c0 : ∀ u, (F u).cell? ⟨g, o, none⟩ = some (.int .i64 x0) := fun u => by have := row_cell (S := shJ) (RA.out _ (grownBy_trans HR.out (HF.out u))) hq (k := 0) rfl; simpa using this
        have c1 : ∀ u, (F u).cell? ⟨g, o + 1, none⟩ = some (.int .i64 x1) := fun u => by have := row_cell (S := shJ) (RA.out _ (grownBy_trans HR.out (HF.out u))) hq (k := 1) rfl; simpa using this
        have c2 : ∀ u, (F u).cell? ⟨g, o + 2, none⟩ = some (.int .i64 x2) := fun u => by have := row_cell (S := shJ) (RA.out _ (grownBy_trans HR.out (HF.out u))) hq (k := 2) rfl; simpa using this
        have c3 : ∀ u, (F u).cell? ⟨g, o + 3, none⟩ = some (.int .i64 x3) := fun u => by have := row_cell (S := shJ) (RA.out _ (grownBy_trans HR.out (HF.out u))) hq (k := 3) rfl; simpa using this
        have c4 : ∀ u, (F u).cell? ⟨g, o + 4, none⟩ = some (.int .i64 x4) := fun u => by have := row_cell (S := shJ) (RA.out _ (grownBy_trans HR.out (HF.out u))) hq (k := 4) rfl; simpa using this
        have c5 : ∀ u, (F u).cell? ⟨g, o + 5, none⟩ = some (.int .i64 x5) := fun u => by have := row_cell (S := shJ) (RA.out _ (grownBy_trans HR.out (HF.out u))) hq (k := 5) rfl; simpa using this
        have c6 : ∀ u, (F u).cell? ⟨g, o + 6, none⟩ = some (.int .i64 x6) := fun u => by have := row_cell (S := shJ) (RA.out _ (grownBy_trans HR.out (HF.out u))) hq (k := 6) rfl; simpa using this
        have d0 : ∀ u, (F u).cell? ⟨BX, 0, none⟩ = some (.int .i64 x0) := fun u => blk_cell (box_grown HX.out (HF.out u) (by simp)) 0
        have d1 : ∀ u, (F u).cell? ⟨BX, 1, none⟩ = some (.int .i64 x1) := fun u => blk_cell (box_grown HX.out (HF.out u) (by simp)) 1
        have d2 : ∀ u, (F u).cell? ⟨BX, 2, none⟩ = some (.int .i64 x2) := fun u => blk_cell (box_grown HX.out (HF.out u) (by simp)) 2
        have d3 : ∀ u, (F u).cell? ⟨BX, 3, none⟩ = some (.int .i64 x3) := fun u => blk_cell (box_grown HX.out (HF.out u) (by simp)) 3
        have d4 : ∀ u, (F u).cell? ⟨BX, 4, none⟩ = some (.int .i64 x4) := fun u => blk_cell (box_grown HX.out (HF.out u) (by simp)) 4
        have d5 : ∀ u, (F u).cell? ⟨BX, 5, none⟩ = some (.int .i64 x5) := fun u => blk_cell (box_grown HX.out (HF.out u) (by simp)) 5
        have d6 : ∀ u, (F u).cell? ⟨BX, 6, none⟩ = some (.int .i64 x6) := fun u => blk_cell (box_grown HX.out (HF.out u) (by simp)) 6
        refine wp_region_quiet_in F (by kernel_rfl) (by kernel_rfl) (HRC.out _ (drew_grown _)) ?_
        repeat (go_big_quiet_step (first | fail))
        refine wpQuiet_nil ?_
        intro _ hw1
        obtain ⟨uq, hw2⟩ := hw1
        subst hw2
        have HRn := hide (grownBy_trans HR.out (HF.out uq))
        clear HR c0 c1 c2 c3 c4 c5 c6 d0 d1 d2 d3 d4 d5 d6 HF HRC
        have HR := HRn
        clear HRn
        generalize F uq = w10 at *
        go_wp2
        go_ret
        exact ⟨rfl, grownBy_trans HG.out HR.out⟩
  · have h : okB js ⟨y0, y1, y2, y3, y4, y5, y6⟩ = false ∨ N = 16 := by
      cases h1 : okB js ⟨y0, y1, y2, y3, y4, y5, y6⟩ with
      | false => exact .inl rfl
      | true => right; by_cases h2 : N = 16
                · exact h2
                · exact absurd ⟨h1, h2⟩ hok
    have e1 := HE1.out h
    have e2 := HE2.out h
    rw [e1]
    dsimp only [List.length_nil]
    clear h hok e1 HE1 HE2 HE3 HE4
    generalize putE js ⟨y0, y1, y2, y3, y4, y5, y6⟩ = E at *
    go_wp2_with (first | (go_at_call 16; refine (NUM.out _ _).mono ?_; rintro e wn ⟨rfl, rfl⟩) | fail)
    go_ret
    exact ⟨rfl, HG.out⟩
#print axioms place_law
end Go.Proofs.Ytebiifcifcefoaa
