/- The walk of the statement StepSums: words added and taken away again are as they were, loads are what was stored; proved over the translation. -/
import Derived.Test.YthdpdnibgmjdaaaDoorVmbox
namespace Go.Proofs.YthdpdnibgmjdaaaDoor
open Go.RowKit
attribute [local go_sem] alloc_drewN setCell_drewN

def sumP (K K1 : Nat) : List Ins := [(4, K), (5, K), (3, K1), (1, 0), (2, K1)]
def sumM (K : Nat) (B : Int) : Nat → Int := upd (fun _ => 0) K B
/-- The machine behind so many steps. -/
def seqS (A B : Int) (K K1 : Nat) (j : Nat) : VmS :=
  match j with
  | 0 => ⟨0, A, sumM K B⟩
  | 1 => ⟨1, (A + B) % 4294967296, sumM K B⟩
  | 2 => ⟨2, A, sumM K B⟩
  | 3 => ⟨3, A, upd (sumM K B) K1 A⟩
  | 4 => ⟨4, 0, upd (sumM K B) K1 A⟩
  | _ => ⟨0, A, upd (sumM K B) K1 A⟩

theorem sum_code {K K1 : Nat} (hK : K < 16) (hK1 : K1 < 16) : codeMay (sumP K K1) = true := by
  simp [codeMay, sumP, insMay, isOpB, most, opBelow]
  omega
theorem sum_mem {B : Int} {K : Nat} (hB0 : 0 ≤ B) (hB1 : B < 4294967296) : ∀ i, isW (sumM K B i) = true := upd_in (fun _ => rfl) (isW_mk hB0 hB1)
theorem sum_mem2 {A B : Int} {K K1 : Nat} (hA0 : 0 ≤ A) (hA1 : A < 4294967296) (hB0 : 0 ≤ B) (hB1 : B < 4294967296) : ∀ i, isW (upd (sumM K B) K1 A i) = true := upd_in (sum_mem hB0 hB1) (isW_mk hA0 hA1)
theorem sum_step {A B : Int} {K K1 : Nat} (hA0 : 0 ≤ A) (hA1 : A < 4294967296) (hB0 : 0 ≤ B) (hB1 : B < 4294967296) (hK : K < 16) (hK1 : K1 < 16) (j : Nat) (hj : j < 5) : stepAns (sumP K K1) (seqS A B K K1 j) 0 0 [] = (seqS A B K K1 (j + 1), quietE, 0) := by
  have hc := sum_code (K := K) (K1 := K1) hK hK1
  have h1 := sum_mem (K := K) hB0 hB1
  have h2 := sum_mem2 (K := K) (K1 := K1) hA0 hA1 hB0 hB1
  have hmK : sumM K B K = B := upd_same _ _ _
  have : j = 0 ∨ j = 1 ∨ j = 2 ∨ j = 3 ∨ j = 4 := by omega
  rcases this with rfl | rfl | rfl | rfl | rfl
  · rw [step_ok 0 4 K (stepMay_of hc (vmMay_of (by simp [seqS]) (by simp only [seqS, sumP, List.length_cons, List.length_nil]; omega) (isW_mk hA0 hA1) h1) rfl (by decide) (by decide) rfl) rfl (by simp [sumP]) (by simp [insN, sumP])]
    simp [doS, seqS, sumP, hmK]
  · rw [step_ok 1 5 K (stepMay_of hc (vmMay_of (by simp [seqS]) (by simp only [seqS, sumP, List.length_cons, List.length_nil]; omega) (isW_mk (by simp only [seqS]; omega) (by simp only [seqS]; omega)) h1) rfl (by decide) (by decide) rfl) rfl (by simp [sumP]) (by simp [insN, sumP])]
    simp only [doS, seqS, sumP, hmK, List.length_cons, List.length_nil]
    refine Prod.ext ?_ rfl
    refine congrArg (fun x => (⟨2, x, sumM K B⟩ : VmS)) ?_
    omega
  · rw [step_ok 2 3 K1 (stepMay_of hc (vmMay_of (by simp [seqS]) (by simp only [seqS, sumP, List.length_cons, List.length_nil]; omega) (isW_mk hA0 hA1) h1) rfl (by decide) (by decide) rfl) rfl (by simp [sumP]) (by simp [insN, sumP])]
    simp [doS, seqS, sumP]
  · rw [step_ok 3 1 0 (stepMay_of hc (vmMay_of (by simp [seqS]) (by simp only [seqS, sumP, List.length_cons, List.length_nil]; omega) (isW_mk hA0 hA1) h2) rfl (by decide) (by decide) rfl) rfl (by simp [sumP]) (by simp [insN, sumP])]
    simp [doS, seqS, sumP]
  · rw [step_ok 4 2 K1 (stepMay_of hc (vmMay_of (by simp [seqS]) (by simp only [seqS, sumP, List.length_cons, List.length_nil]; omega) rfl h2) rfl (by decide) (by decide) rfl) rfl (by simp [sumP]) (by simp [insN, sumP])]
    simp [doS, seqS, sumP, upd_same]
theorem seq_pc (A B : Int) (K K1 j : Nat) (hj : j < 5) : ((j : Int) + 1).tmod 5 = (seqS A B K K1 (j + 1)).pc := by
  have : j = 0 ∨ j = 1 ∨ j = 2 ∨ j = 3 ∨ j = 4 := by omega
  rcases this with rfl | rfl | rfl | rfl | rfl <;> rfl

set_option maxRecDepth 100000 in
set_option maxHeartbeats 40000000 in
theorem stepSums_any (x y z : Int) (w : World) (hT : Tab w) :
    Calls Tryd.prog 5 #[.int .i64 x, .int .i64 y, .int .i64 z] w fun e w' => e = .returned (.bool true) ∧ w.grownBy w' none := by
  obtain ⟨A, hA⟩ : ∃ A, bits .and .i64 x 4294967295 = A := ⟨_, rfl⟩
  obtain ⟨B, hB⟩ : ∃ B, bits .and .i64 y 4294967295 = B := ⟨_, rfl⟩
  obtain ⟨K, hK, hk⟩ := and4 z
  obtain ⟨K1, hK1, hk1⟩ := and4 ((K : Int) + 1)
  have hA' := and_low x 32 (by decide) 4294967295 (by decide)
  have hB' := and_low y 32 (by decide) 4294967295 (by decide)
  have hA2 : A = x % 4294967296 := hA.symm.trans hA'
  have hB2 : B = y % 4294967296 := hB.symm.trans hB'
  have hA0 : 0 ≤ A := by omega
  have hA1 : A < 4294967296 := by omega
  have hB0 : 0 ≤ B := by omega
  have hB1 : B < 4294967296 := by omega
  have hne : K1 ≠ K := by
    have h2 := and_low ((K : Int) + 1) 4 (by decide) 15 (by decide)
    rw [hk1] at h2
    omega
  obtain ⟨S, hS⟩ : ∃ S, (A + B) % 4294967296 = S := ⟨_, rfl⟩
  have hS1 : bits .and .i64 (A + B) 4294967295 = S := (and_low (A + B) 32 (by decide) 4294967295 (by decide)).trans hS
  have HSEQ := hide (fun j hj => sum_step hA0 hA1 hB0 hB1 (Nat.lt_succ_of_le hK) (Nat.lt_succ_of_le hK1) j hj)
  have HPC := hide (seq_pc A B K K1)
  have HS := hide hS
  have HNE := hide hne
  clear hA' hB' hA2 hB2 hS hne
  have NUM := hide num_to
  have HT0 := hide hT
  clear hT
  go_enter Tryd.func5, Tryd.ntmps5
  go_wp2_with (first | fail)
  refine (awake_any w HT0.out).mono ?_; rintro e w1 ⟨rfl, hg⟩
  have HW1 := hide hg
  clear hg
  go_upto_region 5 with fail
  have hp0 : PReads (w1.alloc (.cells #[.int .i64 4, .int .i64 (K : Int), .int .i64 5, .int .i64 (K : Int), .int .i64 3, .int .i64 (K1 : Int), .int .i64 1, .int .i64 0, .int .i64 2, .int .i64 (K1 : Int)] 43)) (.slice (some ⟨w1.heap.size, 0, none⟩) 5 5) (sumP K K1) := preads_row (lo := w1.heap.size) (rowAt_lit w1 (sumP K K1) 43 (by simp [sumP]))
  have HP0 := hide hp0
  have HWb := hide (grownBy_trans HW1.out (World.grownBy_alloc w1 (.cells #[.int .i64 4, .int .i64 (K : Int), .int .i64 5, .int .i64 (K : Int), .int .i64 3, .int .i64 (K1 : Int), .int .i64 1, .int .i64 0, .int .i64 2, .int .i64 (K1 : Int)] 43) none))
  clear hp0
  generalize hwb : w1.alloc (.cells #[.int .i64 4, .int .i64 (K : Int), .int .i64 5, .int .i64 (K : Int), .int .i64 3, .int .i64 (K1 : Int), .int .i64 1, .int .i64 0, .int .i64 2, .int .i64 (K1 : Int)] 43) = wb at *
  clear hwb
  have CS := hide (fun j (hj : j < 5) W (hg : wb.grownBy W none) => step_at (lo := 0) (.slice (some ⟨w1.heap.size, 0, none⟩) 5 5) (sumP K K1) (seqS A B K K1 j) 0 0 (.slice none 0 0) [] (HSEQ.out j hj) W (by simp [sumP]) (HT0.out.grown (grownBy_trans HWb.out hg)) (HP0.out.grown hg) (rowAt_nil _ _ _ _))
  clear HP0 HSEQ
  go_upto_region 6 with ((with_reducible refine list_store 25 (.tmp 11) (.tmp 40) (wb.heap.size) #[.int .i64 0, .int .i64 A, .int .i64 0, .int .i64 0, .int .i64 0, .int .i64 0, .int .i64 0, .int .i64 0, .int .i64 0, .int .i64 0, .int .i64 0, .int .i64 0, .int .i64 0, .int .i64 0, .int .i64 0, .int .i64 0, .int .i64 0, .int .i64 0] 25 #[.int .i64 0, .int .i64 0, .int .i64 0, .int .i64 0, .int .i64 0, .int .i64 0, .int .i64 0, .int .i64 0, .int .i64 0, .int .i64 0, .int .i64 0, .int .i64 0, .int .i64 0, .int .i64 0, .int .i64 0, .int .i64 0, .int .i64 0, .int .i64 0] ?hx ?hy ?hg ?hi ?ho ?h1 ?_); (case hx => rfl); (case hy => rfl); (case hg => exact World.heap_alloc_new _ _); (case hi => exact sizeVm); (case ho => rfl); (case h1 => simp [Value.oneCell']); intro w2 h1 e1 g1; have HV := hide h1; have HGa := hide (grown_spoil (World.grownBy_alloc wb _ none) (Nat.le_refl _) g1); clear h1 e1 g1)
  have b0 : w2.cell? ⟨wb.heap.size, 2 + K, none⟩ = some (.int .i64 0) := vm_word (v := ⟨0, A, fun _ => 0⟩) HV.out K (by omega)
  have b1 := blk_free HV.out (2 + K)
  have HV2 := hide (vm_store (pc := 0) (acc := A) (m := fun _ => 0) HV.out K (by omega) B)
  have HG2 := hide (grown_set_new (R := wb.heap.size) (j := 2 + K) (u := .int .i64 B) (Nat.le_refl _) HGa.out)
  go_upto_region 7 with fail
  generalize hw3 : w2.setCell ⟨wb.heap.size, 2 + K, none⟩ (.int .i64 B) = w3 at *
  clear hw3 b0 b1 HV
  go_wp2
  go_loopw [12, 13, 14, 15, 16] (fun s i _ _ _ W => ∃ (j : Nat), j ≤ 5 ∧ i = .int .i64 j ∧ (∃ sv, s = .int .i64 sv ∧ Hid (0 < j → sv = S)) ∧ Hid (W.heap[wb.heap.size]? = some (.cells (vmC (seqS A B K K1 j)) 25 (0, 0))) ∧ Hid (wb.grownBy W none)) (fun _ i _ _ _ _ => 5 - (intOf i).toNat)
  case atStart => exact ⟨0, by omega, rfl, ⟨0, rfl, fun h => absurd h (Nat.lt_irrefl _)⟩, HV2.out, HG2.out⟩
  case round =>
    obtain ⟨j, hj, rfl, ⟨sv, rfl, HSV⟩, HB, HG⟩ := hrel
    by_cases hlt : j < 5
    · rcases Nat.eq_zero_or_pos j with rfl | hpos
      · have C := hide (CS.out 0 (by omega) wr HG.out)
        have HV' : Hid (seqS A B K K1 (0 + 1) = ⟨1, S, sumM K B⟩) := by show (⟨1, (A + B) % 4294967296, sumM K B⟩ : VmS) = _; rw [HS.out]
        rw [HV'.out, show seqS A B K K1 0 = ⟨0, A, sumM K B⟩ from rfl] at C
        rw [show seqS A B K K1 0 = ⟨0, A, sumM K B⟩ from rfl] at HB
        generalize sumM K B = m0 at *
        dsimp only [vmV, vmC, efV, quietE] at C HB
        go_wp2_with (first | ((with_reducible refine list_load 25 (.tmp 11) (wb.heap.size) 25 #[.int .i64 0, .int .i64 A, .int .i64 (m0 0), .int .i64 (m0 1), .int .i64 (m0 2), .int .i64 (m0 3), .int .i64 (m0 4), .int .i64 (m0 5), .int .i64 (m0 6), .int .i64 (m0 7), .int .i64 (m0 8), .int .i64 (m0 9), .int .i64 (m0 10), .int .i64 (m0 11), .int .i64 (m0 12), .int .i64 (m0 13), .int .i64 (m0 14), .int .i64 (m0 15)] (0, 0) _ ?hw ?hx ?hg Tryd.underlying25 ?hd ?hi ?_); (case hw => kernel_rfl); (case hx => rfl); (case hg => exact HB.out); (case hd => rfl); (case hi => exact sizeVm)) | fail)
        refine C.out.mono ?_; rintro e w4 ⟨rfl, hg⟩
        have HB4 := hide (box_grown HB.out hg (by simp))
        have HG4 := hide (grownBy_trans HG.out hg)
        have hle : wb.heap.size < w4.heap.size := box_lt HB4.out
        clear hg C HB HG
        go_wp2_with (first | ((with_reducible refine list_store 25 (.tmp 14) (.tmp 53) (w4.heap.size) #[.int .i64 1, .int .i64 S, .int .i64 (m0 0), .int .i64 (m0 1), .int .i64 (m0 2), .int .i64 (m0 3), .int .i64 (m0 4), .int .i64 (m0 5), .int .i64 (m0 6), .int .i64 (m0 7), .int .i64 (m0 8), .int .i64 (m0 9), .int .i64 (m0 10), .int .i64 (m0 11), .int .i64 (m0 12), .int .i64 (m0 13), .int .i64 (m0 14), .int .i64 (m0 15)] 25 #[.int .i64 0, .int .i64 0, .int .i64 0, .int .i64 0, .int .i64 0, .int .i64 0, .int .i64 0, .int .i64 0, .int .i64 0, .int .i64 0, .int .i64 0, .int .i64 0, .int .i64 0, .int .i64 0, .int .i64 0, .int .i64 0, .int .i64 0, .int .i64 0] ?hx ?hy ?hg ?hi ?ho ?h1 ?_); (case hx => rfl); (case hy => rfl); (case hg => exact box_grown (World.heap_alloc_new _ _) (World.grownBy_alloc _ _ none) (by simp)); (case hi => exact sizeVm); (case ho => rfl); (case h1 => simp [Value.oneCell']); intro w5 h1 e1 g1; have HA := hide h1; have HE := hide ((e1 (w4.heap.size + 1) (by omega)).trans (alloc_next _ _ _)); have HN := hide (grown_spoil (grownBy_trans (World.grownBy_alloc w4 _ none) (World.grownBy_alloc _ _ none)) (Nat.le_refl _) g1); clear h1 e1 g1) | ((with_reducible refine list_store 30 (.tmp 15) (.tmp 54) (w4.heap.size + 1) #[.bool false, .int .i64 (-1), .int .i64 (-1), .int .i64 0, .bool false] 30 #[.bool false, .int .i64 0, .int .i64 0, .int .i64 0, .bool false] ?hx ?hy ?hg ?hi ?ho ?h1 ?_); (case hx => rfl); (case hy => rfl); (case hg => exact HE.out); (case hi => exact sizeEf); (case ho => rfl); (case h1 => simp [Value.oneCell']); intro w6 h1 e1 g1; have HA6 := hide ((e1 (w4.heap.size) (by omega)).trans HA.out); have hgN := grown_spoil HN.out (Nat.le_succ _) g1; have HB6 := hide (box_grown HB4.out hgN (by simp)); have HG6 := hide (grownBy_trans HG4.out hgN); have q0 : w6.cell? ⟨w4.heap.size + 1, 4, none⟩ = some (.bool false) := blk_cell h1 4; have q1 : w6.cell? ⟨w4.heap.size, 0, none⟩ = some (.int .i64 1) := blk_cell HA6.out 0; have q2 : w6.cell? ⟨w4.heap.size, 1, none⟩ = some (.int .i64 S) := blk_cell HA6.out 1; clear h1 e1 g1 hgN HA HE HN) | (go_at_call 13; refine (NUM.out _ _).mono ?_; rintro e wn ⟨rfl, rfl⟩) | ((with_reducible refine list_load 25 (.tmp 14) (w4.heap.size) 25 #[.int .i64 1, .int .i64 S, .int .i64 (m0 0), .int .i64 (m0 1), .int .i64 (m0 2), .int .i64 (m0 3), .int .i64 (m0 4), .int .i64 (m0 5), .int .i64 (m0 6), .int .i64 (m0 7), .int .i64 (m0 8), .int .i64 (m0 9), .int .i64 (m0 10), .int .i64 (m0 11), .int .i64 (m0 12), .int .i64 (m0 13), .int .i64 (m0 14), .int .i64 (m0 15)] (0, 0) _ ?hw ?hx ?hg Tryd.underlying25 ?hd ?hi ?_); (case hw => kernel_rfl); (case hx => rfl); (case hg => exact HA6.out); (case hd => rfl); (case hi => exact sizeVm)) | ((with_reducible refine list_store 25 (.tmp 11) (.tmp 75) (wb.heap.size) #[.int .i64 1, .int .i64 S, .int .i64 (m0 0), .int .i64 (m0 1), .int .i64 (m0 2), .int .i64 (m0 3), .int .i64 (m0 4), .int .i64 (m0 5), .int .i64 (m0 6), .int .i64 (m0 7), .int .i64 (m0 8), .int .i64 (m0 9), .int .i64 (m0 10), .int .i64 (m0 11), .int .i64 (m0 12), .int .i64 (m0 13), .int .i64 (m0 14), .int .i64 (m0 15)] 25 #[.int .i64 0, .int .i64 A, .int .i64 (m0 0), .int .i64 (m0 1), .int .i64 (m0 2), .int .i64 (m0 3), .int .i64 (m0 4), .int .i64 (m0 5), .int .i64 (m0 6), .int .i64 (m0 7), .int .i64 (m0 8), .int .i64 (m0 9), .int .i64 (m0 10), .int .i64 (m0 11), .int .i64 (m0 12), .int .i64 (m0 13), .int .i64 (m0 14), .int .i64 (m0 15)] ?hx ?hy ?hg ?hi ?ho ?h1 ?_); (case hx => rfl); (case hy => rfl); (case hg => exact HB6.out); (case hi => exact sizeVm); (case ho => rfl); (case h1 => simp [Value.oneCell']); intro w7 h1 e1 g1; have HBf := hide h1; have HGf := hide (grown_spoil HG6.out (Nat.le_refl _) g1); clear h1 e1 g1 q0 q1 q2) | fail)
        go_roundw
        case rel => exact ⟨1, by omega, by go_num, ⟨S, rfl, fun _ => rfl⟩, by rw [HV'.out]; exact HBf.out, HGf.out⟩
        case measure => simp [intOf]
      · have C := hide (CS.out j hlt wr HG.out)
        have hq := HPC.out j hlt
        obtain ⟨V, hV⟩ : ∃ V, seqS A B K K1 j = V := ⟨_, rfl⟩
        obtain ⟨V', hV'⟩ : ∃ V, seqS A B K K1 (j + 1) = V := ⟨_, rfl⟩
        have HV' := hide hV'
        rw [hV] at C HB
        rw [hV'] at C hq
        clear hV hV'
        obtain ⟨p0, a0, m0⟩ := V
        obtain ⟨p1, a1, m1⟩ := V'
        dsimp only [vmV, vmC, efV, quietE] at C HB hq
        have hjj : ((j : Int) == 0) = false := by simp; omega
        go_wp2_with (first | ((with_reducible refine list_load 25 (.tmp 11) (wb.heap.size) 25 #[.int .i64 p0, .int .i64 a0, .int .i64 (m0 0), .int .i64 (m0 1), .int .i64 (m0 2), .int .i64 (m0 3), .int .i64 (m0 4), .int .i64 (m0 5), .int .i64 (m0 6), .int .i64 (m0 7), .int .i64 (m0 8), .int .i64 (m0 9), .int .i64 (m0 10), .int .i64 (m0 11), .int .i64 (m0 12), .int .i64 (m0 13), .int .i64 (m0 14), .int .i64 (m0 15)] (0, 0) _ ?hw ?hx ?hg Tryd.underlying25 ?hd ?hi ?_); (case hw => kernel_rfl); (case hx => rfl); (case hg => exact HB.out); (case hd => rfl); (case hi => exact sizeVm)) | fail)
        refine C.out.mono ?_; rintro e w4 ⟨rfl, hg⟩
        have HB4 := hide (box_grown HB.out hg (by simp))
        have HG4 := hide (grownBy_trans HG.out hg)
        have hle : wb.heap.size < w4.heap.size := box_lt HB4.out
        clear hg C HB HG
        go_wp2_with (first | ((with_reducible refine list_store 25 (.tmp 14) (.tmp 53) (w4.heap.size) #[.int .i64 p1, .int .i64 a1, .int .i64 (m1 0), .int .i64 (m1 1), .int .i64 (m1 2), .int .i64 (m1 3), .int .i64 (m1 4), .int .i64 (m1 5), .int .i64 (m1 6), .int .i64 (m1 7), .int .i64 (m1 8), .int .i64 (m1 9), .int .i64 (m1 10), .int .i64 (m1 11), .int .i64 (m1 12), .int .i64 (m1 13), .int .i64 (m1 14), .int .i64 (m1 15)] 25 #[.int .i64 0, .int .i64 0, .int .i64 0, .int .i64 0, .int .i64 0, .int .i64 0, .int .i64 0, .int .i64 0, .int .i64 0, .int .i64 0, .int .i64 0, .int .i64 0, .int .i64 0, .int .i64 0, .int .i64 0, .int .i64 0, .int .i64 0, .int .i64 0] ?hx ?hy ?hg ?hi ?ho ?h1 ?_); (case hx => rfl); (case hy => rfl); (case hg => exact box_grown (World.heap_alloc_new _ _) (World.grownBy_alloc _ _ none) (by simp)); (case hi => exact sizeVm); (case ho => rfl); (case h1 => simp [Value.oneCell']); intro w5 h1 e1 g1; have HA := hide h1; have HE := hide ((e1 (w4.heap.size + 1) (by omega)).trans (alloc_next _ _ _)); have HN := hide (grown_spoil (grownBy_trans (World.grownBy_alloc w4 _ none) (World.grownBy_alloc _ _ none)) (Nat.le_refl _) g1); clear h1 e1 g1) | ((with_reducible refine list_store 30 (.tmp 15) (.tmp 54) (w4.heap.size + 1) #[.bool false, .int .i64 (-1), .int .i64 (-1), .int .i64 0, .bool false] 30 #[.bool false, .int .i64 0, .int .i64 0, .int .i64 0, .bool false] ?hx ?hy ?hg ?hi ?ho ?h1 ?_); (case hx => rfl); (case hy => rfl); (case hg => exact HE.out); (case hi => exact sizeEf); (case ho => rfl); (case h1 => simp [Value.oneCell']); intro w6 h1 e1 g1; have HA6 := hide ((e1 (w4.heap.size) (by omega)).trans HA.out); have hgN := grown_spoil HN.out (Nat.le_succ _) g1; have HB6 := hide (box_grown HB4.out hgN (by simp)); have HG6 := hide (grownBy_trans HG4.out hgN); have q0 : w6.cell? ⟨w4.heap.size + 1, 4, none⟩ = some (.bool false) := blk_cell h1 4; have q1 : w6.cell? ⟨w4.heap.size, 0, none⟩ = some (.int .i64 p1) := blk_cell HA6.out 0; have q2 : w6.cell? ⟨w4.heap.size, 1, none⟩ = some (.int .i64 a1) := blk_cell HA6.out 1; clear h1 e1 g1 hgN HA HE HN) | (go_at_call 13; refine (NUM.out _ _).mono ?_; rintro e wn ⟨rfl, rfl⟩) | ((with_reducible refine list_load 25 (.tmp 14) (w4.heap.size) 25 #[.int .i64 p1, .int .i64 a1, .int .i64 (m1 0), .int .i64 (m1 1), .int .i64 (m1 2), .int .i64 (m1 3), .int .i64 (m1 4), .int .i64 (m1 5), .int .i64 (m1 6), .int .i64 (m1 7), .int .i64 (m1 8), .int .i64 (m1 9), .int .i64 (m1 10), .int .i64 (m1 11), .int .i64 (m1 12), .int .i64 (m1 13), .int .i64 (m1 14), .int .i64 (m1 15)] (0, 0) _ ?hw ?hx ?hg Tryd.underlying25 ?hd ?hi ?_); (case hw => kernel_rfl); (case hx => rfl); (case hg => exact HA6.out); (case hd => rfl); (case hi => exact sizeVm)) | ((with_reducible refine list_store 25 (.tmp 11) (.tmp 75) (wb.heap.size) #[.int .i64 p1, .int .i64 a1, .int .i64 (m1 0), .int .i64 (m1 1), .int .i64 (m1 2), .int .i64 (m1 3), .int .i64 (m1 4), .int .i64 (m1 5), .int .i64 (m1 6), .int .i64 (m1 7), .int .i64 (m1 8), .int .i64 (m1 9), .int .i64 (m1 10), .int .i64 (m1 11), .int .i64 (m1 12), .int .i64 (m1 13), .int .i64 (m1 14), .int .i64 (m1 15)] 25 #[.int .i64 p0, .int .i64 a0, .int .i64 (m0 0), .int .i64 (m0 1), .int .i64 (m0 2), .int .i64 (m0 3), .int .i64 (m0 4), .int .i64 (m0 5), .int .i64 (m0 6), .int .i64 (m0 7), .int .i64 (m0 8), .int .i64 (m0 9), .int .i64 (m0 10), .int .i64 (m0 11), .int .i64 (m0 12), .int .i64 (m0 13), .int .i64 (m0 14), .int .i64 (m0 15)] ?hx ?hy ?hg ?hi ?ho ?h1 ?_); (case hx => rfl); (case hy => rfl); (case hg => exact HB6.out); (case hi => exact sizeVm); (case ho => rfl); (case h1 => simp [Value.oneCell']); intro w7 h1 e1 g1; have HBf := hide h1; have HGf := hide (grown_spoil HG6.out (Nat.le_refl _) g1); clear h1 e1 g1 q0 q1 q2) | fail)
        go_roundw
        case rel => exact ⟨j + 1, by omega, by go_num, ⟨sv, rfl, fun _ => HSV.out hpos⟩, by rw [HV'.out]; exact HBf.out, HGf.out⟩
        case measure => simp [intOf]; omega
    · obtain rfl : j = 5 := by omega
      obtain rfl : sv = S := HSV.out (by omega)
      have c1 : wr.cell? ⟨wb.heap.size, 1, none⟩ = some (.int .i64 A) := blk_cell HB.out 1
      have c2 : wr.cell? ⟨wb.heap.size, 2 + K1, none⟩ = some (.int .i64 A) := by have h := vm_word HB.out K1 (by omega); rw [show (seqS A B K K1 5).mem K1 = A from upd_same _ _ _] at h; exact h
      have c3 : wr.cell? ⟨wb.heap.size, 2 + K, none⟩ = some (.int .i64 B) := by have h := vm_word HB.out K (by omega); rw [show (seqS A B K K1 5).mem K = B from (upd_else _ _ (fun e => HNE.out e.symm)).trans (upd_same _ _ _)] at h; exact h
      go_wp2
      go_ret
      exact ⟨by simp, grownBy_trans HWb.out HG.out⟩
#print axioms stepSums_any
end Go.Proofs.YthdpdnibgmjdaaaDoor
