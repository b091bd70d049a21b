/- The walk of the statement StepKeeps: a step turns at most one word, and just that one that it stores to; proved over the translation. -/
import Derived.Test.YthdpdnibgmjdaabDoorKmath
import Derived.Test.YthdpdnibgmjdaabDoorVeq
namespace Go.Proofs.YthdpdnibgmjdaabDoor
open Go.RowKit
attribute [local go_sem] alloc_drewN setCell_drewN

set_option maxRecDepth 100000 in
set_option maxHeartbeats 80000000 in
theorem stepKeeps_any (pa : Option Addr) (N pcap : Nat) (zs : List Ins) (V : VmS) (inn outs : Int) (ga : Option Addr) (M gcap : Nat) (gs : List Int) (w : World) (hp : RowAt shI 0 w (.slice pa N pcap) zs) (hv : RowAt shN 0 w (.slice ga M gcap) gs) (hT : Tab w) :
    Calls Tryd.prog 3 #[.slice pa N pcap, vmV V, .int .i64 inn, .int .i64 outs, .slice ga M gcap] w fun e w' => e = .returned (.bool true) ∧ w.grownBy w' none := by
  obtain ⟨hl, -⟩ := id hp
  have hN : zs.length = N := by obtain ⟨-, a', c', e, -⟩ := hp; simp only [Value.slice.injEq] at e; exact e.2.1.symm
  have CS := hide (fun W (hg : w.grownBy W none) => step_any (.slice pa N pcap) zs V inn outs (.slice ga M gcap) gs W hl (hT.grown hg) ((preads_row hp).grown hg) (hv.grown hg))
  have HT := hide (fun W (hg : w.grownBy W none) => hT.grown hg)
  have HP := hide (fun W (hg : w.grownBy W none) => hp.grown hg)
  obtain ⟨A, hA⟩ : ∃ A, stepAns zs V inn outs gs = A := ⟨_, rfl⟩
  rw [hA] at CS
  obtain ⟨⟨q0, q1, qm⟩, ⟨f0, f1, f2, f3, f4⟩, E⟩ := A
  have HF0 := hide (keeps_facts hA)
  obtain ⟨pc, acc, m⟩ := V
  rw [hN] at hl HF0
  have HNl := hide hN
  clear hA hT hp hv hN
  dsimp only [vmV, efV] at CS HF0 ⊢
  have NUM := hide num_to
  have HV0 := hide (World.heap_alloc_new w (.cells #[.int .i64 pc, .int .i64 acc, .int .i64 (m 0), .int .i64 (m 1), .int .i64 (m 2), .int .i64 (m 3), .int .i64 (m 4), .int .i64 (m 5), .int .i64 (m 6), .int .i64 (m 7), .int .i64 (m 8), .int .i64 (m 9), .int .i64 (m 10), .int .i64 (m 11), .int .i64 (m 12), .int .i64 (m 13), .int .i64 (m 14), .int .i64 (m 15)] 25))
  have HG0 := hide (World.grownBy_alloc w (.cells #[.int .i64 pc, .int .i64 acc, .int .i64 (m 0), .int .i64 (m 1), .int .i64 (m 2), .int .i64 (m 3), .int .i64 (m 4), .int .i64 (m 5), .int .i64 (m 6), .int .i64 (m 7), .int .i64 (m 8), .int .i64 (m 9), .int .i64 (m 10), .int .i64 (m 11), .int .i64 (m 12), .int .i64 (m 13), .int .i64 (m 14), .int .i64 (m 15)] 25) none)
  go_enter Tryd.func3, Tryd.ntmps3
  go_upto_region 1 with fail
  generalize hwb : w.alloc (.cells #[.int .i64 pc, .int .i64 acc, .int .i64 (m 0), .int .i64 (m 1), .int .i64 (m 2), .int .i64 (m 3), .int .i64 (m 4), .int .i64 (m 5), .int .i64 (m 6), .int .i64 (m 7), .int .i64 (m 8), .int .i64 (m 9), .int .i64 (m 10), .int .i64 (m 11), .int .i64 (m 12), .int .i64 (m 13), .int .i64 (m 14), .int .i64 (m 15)] 25) = wb at *
  clear hwb
  go_wp2_with (first | fail)
  refine (awake_any wb (HT.out wb HG0.out)).mono ?_; rintro e w1 ⟨rfl, hg⟩
  have HV := hide (box_grown HV0.out hg (by simp))
  have HG := hide (grownBy_trans HG0.out hg)
  clear hg HV0 HG0
  go_wp2_with (first | ((with_reducible refine list_load 25 (.tmp 6) (w.heap.size) 25 #[.int .i64 pc, .int .i64 acc, .int .i64 (m 0), .int .i64 (m 1), .int .i64 (m 2), .int .i64 (m 3), .int .i64 (m 4), .int .i64 (m 5), .int .i64 (m 6), .int .i64 (m 7), .int .i64 (m 8), .int .i64 (m 9), .int .i64 (m 10), .int .i64 (m 11), .int .i64 (m 12), .int .i64 (m 13), .int .i64 (m 14), .int .i64 (m 15)] (0, 0) _ ?hw ?hx ?hg Tryd.underlying25 ?hd ?hi ?_); (case hw => kernel_rfl); (case hx => rfl); (case hg => exact HV.out); (case hd => rfl); (case hi => exact sizeVm)) | fail)
  refine (CS.out w1 HG.out).mono ?_; rintro e w2 ⟨rfl, hg⟩
  have HV := hide (box_grown HV.out hg (by simp))
  have HG := hide (grownBy_trans HG.out hg)
  clear hg CS
  go_upto_region 4 with (first | ((with_reducible refine list_store 25 (.tmp 11) (.tmp 26) (w2.heap.size) #[.int .i64 q0, .int .i64 q1, .int .i64 (qm 0), .int .i64 (qm 1), .int .i64 (qm 2), .int .i64 (qm 3), .int .i64 (qm 4), .int .i64 (qm 5), .int .i64 (qm 6), .int .i64 (qm 7), .int .i64 (qm 8), .int .i64 (qm 9), .int .i64 (qm 10), .int .i64 (qm 11), .int .i64 (qm 12), .int .i64 (qm 13), .int .i64 (qm 14), .int .i64 (qm 15)] 25 #[.int .i64 0, .int .i64 0, .int .i64 0, .int .i64 0, .int .i64 0, .int .i64 0, .int .i64 0, .int .i64 0, .int .i64 0, .int .i64 0, .int .i64 0, .int .i64 0, .int .i64 0, .int .i64 0, .int .i64 0, .int .i64 0, .int .i64 0, .int .i64 0] ?hx ?hy ?hg ?hi ?ho ?h1 ?_); (case hx => rfl); (case hy => rfl); (case hg => exact box_grown (World.heap_alloc_new _ _) (World.grownBy_alloc _ _ none) (by simp)); (case hi => exact sizeVm); (case ho => rfl); (case h1 => simp [Value.oneCell']); intro w3 h1 e1 g1; have HA := hide h1; have HE := hide ((e1 (w2.heap.size + 1) (by omega)).trans (alloc_next _ _ _)); have HN := hide (grown_spoil (grownBy_trans (World.grownBy_alloc w2 _ none) (World.grownBy_alloc _ _ none)) (Nat.le_refl _) g1); clear h1 e1 g1) | ((with_reducible refine list_store 29 (.tmp 12) (.tmp 27) (w2.heap.size + 1) #[.bool f0, .int .i64 f1, .int .i64 f2, .int .i64 f3, .bool f4] 29 #[.bool false, .int .i64 0, .int .i64 0, .int .i64 0, .bool false] ?hx ?hy ?hg ?hi ?ho ?h1 ?_); (case hx => rfl); (case hy => rfl); (case hg => exact HE.out); (case hi => exact sizeEf); (case ho => rfl); (case h1 => simp [Value.oneCell']); intro w4 h1 e1 g1; have HQ := hide ((e1 (w2.heap.size) (by omega)).trans HA.out); have HF := hide h1; have hgN := grown_spoil HN.out (Nat.le_succ _) g1; have HV := hide (box_grown HV.out hgN (by simp)); have HG := hide (grownBy_trans HG.out hgN); clear h1 e1 g1 hgN HA HE HN) | fail)
  generalize hB : w.heap.size = B at *
  generalize hC : w2.heap.size = C at *
  clear hB hC
  rcases HF0.out with ⟨rfl, hD, hF⟩ | ⟨rfl, hN, hD, hF⟩ | ⟨rfl, k, op, n, hpc, hk, h64, hz, hop, d0, d1, d2, d3, hmem, hE⟩
  · simp only [VmS.mk.injEq, EfS.mk.injEq] at hD hF
    obtain ⟨rfl, rfl, rfl⟩ := hD
    obtain ⟨rfl, rfl, rfl, rfl, rfl⟩ := hF
    clear HF0
    have y10 : w4.cell? ⟨C + 1, 0, none⟩ = some (.bool false) := blk_cell HF.out 0
    have y11 : w4.cell? ⟨C + 1, 1, none⟩ = some (.int .i64 0) := blk_cell HF.out 1
    have y12 : w4.cell? ⟨C + 1, 2, none⟩ = some (.int .i64 0) := blk_cell HF.out 2
    have y13 : w4.cell? ⟨C + 1, 3, none⟩ = some (.int .i64 0) := blk_cell HF.out 3
    have y14 : w4.cell? ⟨C + 1, 4, none⟩ = some (.bool false) := blk_cell HF.out 4
    have hARR := arr_self
    go_wp2_with (first | (go_at_call 6; refine (NUM.out _ _).mono ?_; rintro e wn ⟨rfl, rfl⟩) | ((with_reducible refine list_load 25 (.tmp 11) (C) 25 #[.int .i64 0, .int .i64 0, .int .i64 0, .int .i64 0, .int .i64 0, .int .i64 0, .int .i64 0, .int .i64 0, .int .i64 0, .int .i64 0, .int .i64 0, .int .i64 0, .int .i64 0, .int .i64 0, .int .i64 0, .int .i64 0, .int .i64 0, .int .i64 0] (0, 0) _ ?hw ?hx ?hg Tryd.underlying25 ?hd ?hi ?_); (case hw => kernel_rfl); (case hx => rfl); (case hg => exact HQ.out); (case hd => rfl); (case hi => exact sizeVm)) | fail)
    go_ret
    exact ⟨rfl, HG.out⟩
  · simp only [VmS.mk.injEq, EfS.mk.injEq] at hD hF
    obtain ⟨rfl, rfl, rfl⟩ := hD
    obtain ⟨rfl, rfl, rfl, rfl, rfl⟩ := hF
    subst hN
    clear HF0
    have y10 : w4.cell? ⟨C + 1, 0, none⟩ = some (.bool false) := blk_cell HF.out 0
    have y11 : w4.cell? ⟨C + 1, 1, none⟩ = some (.int .i64 (-1)) := blk_cell HF.out 1
    have y12 : w4.cell? ⟨C + 1, 2, none⟩ = some (.int .i64 (-1)) := blk_cell HF.out 2
    have y13 : w4.cell? ⟨C + 1, 3, none⟩ = some (.int .i64 0) := blk_cell HF.out 3
    have y14 : w4.cell? ⟨C + 1, 4, none⟩ = some (.bool false) := blk_cell HF.out 4
    have hARR := arr_self
    go_wp2_with (first | (go_at_call 6; refine (NUM.out _ _).mono ?_; rintro e wn ⟨rfl, rfl⟩) | ((with_reducible refine list_load 25 (.tmp 11) (C) 25 #[.int .i64 q0, .int .i64 q1, .int .i64 (qm 0), .int .i64 (qm 1), .int .i64 (qm 2), .int .i64 (qm 3), .int .i64 (qm 4), .int .i64 (qm 5), .int .i64 (qm 6), .int .i64 (qm 7), .int .i64 (qm 8), .int .i64 (qm 9), .int .i64 (qm 10), .int .i64 (qm 11), .int .i64 (qm 12), .int .i64 (qm 13), .int .i64 (qm 14), .int .i64 (qm 15)] (0, 0) _ ?hw ?hx ?hg Tryd.underlying25 ?hd ?hi ?_); (case hw => kernel_rfl); (case hx => rfl); (case hg => exact HQ.out); (case hd => rfl); (case hi => exact sizeVm)) | ((with_reducible refine list_load 25 (.tmp 6) (B) 25 #[.int .i64 q0, .int .i64 q1, .int .i64 (qm 0), .int .i64 (qm 1), .int .i64 (qm 2), .int .i64 (qm 3), .int .i64 (qm 4), .int .i64 (qm 5), .int .i64 (qm 6), .int .i64 (qm 7), .int .i64 (qm 8), .int .i64 (qm 9), .int .i64 (qm 10), .int .i64 (qm 11), .int .i64 (qm 12), .int .i64 (qm 13), .int .i64 (qm 14), .int .i64 (qm 15)] (0, 0) _ ?hw ?hx ?hg Tryd.underlying25 ?hd ?hi ?_); (case hw => kernel_rfl); (case hx => rfl); (case hg => exact HV.out); (case hd => rfl); (case hi => exact sizeVm)) | fail)
    go_ret
    exact ⟨rfl, HG.out⟩
  · subst hpc
    obtain ⟨-, pa', pcap', e, ha⟩ := HP.out w4 HG.out
    simp only [Value.slice.injEq] at e
    obtain ⟨rfl, -, rfl⟩ := e
    obtain ⟨g, o, rfl, -, hc⟩ := ha (by have := HNl.out; omega)
    have c0 : w4.cell? ⟨g, o + k * 2, none⟩ = some (.int .i64 op) := hc k _ hz 0 _ rfl
    have c1 : w4.cell? ⟨g, o + k * 2 + 1, none⟩ = some (.int .i64 n) := hc k _ hz 1 _ rfl
    have hgl : g < w4.heap.size := World.block_lt_of_cell? w4 ⟨g, o + k * 2, none⟩ c0
    have hBl : B < w4.heap.size := box_lt HV.out
    have k0 : w4.cell? ⟨B, 0, none⟩ = some (.int .i64 k) := blk_cell HV.out 0
    have k1 : w4.cell? ⟨C, 0, none⟩ = some (.int .i64 q0) := blk_cell HQ.out 0
    clear hc ha hz HP HF0
    have HMEM := hide hmem
    have HE0 := hide hE
    clear hmem hE
    go_upto_region 11 with (go_at_call 6; refine (NUM.out _ _).mono ?_; rintro e wn ⟨rfl, rfl⟩)
    have HX := hide (World.heap_alloc_new w4 (.cells #[.int .i64 op, .int .i64 n] 35))
    have hgx : w4.grownBy (w4.alloc (.cells #[.int .i64 op, .int .i64 n] 35)) none := World.grownBy_alloc _ _ _
    have HV := hide (box_grown HV.out hgx (by simp))
    have HQ := hide (box_grown HQ.out hgx (by simp))
    have HF := hide (box_grown HF.out hgx (by simp))
    have HG := hide (grownBy_trans HG.out hgx)
    clear hgx c0 c1 k0 k1 hgl hBl
    generalize hw5 : w4.alloc (.cells #[.int .i64 op, .int .i64 n] 35) = w5 at *
    generalize hX : w4.heap.size = X at *
    clear hw5 hX
    have x0 : w5.cell? ⟨X, 0, none⟩ = some (.int .i64 op) := blk_cell HX.out 0
    have x1 : w5.cell? ⟨X, 1, none⟩ = some (.int .i64 n) := blk_cell HX.out 1
    have v1 : w5.cell? ⟨B, 1, none⟩ = some (.int .i64 acc) := blk_cell HV.out 1
    have HVW := hide (fun i (hi : i < 16) => vm_word (v := ⟨k, acc, m⟩) HV.out i hi)
    have HQW := hide (fun i (hi : i < 16) => vm_word (v := ⟨q0, q1, qm⟩) HQ.out i hi)
    dsimp only at HVW HQW
    go_wp2
    go_loopw [15, 16] (fun i _ W => ∃ j : Nat, j ≤ 16 ∧ i = .int .i64 j ∧ W = w5) (fun i _ _ => 16 - (intOf i).toNat)
    case atStart => exact ⟨0, by omega, rfl, rfl⟩
    case round =>
      obtain ⟨j, hj, rfl, rfl⟩ := hrel
      by_cases hlt : j < 16
      · have a1 := HVW.out j hlt
        have a2 := HQW.out j hlt
        have hm := HMEM.out j hlt
        by_cases h3 : op = 3
        · subst h3
          by_cases hnj : n = j
          · rw [if_pos ⟨rfl, hnj⟩] at hm
            rw [hm] at a2
            have r1 : ((n : Int) == (j : Int)) = true := by rw [hnj]; simp
            clear hm hnj
            go_wp2
            go_roundw
            case rel => exact ⟨j + 1, by omega, by go_num, by first | rfl | trivial⟩
            case measure => simp [intOf]; omega
          · rw [if_neg (fun e => hnj e.2)] at hm
            rw [hm] at a2
            have r1 : ((n : Int) == (j : Int)) = false := by simp; omega
            clear hm hnj
            go_wp2
            go_roundw
            case rel => exact ⟨j + 1, by omega, by go_num, by first | rfl | trivial⟩
            case measure => simp [intOf]; omega
        · rw [if_neg (fun e => h3 e.1)] at hm
          rw [hm] at a2
          have r1 : ((op : Int) == 3) = false := by simp; omega
          clear hm h3
          go_wp2
          go_roundw
          case rel => exact ⟨j + 1, by omega, by go_num, by first | rfl | trivial⟩
          case measure => simp [intOf]; omega
      · have y1 : wr.cell? ⟨C, 1, none⟩ = some (.int .i64 q1) := blk_cell HQ.out 1
        rcases HE0.out with ⟨h8, hF⟩ | ⟨h8, hF⟩ | ⟨h8, hF⟩ | ⟨h8, hF⟩ | ⟨h8, hF⟩
        · simp only [EfS.mk.injEq] at hF
          obtain ⟨rfl, rfl, rfl, rfl, rfl⟩ := hF
          have r8 : ((op : Int) == 8) = false := by simp; omega
          clear h8
          have y10 : wr.cell? ⟨C + 1, 0, none⟩ = some (.bool false) := blk_cell HF.out 0
          have y11 : wr.cell? ⟨C + 1, 1, none⟩ = some (.int .i64 (-1)) := blk_cell HF.out 1
          have y12 : wr.cell? ⟨C + 1, 2, none⟩ = some (.int .i64 (-1)) := blk_cell HF.out 2
          have y13 : wr.cell? ⟨C + 1, 3, none⟩ = some (.int .i64 0) := blk_cell HF.out 3
          have y14 : wr.cell? ⟨C + 1, 4, none⟩ = some (.bool false) := blk_cell HF.out 4
          go_wp2
          go_ret
          exact ⟨by first | rfl | simp, HG.out⟩
        · subst h8
          simp only [EfS.mk.injEq] at hF
          obtain ⟨rfl, rfl, rfl, rfl, rfl⟩ := hF
          have y10 : wr.cell? ⟨C + 1, 0, none⟩ = some (.bool true) := blk_cell HF.out 0
          have y11 : wr.cell? ⟨C + 1, 1, none⟩ = some (.int .i64 (-1)) := blk_cell HF.out 1
          have y12 : wr.cell? ⟨C + 1, 2, none⟩ = some (.int .i64 (-1)) := blk_cell HF.out 2
          have y13 : wr.cell? ⟨C + 1, 3, none⟩ = some (.int .i64 0) := blk_cell HF.out 3
          have y14 : wr.cell? ⟨C + 1, 4, none⟩ = some (.bool false) := blk_cell HF.out 4
          go_wp2
          go_ret
          exact ⟨by first | rfl | simp, HG.out⟩
        · subst h8
          simp only [EfS.mk.injEq] at hF
          obtain ⟨rfl, rfl, rfl, rfl, rfl⟩ := hF
          have y10 : wr.cell? ⟨C + 1, 0, none⟩ = some (.bool false) := blk_cell HF.out 0
          have y11 : wr.cell? ⟨C + 1, 1, none⟩ = some (.int .i64 (n : Int)) := blk_cell HF.out 1
          have y12 : wr.cell? ⟨C + 1, 2, none⟩ = some (.int .i64 (-1)) := blk_cell HF.out 2
          have y13 : wr.cell? ⟨C + 1, 3, none⟩ = some (.int .i64 f3) := blk_cell HF.out 3
          have y14 : wr.cell? ⟨C + 1, 4, none⟩ = some (.bool false) := blk_cell HF.out 4
          go_wp2
          go_ret
          exact ⟨by first | rfl | simp, HG.out⟩
        · subst h8
          simp only [EfS.mk.injEq] at hF
          obtain ⟨rfl, rfl, rfl, rfl, rfl⟩ := hF
          have y10 : wr.cell? ⟨C + 1, 0, none⟩ = some (.bool false) := blk_cell HF.out 0
          have y11 : wr.cell? ⟨C + 1, 1, none⟩ = some (.int .i64 (-1)) := blk_cell HF.out 1
          have y12 : wr.cell? ⟨C + 1, 2, none⟩ = some (.int .i64 (n : Int)) := blk_cell HF.out 2
          have y13 : wr.cell? ⟨C + 1, 3, none⟩ = some (.int .i64 0) := blk_cell HF.out 3
          have y14 : wr.cell? ⟨C + 1, 4, none⟩ = some (.bool false) := blk_cell HF.out 4
          go_wp2
          go_ret
          exact ⟨by first | rfl | simp, HG.out⟩
        · simp only [EfS.mk.injEq] at hF
          obtain ⟨rfl, rfl, rfl, rfl, rfl⟩ := hF
          have y10 : wr.cell? ⟨C + 1, 0, none⟩ = some (.bool false) := blk_cell HF.out 0
          have y11 : wr.cell? ⟨C + 1, 1, none⟩ = some (.int .i64 (-1)) := blk_cell HF.out 1
          have y12 : wr.cell? ⟨C + 1, 2, none⟩ = some (.int .i64 (-1)) := blk_cell HF.out 2
          have y13 : wr.cell? ⟨C + 1, 3, none⟩ = some (.int .i64 0) := blk_cell HF.out 3
          have y14 : wr.cell? ⟨C + 1, 4, none⟩ = some (.bool true) := blk_cell HF.out 4
          rcases h8 with rfl | rfl
          · go_wp2
            go_ret
            exact ⟨by first | rfl | simp, HG.out⟩
          · go_wp2
            go_ret
            exact ⟨by first | rfl | simp, HG.out⟩
#print axioms stepKeeps_any
end Go.Proofs.YthdpdnibgmjdaabDoor
