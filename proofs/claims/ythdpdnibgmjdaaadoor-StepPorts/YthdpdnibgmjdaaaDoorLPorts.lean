/- The walk of the statement StepPorts: what is written, got, taken from outside, and who may; proved over the translation. -/
import Derived.Test.YthdpdnibgmjdaaaDoorLForms
import Derived.Test.YthdpdnibgmjdaaaDoorPmath
namespace Go.Proofs.YthdpdnibgmjdaaaDoor
open Go.RowKit
attribute [local go_sem] alloc_drewN setCell_drewN

theorem and3 (z : Int) : ∃ c : Nat, c < 8 ∧ bits .and .i64 z 7 = (c : Int) ∧ (c : Int) = z % 8 := ⟨(z % 8).toNat, by omega, by rw [and_low z 3 (by decide) 7 (by decide)]; omega, by omega⟩

set_option maxRecDepth 100000 in
set_option maxHeartbeats 80000000 in
theorem stepPorts_any (port outs got inn : Int) (w : World) (hT : Tab w) :
    Calls Tryd.prog 8 #[.int .i64 port, .int .i64 outs, .int .i64 got, .int .i64 inn] w fun e w' => e = .returned (.bool true) ∧ w.grownBy w' none := by
  obtain ⟨k, hk, hk', -⟩ := and3 port
  obtain ⟨k1, hk1, hk1', he⟩ := and3 ((k : Int) + 1)
  have hne : k1 ≠ k := by omega
  obtain ⟨o, ho⟩ : ∃ a, bits .and .i64 outs 255 = a := ⟨_, rfl⟩
  have ho' := and_low outs 8 (by decide) 255 (by decide)
  have ho0 : 0 ≤ o := by omega
  have ho1 : o ≤ 255 := by omega
  obtain ⟨g, hg'⟩ : ∃ a, bits .and .i64 got 65535 = a := ⟨_, rfl⟩
  have hg'' := and_low got 16 (by decide) 65535 (by decide)
  have hg0 : 0 ≤ g := by omega
  have hg1 : g < 65536 := by omega
  obtain ⟨x, hx'⟩ : ∃ a, bits .and .i64 inn 65535 = a := ⟨_, rfl⟩
  have hx'' := and_low inn 16 (by decide) 65535 (by decide)
  have hx0 : 0 ≤ x := by omega
  have hx1 : x < 65536 := by omega
  have hbit := bit_low (o / 2 ^ k)
  have HNE := hide hne
  clear ho' hg'' hx'' he hne
  have NUM := hide num_to
  have HT := hide (fun W (hg : w.grownBy W none) => hT.grown hg)
  have HT0 := hide hT
  clear hT
  have hmk : ∀ W, (Instr.makeSlice 26 (.int .i64 8) (.int .i64 8)).run Tryd.prog W = .ok (.slice (some ⟨W.heap.size, 0, none⟩) 8 8) (W.alloc (.cells #[.int .i64 0, .int .i64 0, .int .i64 0, .int .i64 0, .int .i64 0, .int .i64 0, .int .i64 0, .int .i64 0] 3)) := make_ints 8 8 rfl (by decide)
  go_enter Tryd.func8, Tryd.ntmps8
  go_wp2_with (first | fail)
  refine (awake_any w HT0.out).mono ?_; rintro e w1 ⟨rfl, hg⟩
  have HW1 := hide hg
  clear hg HT0
  go_upto_region 5 with fail
  have HGb : Hid ((w1.alloc (.cells #[.int .i64 0, .int .i64 0, .int .i64 0, .int .i64 0, .int .i64 0, .int .i64 0, .int .i64 0, .int .i64 0] 3)).heap[w1.heap.size]? = some (.cells (gC (fun _ => 0)) 3 (0, 0))) := hide (World.heap_alloc_new w1 _)
  have HG := hide (grownBy_trans HW1.out (World.grownBy_alloc w1 (.cells #[.int .i64 0, .int .i64 0, .int .i64 0, .int .i64 0, .int .i64 0, .int .i64 0, .int .i64 0, .int .i64 0] 3) none))
  have HO := hide HW1.out.size
  generalize hw2 : w1.alloc (.cells #[.int .i64 0, .int .i64 0, .int .i64 0, .int .i64 0, .int .i64 0, .int .i64 0, .int .i64 0, .int .i64 0] 3) = w2 at *
  generalize hGe : w1.heap.size = G at *
  clear hw2 hGe HW1 hmk
  have HG0 := HG
  have HGb0 := HGb
  clear HG HGb
  go_wp2
  go_loopw [14] (fun i W => ∃ j : Nat, j ≤ 8 ∧ i = .int .i64 j ∧ (∃ f, Hid (∀ i, i < j → f i = -1) ∧ Hid (W.heap[G]? = some (.cells (gC f) 3 (0, 0)))) ∧ Hid (w.grownBy W none)) (fun i _ => 8 - (intOf i).toNat)
  case atStart => exact ⟨0, by omega, rfl, ⟨fun _ => 0, fun i hi => absurd hi (Nat.not_lt_zero _), HGb0.out⟩, HG0.out⟩
  case round =>
    obtain ⟨j, hj, rfl, ⟨f, HF, HGb⟩, HG⟩ := hrel
    by_cases hlt : j < 8
    · have c1 : wr.cell? ⟨G, j, none⟩ = some (.int .i64 (f j)) := gC_word HGb.out j hlt
      have c2 := blk_free HGb.out j
      have HGn := hide (gC_store HGb.out j hlt (-1))
      have HG := hide (grown_set_new (R := G) (j := j) (u := .int .i64 (-1)) HO.out HG.out)
      go_wp2
      go_roundw
      case rel =>
        refine ⟨j + 1, by omega, by go_num, ⟨upd f j (-1), fun i hi => ?_, HGn.out⟩, HG.out⟩
        unfold upd
        by_cases e : i = j
        · rw [if_pos e]
        · rw [if_neg e]; exact HF.out i (by omega)
      case measure => simp [intOf]; omega
    · obtain rfl : j = 8 := by omega
      have HGb : Hid (wr.heap[G]? = some (.cells (gC (fun _ => -1)) 3 (0, 0))) := hide (by have := HGb.out; rwa [gC_same HF.out] at this)
      clear HF HG0 HGb0
      have b0 : wr.cell? ⟨G, k1, none⟩ = some (.int .i64 (-1)) := gC_word (f := fun _ => -1) HGb.out k1 hk1
      have b1 := blk_free HGb.out (k1)
      have HX : Hid ((wr.setCell ⟨G, k1, none⟩ (.int .i64 g)).heap[G]? = some (.cells (gC (upd (fun _ => -1) k1 g)) 3 (0, 0))) := hide (gC_store HGb.out k1 hk1 g)
      have HG := hide (grown_set_new (R := G) (j := k1) (u := .int .i64 g) (by have := HO.out; omega) HG.out)
      go_upto_region 10 with (first | fail)
      generalize hwn : wr.setCell ⟨G, k1, none⟩ (.int .i64 g) = w21 at *
      clear hwn b0 b1 HGb
      have HGb := HX
      clear HX
      go_upto_region 11 with (first | ((with_reducible refine list_store 25 (.tmp 15) (.tmp 56) (w21.heap.size) #[.int .i64 0, .int .i64 77, .int .i64 0, .int .i64 0, .int .i64 0, .int .i64 0, .int .i64 0, .int .i64 0, .int .i64 0, .int .i64 0, .int .i64 0, .int .i64 0, .int .i64 0, .int .i64 0, .int .i64 0, .int .i64 0, .int .i64 0, .int .i64 0] 25 #[.int .i64 0, .int .i64 0, .int .i64 0, .int .i64 0, .int .i64 0, .int .i64 0, .int .i64 0, .int .i64 0, .int .i64 0, .int .i64 0, .int .i64 0, .int .i64 0, .int .i64 0, .int .i64 0, .int .i64 0, .int .i64 0, .int .i64 0, .int .i64 0] ?hx ?hy ?hg ?hi ?ho ?h1 ?_); (case hx => rfl); (case hy => rfl); (case hg => exact World.heap_alloc_new _ _); (case hi => exact sizeVm); (case ho => rfl); (case h1 => simp [Value.oneCell']); intro w22 h1 e1 g1; have HV := hide h1; have hgN := grown_spoil (World.grownBy_alloc w21 _ none) (Nat.le_refl _) g1; have HOV := hide (box_lt HGb.out); have HOV2 := hide HG.out.size; have HGb := hide (box_grown HGb.out hgN (by simp)); have HG := hide (grownBy_trans HG.out hgN); clear h1 e1 g1 hgN) | fail)
      generalize hVe : w21.heap.size = V at *
      clear hVe
      have HO : Hid (w.heap.size ≤ G ∧ G < V) := hide ⟨HO.out, HOV.out⟩
      clear HOV HOV2
      have b0 : w22.cell? ⟨V, 4, none⟩ = some (.int .i64 0) := blk_cell HV.out 4
      have b1 := blk_free HV.out (4)
      have HX : Hid ((w22.setCell ⟨V, 4, none⟩ (.int .i64 5)).heap[V]? = some (.cells #[.int .i64 0, .int .i64 77, .int .i64 0, .int .i64 0, .int .i64 5, .int .i64 0, .int .i64 0, .int .i64 0, .int .i64 0, .int .i64 0, .int .i64 0, .int .i64 0, .int .i64 0, .int .i64 0, .int .i64 0, .int .i64 0, .int .i64 0, .int .i64 0] 25 (0, 0))) := hide (blk_set HV.out (by rfl))
      have HGb := hide ((heap_else w22 (4) (.int .i64 5) (show V ≠ G by have := box_lt HV.out; have := box_lt HGb.out; have := HO.out; omega)).trans HGb.out)
      have HG := hide (grown_set_new (R := V) (j := 4) (u := .int .i64 5) (by have := HO.out; omega) HG.out)
      go_upto_region 12 with (first | fail)
      generalize hwn : w22.setCell ⟨V, 4, none⟩ (.int .i64 5) = w23 at *
      clear hwn b0 b1 HV
      have HV := HX
      clear HX
      go_upto_region 13 with fail
      have HP := hide (World.heap_alloc_new w23 (.cells #[.int .i64 9, .int .i64 (k : Int), .int .i64 0, .int .i64 0] 43))
      have hgN := World.grownBy_alloc w23 (.cells #[.int .i64 9, .int .i64 (k : Int), .int .i64 0, .int .i64 0] 43) none
      have HOP := hide (box_lt HV.out)
      have HGb := hide (box_grown HGb.out hgN (by simp))
      have HV := hide (box_grown HV.out hgN (by simp))
      have HG := hide (grownBy_trans HG.out hgN)
      generalize hwn : w23.alloc (.cells #[.int .i64 9, .int .i64 (k : Int), .int .i64 0, .int .i64 0] 43) = w24 at *
      generalize hPe : w23.heap.size = P at *
      clear hwn hPe hgN
      have HO : Hid (w.heap.size ≤ G ∧ G < V ∧ V < P) := hide ⟨HO.out.1, HO.out.2, HOP.out⟩
      clear HOP
      have hmin : min k 64 = k := by omega
      rcases (show o / 2 ^ k % 2 = 1 ∨ o / 2 ^ k % 2 = 0 by omega) with hq | hq
      · have HQ := hide hq
        rw [hq] at hbit
        clear hq
        have C1 : Hid (∀ W, w.grownBy W none → W.heap[G]? = some (.cells (gC (upd (fun _ => -1) k1 g)) 3 (0, 0)) → W.heap[P]? = some (.cells #[.int .i64 9, .int .i64 (k : Int), .int .i64 0, .int .i64 0] 43 (0, 0)) → Calls Tryd.prog 11 #[.slice (some ⟨P, 0, none⟩) 2 2, .agg #[.int .i64 0, .int .i64 77, .int .i64 0, .int .i64 0, .int .i64 5, .int .i64 0, .int .i64 0, .int .i64 0, .int .i64 0, .int .i64 0, .int .i64 0, .int .i64 0, .int .i64 0, .int .i64 0, .int .i64 0, .int .i64 0, .int .i64 0, .int .i64 0], .int .i64 x, .int .i64 o, .slice (some ⟨G, 0, none⟩) 8 8] W fun e w' => e = .returned (.tuple #[.agg #[.int .i64 1, .int .i64 77, .int .i64 0, .int .i64 0, .int .i64 5, .int .i64 0, .int .i64 0, .int .i64 0, .int .i64 0, .int .i64 0, .int .i64 0, .int .i64 0, .int .i64 0, .int .i64 0, .int .i64 0, .int .i64 0, .int .i64 0, .int .i64 0], .agg #[.bool false, .int .i64 (k : Int), .int .i64 (-1), .int .i64 77, .bool false], .int .i64 0]) ∧ W.grownBy w' none) := hide (fun W hg hg8 hb =>
          step_at (lo := G) (.slice (some ⟨P, 0, none⟩) 2 2) [(9, (k : Int)), (0, 0)] ⟨0, 77, m5⟩ x o (.slice (some ⟨G, 0, none⟩) 8 8) (gsF k1 g) (p_out1 hk hk1 ho0 ho1 hg0 hg1 hx0 hx1 HQ.out) W (by simp) (HT.out W hg) (preads_row (row_lit (S := shI) (xs := [(9, (k : Int)), (0, 0)]) 2 hb (by rfl) (by rfl) (by simp))) (row_lit (S := shN) (xs := gsF k1 g) 8 hg8 (by rfl) (by rfl) (by simp)))
        have C2 : Hid (∀ W, w.grownBy W none → W.heap[G]? = some (.cells (gC (upd (fun _ => -1) k1 g)) 3 (0, 0)) → W.heap[P]? = some (.cells #[.int .i64 10, .int .i64 (k : Int), .int .i64 0, .int .i64 0] 43 (0, 0)) → Calls Tryd.prog 11 #[.slice (some ⟨P, 0, none⟩) 2 2, .agg #[.int .i64 0, .int .i64 77, .int .i64 0, .int .i64 0, .int .i64 5, .int .i64 0, .int .i64 0, .int .i64 0, .int .i64 0, .int .i64 0, .int .i64 0, .int .i64 0, .int .i64 0, .int .i64 0, .int .i64 0, .int .i64 0, .int .i64 0, .int .i64 0], .int .i64 x, .int .i64 o, .slice (some ⟨G, 0, none⟩) 8 8] W fun e w' => e = .returned (.tuple #[.agg #[.int .i64 0, .int .i64 0, .int .i64 0, .int .i64 0, .int .i64 5, .int .i64 0, .int .i64 0, .int .i64 0, .int .i64 0, .int .i64 0, .int .i64 0, .int .i64 0, .int .i64 0, .int .i64 0, .int .i64 0, .int .i64 0, .int .i64 0, .int .i64 0], .agg #[.bool false, .int .i64 (-1), .int .i64 (-1), .int .i64 0, .bool true], .int .i64 0]) ∧ W.grownBy w' none) := hide (fun W hg hg8 hb =>
          step_at (lo := G) (.slice (some ⟨P, 0, none⟩) 2 2) [(10, (k : Int)), (0, 0)] ⟨0, 77, m5⟩ x o (.slice (some ⟨G, 0, none⟩) 8 8) (gsF k1 g) (p_get0 hk hk1 HNE.out ho0 ho1 hg0 hg1 hx0 hx1) W (by simp) (HT.out W hg) (preads_row (row_lit (S := shI) (xs := [(10, (k : Int)), (0, 0)]) 2 hb (by rfl) (by rfl) (by simp))) (row_lit (S := shN) (xs := gsF k1 g) 8 hg8 (by rfl) (by rfl) (by simp)))
        have C3 : Hid (∀ W, w.grownBy W none → W.heap[G]? = some (.cells (gC (upd (fun _ => -1) k1 g)) 3 (0, 0)) → W.heap[P]? = some (.cells #[.int .i64 10, .int .i64 (k1 : Int), .int .i64 0, .int .i64 0] 43 (0, 0)) → Calls Tryd.prog 11 #[.slice (some ⟨P, 0, none⟩) 2 2, .agg #[.int .i64 0, .int .i64 77, .int .i64 0, .int .i64 0, .int .i64 5, .int .i64 0, .int .i64 0, .int .i64 0, .int .i64 0, .int .i64 0, .int .i64 0, .int .i64 0, .int .i64 0, .int .i64 0, .int .i64 0, .int .i64 0, .int .i64 0, .int .i64 0], .int .i64 x, .int .i64 o, .slice (some ⟨G, 0, none⟩) 8 8] W fun e w' => e = .returned (.tuple #[.agg #[.int .i64 1, .int .i64 g, .int .i64 0, .int .i64 0, .int .i64 5, .int .i64 0, .int .i64 0, .int .i64 0, .int .i64 0, .int .i64 0, .int .i64 0, .int .i64 0, .int .i64 0, .int .i64 0, .int .i64 0, .int .i64 0, .int .i64 0, .int .i64 0], .agg #[.bool false, .int .i64 (-1), .int .i64 (k1 : Int), .int .i64 0, .bool false], .int .i64 0]) ∧ W.grownBy w' none) := hide (fun W hg hg8 hb =>
          step_at (lo := G) (.slice (some ⟨P, 0, none⟩) 2 2) [(10, (k1 : Int)), (0, 0)] ⟨0, 77, m5⟩ x o (.slice (some ⟨G, 0, none⟩) 8 8) (gsF k1 g) (p_get1 hk hk1 ho0 ho1 hg0 hg1 hx0 hx1) W (by simp) (HT.out W hg) (preads_row (row_lit (S := shI) (xs := [(10, (k1 : Int)), (0, 0)]) 2 hb (by rfl) (by rfl) (by simp))) (row_lit (S := shN) (xs := gsF k1 g) 8 hg8 (by rfl) (by rfl) (by simp)))
        have C4 : Hid (∀ W, w.grownBy W none → W.heap[G]? = some (.cells (gC (upd (fun _ => -1) k1 g)) 3 (0, 0)) → W.heap[P]? = some (.cells #[.int .i64 8, .int .i64 0, .int .i64 0, .int .i64 0] 43 (0, 0)) → Calls Tryd.prog 11 #[.slice (some ⟨P, 0, none⟩) 2 2, .agg #[.int .i64 0, .int .i64 77, .int .i64 0, .int .i64 0, .int .i64 5, .int .i64 0, .int .i64 0, .int .i64 0, .int .i64 0, .int .i64 0, .int .i64 0, .int .i64 0, .int .i64 0, .int .i64 0, .int .i64 0, .int .i64 0, .int .i64 0, .int .i64 0], .int .i64 x, .int .i64 o, .slice none 0 0] W fun e w' => e = .returned (.tuple #[.agg #[.int .i64 1, .int .i64 x, .int .i64 0, .int .i64 0, .int .i64 5, .int .i64 0, .int .i64 0, .int .i64 0, .int .i64 0, .int .i64 0, .int .i64 0, .int .i64 0, .int .i64 0, .int .i64 0, .int .i64 0, .int .i64 0, .int .i64 0, .int .i64 0], .agg #[.bool true, .int .i64 (-1), .int .i64 (-1), .int .i64 0, .bool false], .int .i64 0]) ∧ W.grownBy w' none) := hide (fun W hg hg8 hb =>
          step_at (lo := 0) (.slice (some ⟨P, 0, none⟩) 2 2) [(8, 0), (0, 0)] ⟨0, 77, m5⟩ x o (.slice none 0 0) [] (p_in ho0 ho1 hx0 hx1) W (by simp) (HT.out W hg) (preads_row (row_lit (S := shI) (xs := [(8, 0), (0, 0)]) 2 hb (by rfl) (by rfl) (by simp))) (rowAt_nil _ _ _ _))
        skip
        go_wp2_with (first | ((with_reducible refine list_load 25 (.tmp 15) (V) 25 #[.int .i64 0, .int .i64 77, .int .i64 0, .int .i64 0, .int .i64 5, .int .i64 0, .int .i64 0, .int .i64 0, .int .i64 0, .int .i64 0, .int .i64 0, .int .i64 0, .int .i64 0, .int .i64 0, .int .i64 0, .int .i64 0, .int .i64 0, .int .i64 0] (0, 0) _ ?hw ?hx ?hg Tryd.underlying25 ?hd ?hi ?_); (case hw => kernel_rfl); (case hx => rfl); (case hg => exact HV.out); (case hd => rfl); (case hi => exact sizeVm)) | fail)
        refine (C1.out _ HG.out HGb.out HP.out).mono ?_; rintro e w25 ⟨rfl, hg⟩
        have HGb := hide (box_grown HGb.out hg (by simp))
        have HV := hide (box_grown HV.out hg (by simp))
        have HP := hide (box_grown HP.out hg (by simp))
        have HG := hide (grownBy_trans HG.out hg)
        clear hg C1
        have HPa := hide (box_lt HP.out)
        go_upto_region 14 with (first | ((with_reducible refine list_store 25 (.tmp 17) (.tmp 70) (w25.heap.size) #[.int .i64 1, .int .i64 77, .int .i64 0, .int .i64 0, .int .i64 5, .int .i64 0, .int .i64 0, .int .i64 0, .int .i64 0, .int .i64 0, .int .i64 0, .int .i64 0, .int .i64 0, .int .i64 0, .int .i64 0, .int .i64 0, .int .i64 0, .int .i64 0] 25 #[.int .i64 0, .int .i64 0, .int .i64 0, .int .i64 0, .int .i64 0, .int .i64 0, .int .i64 0, .int .i64 0, .int .i64 0, .int .i64 0, .int .i64 0, .int .i64 0, .int .i64 0, .int .i64 0, .int .i64 0, .int .i64 0, .int .i64 0, .int .i64 0] ?hx ?hy ?hg ?hi ?ho ?h1 ?_); (case hx => rfl); (case hy => rfl); (case hg => exact box_grown (World.heap_alloc_new _ _) (World.grownBy_alloc _ _ none) (by simp)); (case hi => exact sizeVm); (case ho => rfl); (case h1 => simp [Value.oneCell']); intro w26a h1 e1 g1; have HA := hide h1; have HE := hide ((e1 (w25.heap.size + 1) (by omega)).trans (alloc_next _ _ _)); have HN := hide (grown_spoil (grownBy_trans (World.grownBy_alloc w25 _ none) (World.grownBy_alloc _ _ none)) (Nat.le_refl _) g1); clear h1 e1 g1) | ((with_reducible refine list_store 30 (.tmp 18) (.tmp 71) (w25.heap.size + 1) #[.bool false, .int .i64 (k : Int), .int .i64 (-1), .int .i64 77, .bool false] 30 #[.bool false, .int .i64 0, .int .i64 0, .int .i64 0, .bool false] ?hx ?hy ?hg ?hi ?ho ?h1 ?_); (case hx => rfl); (case hy => rfl); (case hg => exact HE.out); (case hi => exact sizeEf); (case ho => rfl); (case h1 => simp [Value.oneCell']); intro w26 h1 e1 g1; have Hav := hide ((e1 (w25.heap.size) (by omega)).trans HA.out); have Hae := hide h1; have hgN := grown_spoil HN.out (Nat.le_succ _) g1; have HGb := hide (box_grown HGb.out hgN (by simp)); have HV := hide (box_grown HV.out hgN (by simp)); have HP := hide (box_grown HP.out hgN (by simp)); have HG := hide (grownBy_trans HG.out hgN); clear h1 e1 g1 hgN HA HE HN) | fail)
        generalize hAe : w25.heap.size = Ax at *
        clear hAe
        have HO : Hid (w.heap.size ≤ G ∧ G < V ∧ V < P ∧ P < Ax) := hide ⟨HO.out.1, HO.out.2.1, HO.out.2.2, HPa.out⟩
        clear HPa 
        have b0 : w26.cell? ⟨P, 0, none⟩ = some (.int .i64 9) := blk_cell HP.out 0
        have b2 : w26.cell? ⟨P, 1, none⟩ = some (.int .i64 (k : Int)) := blk_cell HP.out 1
        have b1 := blk_free HP.out 0
        have b3 := blk_free HP.out 1
        have HX : Hid (((w26.setCell ⟨P, 0, none⟩ (.int .i64 10)).setCell ⟨P, 1, none⟩ (.int .i64 (k : Int))).heap[P]? = some (.cells #[.int .i64 10, .int .i64 (k : Int), .int .i64 0, .int .i64 0] 43 (0, 0))) := hide (blk_set (blk_set HP.out (by rfl)) (by rfl))
        have HGb := hide (((heap_else _ 1 (.int .i64 (k : Int)) (show P ≠ G by have := HO.out; omega)).trans (heap_else w26 0 (.int .i64 10) (show P ≠ G by have := HO.out; omega))).trans HGb.out)
        have HV := hide (((heap_else _ 1 (.int .i64 (k : Int)) (show P ≠ V by have := HO.out; omega)).trans (heap_else w26 0 (.int .i64 10) (show P ≠ V by have := HO.out; omega))).trans HV.out)
        have Hav := hide (((heap_else _ 1 (.int .i64 (k : Int)) (show P ≠ Ax by have := HO.out; omega)).trans (heap_else w26 0 (.int .i64 10) (show P ≠ Ax by have := HO.out; omega))).trans Hav.out)
        have Hae := hide (((heap_else _ 1 (.int .i64 (k : Int)) (show P ≠ Ax + 1 by have := HO.out; omega)).trans (heap_else w26 0 (.int .i64 10) (show P ≠ Ax + 1 by have := HO.out; omega))).trans Hae.out)
        have HG := hide (grown_set_new (R := P) (j := 1) (u := .int .i64 (k : Int)) (by have := HO.out; omega) (grown_set_new (R := P) (j := 0) (u := .int .i64 10) (by have := HO.out; omega) HG.out))
        go_upto_region 15 with fail
        generalize hwn : (w26.setCell ⟨P, 0, none⟩ (.int .i64 10)).setCell ⟨P, 1, none⟩ (.int .i64 (k : Int)) = w27 at *
        clear hwn b0 b1 b2 b3 HP
        have HP := HX
        clear HX
        go_wp2_with (first | ((with_reducible refine list_load 25 (.tmp 15) (V) 25 #[.int .i64 0, .int .i64 77, .int .i64 0, .int .i64 0, .int .i64 5, .int .i64 0, .int .i64 0, .int .i64 0, .int .i64 0, .int .i64 0, .int .i64 0, .int .i64 0, .int .i64 0, .int .i64 0, .int .i64 0, .int .i64 0, .int .i64 0, .int .i64 0] (0, 0) _ ?hw ?hx ?hg Tryd.underlying25 ?hd ?hi ?_); (case hw => kernel_rfl); (case hx => rfl); (case hg => exact HV.out); (case hd => rfl); (case hi => exact sizeVm)) | fail)
        refine (C2.out _ HG.out HGb.out HP.out).mono ?_; rintro e w28 ⟨rfl, hg⟩
        have HGb := hide (box_grown HGb.out hg (by simp))
        have HV := hide (box_grown HV.out hg (by simp))
        have HP := hide (box_grown HP.out hg (by simp))
        have Hav := hide (box_grown Hav.out hg (by simp))
        have Hae := hide (box_grown Hae.out hg (by simp))
        have HG := hide (grownBy_trans HG.out hg)
        clear hg C2
        have HPb := hide (box_lt HP.out)
        have HLab := hide (box_lt Hae.out)
        go_upto_region 16 with (first | ((with_reducible refine list_store 25 (.tmp 20) (.tmp 84) (w28.heap.size) #[.int .i64 0, .int .i64 0, .int .i64 0, .int .i64 0, .int .i64 5, .int .i64 0, .int .i64 0, .int .i64 0, .int .i64 0, .int .i64 0, .int .i64 0, .int .i64 0, .int .i64 0, .int .i64 0, .int .i64 0, .int .i64 0, .int .i64 0, .int .i64 0] 25 #[.int .i64 0, .int .i64 0, .int .i64 0, .int .i64 0, .int .i64 0, .int .i64 0, .int .i64 0, .int .i64 0, .int .i64 0, .int .i64 0, .int .i64 0, .int .i64 0, .int .i64 0, .int .i64 0, .int .i64 0, .int .i64 0, .int .i64 0, .int .i64 0] ?hx ?hy ?hg ?hi ?ho ?h1 ?_); (case hx => rfl); (case hy => rfl); (case hg => exact box_grown (World.heap_alloc_new _ _) (World.grownBy_alloc _ _ none) (by simp)); (case hi => exact sizeVm); (case ho => rfl); (case h1 => simp [Value.oneCell']); intro w29a h1 e1 g1; have HA := hide h1; have HE := hide ((e1 (w28.heap.size + 1) (by omega)).trans (alloc_next _ _ _)); have HN := hide (grown_spoil (grownBy_trans (World.grownBy_alloc w28 _ none) (World.grownBy_alloc _ _ none)) (Nat.le_refl _) g1); clear h1 e1 g1) | ((with_reducible refine list_store 30 (.tmp 21) (.tmp 85) (w28.heap.size + 1) #[.bool false, .int .i64 (-1), .int .i64 (-1), .int .i64 0, .bool true] 30 #[.bool false, .int .i64 0, .int .i64 0, .int .i64 0, .bool false] ?hx ?hy ?hg ?hi ?ho ?h1 ?_); (case hx => rfl); (case hy => rfl); (case hg => exact HE.out); (case hi => exact sizeEf); (case ho => rfl); (case h1 => simp [Value.oneCell']); intro w29 h1 e1 g1; have Hbv := hide ((e1 (w28.heap.size) (by omega)).trans HA.out); have Hbe := hide h1; have hgN := grown_spoil HN.out (Nat.le_succ _) g1; have HGb := hide (box_grown HGb.out hgN (by simp)); have HV := hide (box_grown HV.out hgN (by simp)); have HP := hide (box_grown HP.out hgN (by simp)); have Hav := hide (box_grown Hav.out hgN (by simp)); have Hae := hide (box_grown Hae.out hgN (by simp)); have HG := hide (grownBy_trans HG.out hgN); clear h1 e1 g1 hgN HA HE HN) | fail)
        generalize hAe : w28.heap.size = Bx at *
        clear hAe
        have HO : Hid (w.heap.size ≤ G ∧ G < V ∧ V < P ∧ P < Ax ∧ P < Bx ∧ Ax + 1 < Bx) := hide ⟨HO.out.1, HO.out.2.1, HO.out.2.2.1, HO.out.2.2.2, HPb.out, HLab.out⟩
        clear HPb HLab
        have b0 : w29.cell? ⟨P, 1, none⟩ = some (.int .i64 (k : Int)) := blk_cell HP.out 1
        have b1 := blk_free HP.out (1)
        have HX : Hid ((w29.setCell ⟨P, 1, none⟩ (.int .i64 (k1 : Int))).heap[P]? = some (.cells #[.int .i64 10, .int .i64 (k1 : Int), .int .i64 0, .int .i64 0] 43 (0, 0))) := hide (blk_set HP.out (by rfl))
        have HGb := hide ((heap_else w29 (1) (.int .i64 (k1 : Int)) (show P ≠ G by have := box_lt HP.out; have := box_lt HGb.out; have := HO.out; omega)).trans HGb.out)
        have HV := hide ((heap_else w29 (1) (.int .i64 (k1 : Int)) (show P ≠ V by have := box_lt HP.out; have := box_lt HV.out; have := HO.out; omega)).trans HV.out)
        have Hav := hide ((heap_else w29 (1) (.int .i64 (k1 : Int)) (show P ≠ Ax by have := box_lt HP.out; have := box_lt Hav.out; have := HO.out; omega)).trans Hav.out)
        have Hae := hide ((heap_else w29 (1) (.int .i64 (k1 : Int)) (show P ≠ Ax + 1 by have := box_lt HP.out; have := box_lt Hae.out; have := HO.out; omega)).trans Hae.out)
        have Hbv := hide ((heap_else w29 (1) (.int .i64 (k1 : Int)) (show P ≠ Bx by have := box_lt HP.out; have := box_lt Hbv.out; have := HO.out; omega)).trans Hbv.out)
        have Hbe := hide ((heap_else w29 (1) (.int .i64 (k1 : Int)) (show P ≠ Bx + 1 by have := box_lt HP.out; have := box_lt Hbe.out; have := HO.out; omega)).trans Hbe.out)
        have HG := hide (grown_set_new (R := P) (j := 1) (u := .int .i64 (k1 : Int)) (by have := HO.out; omega) HG.out)
        go_upto_region 17 with (first | fail)
        generalize hwn : w29.setCell ⟨P, 1, none⟩ (.int .i64 (k1 : Int)) = w30 at *
        clear hwn b0 b1 HP
        have HP := HX
        clear HX
        go_wp2_with (first | ((with_reducible refine list_load 25 (.tmp 15) (V) 25 #[.int .i64 0, .int .i64 77, .int .i64 0, .int .i64 0, .int .i64 5, .int .i64 0, .int .i64 0, .int .i64 0, .int .i64 0, .int .i64 0, .int .i64 0, .int .i64 0, .int .i64 0, .int .i64 0, .int .i64 0, .int .i64 0, .int .i64 0, .int .i64 0] (0, 0) _ ?hw ?hx ?hg Tryd.underlying25 ?hd ?hi ?_); (case hw => kernel_rfl); (case hx => rfl); (case hg => exact HV.out); (case hd => rfl); (case hi => exact sizeVm)) | fail)
        refine (C3.out _ HG.out HGb.out HP.out).mono ?_; rintro e w31 ⟨rfl, hg⟩
        have HGb := hide (box_grown HGb.out hg (by simp))
        have HV := hide (box_grown HV.out hg (by simp))
        have HP := hide (box_grown HP.out hg (by simp))
        have Hav := hide (box_grown Hav.out hg (by simp))
        have Hae := hide (box_grown Hae.out hg (by simp))
        have Hbv := hide (box_grown Hbv.out hg (by simp))
        have Hbe := hide (box_grown Hbe.out hg (by simp))
        have HG := hide (grownBy_trans HG.out hg)
        clear hg C3
        have HPc := hide (box_lt HP.out)
        have HLac := hide (box_lt Hae.out)
        have HLbc := hide (box_lt Hbe.out)
        go_upto_region 18 with (first | ((with_reducible refine list_store 25 (.tmp 23) (.tmp 100) (w31.heap.size) #[.int .i64 1, .int .i64 g, .int .i64 0, .int .i64 0, .int .i64 5, .int .i64 0, .int .i64 0, .int .i64 0, .int .i64 0, .int .i64 0, .int .i64 0, .int .i64 0, .int .i64 0, .int .i64 0, .int .i64 0, .int .i64 0, .int .i64 0, .int .i64 0] 25 #[.int .i64 0, .int .i64 0, .int .i64 0, .int .i64 0, .int .i64 0, .int .i64 0, .int .i64 0, .int .i64 0, .int .i64 0, .int .i64 0, .int .i64 0, .int .i64 0, .int .i64 0, .int .i64 0, .int .i64 0, .int .i64 0, .int .i64 0, .int .i64 0] ?hx ?hy ?hg ?hi ?ho ?h1 ?_); (case hx => rfl); (case hy => rfl); (case hg => exact box_grown (World.heap_alloc_new _ _) (World.grownBy_alloc _ _ none) (by simp)); (case hi => exact sizeVm); (case ho => rfl); (case h1 => simp [Value.oneCell']); intro w32a h1 e1 g1; have HA := hide h1; have HE := hide ((e1 (w31.heap.size + 1) (by omega)).trans (alloc_next _ _ _)); have HN := hide (grown_spoil (grownBy_trans (World.grownBy_alloc w31 _ none) (World.grownBy_alloc _ _ none)) (Nat.le_refl _) g1); clear h1 e1 g1) | ((with_reducible refine list_store 30 (.tmp 24) (.tmp 101) (w31.heap.size + 1) #[.bool false, .int .i64 (-1), .int .i64 (k1 : Int), .int .i64 0, .bool false] 30 #[.bool false, .int .i64 0, .int .i64 0, .int .i64 0, .bool false] ?hx ?hy ?hg ?hi ?ho ?h1 ?_); (case hx => rfl); (case hy => rfl); (case hg => exact HE.out); (case hi => exact sizeEf); (case ho => rfl); (case h1 => simp [Value.oneCell']); intro w32 h1 e1 g1; have Hcv := hide ((e1 (w31.heap.size) (by omega)).trans HA.out); have Hce := hide h1; have hgN := grown_spoil HN.out (Nat.le_succ _) g1; have HGb := hide (box_grown HGb.out hgN (by simp)); have HV := hide (box_grown HV.out hgN (by simp)); have HP := hide (box_grown HP.out hgN (by simp)); have Hav := hide (box_grown Hav.out hgN (by simp)); have Hae := hide (box_grown Hae.out hgN (by simp)); have Hbv := hide (box_grown Hbv.out hgN (by simp)); have Hbe := hide (box_grown Hbe.out hgN (by simp)); have HG := hide (grownBy_trans HG.out hgN); clear h1 e1 g1 hgN HA HE HN) | fail)
        generalize hAe : w31.heap.size = Cx at *
        clear hAe
        have HO : Hid (w.heap.size ≤ G ∧ G < V ∧ V < P ∧ P < Ax ∧ P < Bx ∧ Ax + 1 < Bx ∧ P < Cx ∧ Ax + 1 < Cx ∧ Bx + 1 < Cx) := hide ⟨HO.out.1, HO.out.2.1, HO.out.2.2.1, HO.out.2.2.2.1, HO.out.2.2.2.2.1, HO.out.2.2.2.2.2, HPc.out, HLac.out, HLbc.out⟩
        clear HPc HLac HLbc
        have b0 : w32.cell? ⟨P, 0, none⟩ = some (.int .i64 10) := blk_cell HP.out 0
        have b2 : w32.cell? ⟨P, 1, none⟩ = some (.int .i64 (k1 : Int)) := blk_cell HP.out 1
        have b1 := blk_free HP.out 0
        have b3 := blk_free HP.out 1
        have HX : Hid (((w32.setCell ⟨P, 0, none⟩ (.int .i64 8)).setCell ⟨P, 1, none⟩ (.int .i64 0)).heap[P]? = some (.cells #[.int .i64 8, .int .i64 0, .int .i64 0, .int .i64 0] 43 (0, 0))) := hide (blk_set (blk_set HP.out (by rfl)) (by rfl))
        have HGb := hide (((heap_else _ 1 (.int .i64 0) (show P ≠ G by have := HO.out; omega)).trans (heap_else w32 0 (.int .i64 8) (show P ≠ G by have := HO.out; omega))).trans HGb.out)
        have HV := hide (((heap_else _ 1 (.int .i64 0) (show P ≠ V by have := HO.out; omega)).trans (heap_else w32 0 (.int .i64 8) (show P ≠ V by have := HO.out; omega))).trans HV.out)
        have Hav := hide (((heap_else _ 1 (.int .i64 0) (show P ≠ Ax by have := HO.out; omega)).trans (heap_else w32 0 (.int .i64 8) (show P ≠ Ax by have := HO.out; omega))).trans Hav.out)
        have Hae := hide (((heap_else _ 1 (.int .i64 0) (show P ≠ Ax + 1 by have := HO.out; omega)).trans (heap_else w32 0 (.int .i64 8) (show P ≠ Ax + 1 by have := HO.out; omega))).trans Hae.out)
        have Hbv := hide (((heap_else _ 1 (.int .i64 0) (show P ≠ Bx by have := HO.out; omega)).trans (heap_else w32 0 (.int .i64 8) (show P ≠ Bx by have := HO.out; omega))).trans Hbv.out)
        have Hbe := hide (((heap_else _ 1 (.int .i64 0) (show P ≠ Bx + 1 by have := HO.out; omega)).trans (heap_else w32 0 (.int .i64 8) (show P ≠ Bx + 1 by have := HO.out; omega))).trans Hbe.out)
        have Hcv := hide (((heap_else _ 1 (.int .i64 0) (show P ≠ Cx by have := HO.out; omega)).trans (heap_else w32 0 (.int .i64 8) (show P ≠ Cx by have := HO.out; omega))).trans Hcv.out)
        have Hce := hide (((heap_else _ 1 (.int .i64 0) (show P ≠ Cx + 1 by have := HO.out; omega)).trans (heap_else w32 0 (.int .i64 8) (show P ≠ Cx + 1 by have := HO.out; omega))).trans Hce.out)
        have HG := hide (grown_set_new (R := P) (j := 1) (u := .int .i64 0) (by have := HO.out; omega) (grown_set_new (R := P) (j := 0) (u := .int .i64 8) (by have := HO.out; omega) HG.out))
        go_upto_region 19 with fail
        generalize hwn : (w32.setCell ⟨P, 0, none⟩ (.int .i64 8)).setCell ⟨P, 1, none⟩ (.int .i64 0) = w33 at *
        clear hwn b0 b1 b2 b3 HP
        have HP := HX
        clear HX
        go_wp2_with (first | ((with_reducible refine list_load 25 (.tmp 15) (V) 25 #[.int .i64 0, .int .i64 77, .int .i64 0, .int .i64 0, .int .i64 5, .int .i64 0, .int .i64 0, .int .i64 0, .int .i64 0, .int .i64 0, .int .i64 0, .int .i64 0, .int .i64 0, .int .i64 0, .int .i64 0, .int .i64 0, .int .i64 0, .int .i64 0] (0, 0) _ ?hw ?hx ?hg Tryd.underlying25 ?hd ?hi ?_); (case hw => kernel_rfl); (case hx => rfl); (case hg => exact HV.out); (case hd => rfl); (case hi => exact sizeVm)) | fail)
        refine (C4.out _ HG.out HGb.out HP.out).mono ?_; rintro e w34 ⟨rfl, hg⟩
        have HGb := hide (box_grown HGb.out hg (by simp))
        have HV := hide (box_grown HV.out hg (by simp))
        have HP := hide (box_grown HP.out hg (by simp))
        have Hav := hide (box_grown Hav.out hg (by simp))
        have Hae := hide (box_grown Hae.out hg (by simp))
        have Hbv := hide (box_grown Hbv.out hg (by simp))
        have Hbe := hide (box_grown Hbe.out hg (by simp))
        have Hcv := hide (box_grown Hcv.out hg (by simp))
        have Hce := hide (box_grown Hce.out hg (by simp))
        have HG := hide (grownBy_trans HG.out hg)
        clear hg C4
        have HPd := hide (box_lt HP.out)
        have HLad := hide (box_lt Hae.out)
        have HLbd := hide (box_lt Hbe.out)
        have HLcd := hide (box_lt Hce.out)
        go_upto_region 20 with (first | ((with_reducible refine list_store 25 (.tmp 26) (.tmp 112) (w34.heap.size) #[.int .i64 1, .int .i64 x, .int .i64 0, .int .i64 0, .int .i64 5, .int .i64 0, .int .i64 0, .int .i64 0, .int .i64 0, .int .i64 0, .int .i64 0, .int .i64 0, .int .i64 0, .int .i64 0, .int .i64 0, .int .i64 0, .int .i64 0, .int .i64 0] 25 #[.int .i64 0, .int .i64 0, .int .i64 0, .int .i64 0, .int .i64 0, .int .i64 0, .int .i64 0, .int .i64 0, .int .i64 0, .int .i64 0, .int .i64 0, .int .i64 0, .int .i64 0, .int .i64 0, .int .i64 0, .int .i64 0, .int .i64 0, .int .i64 0] ?hx ?hy ?hg ?hi ?ho ?h1 ?_); (case hx => rfl); (case hy => rfl); (case hg => exact box_grown (World.heap_alloc_new _ _) (World.grownBy_alloc _ _ none) (by simp)); (case hi => exact sizeVm); (case ho => rfl); (case h1 => simp [Value.oneCell']); intro w35a h1 e1 g1; have HA := hide h1; have HE := hide ((e1 (w34.heap.size + 1) (by omega)).trans (alloc_next _ _ _)); have HN := hide (grown_spoil (grownBy_trans (World.grownBy_alloc w34 _ none) (World.grownBy_alloc _ _ none)) (Nat.le_refl _) g1); clear h1 e1 g1) | ((with_reducible refine list_store 30 (.tmp 27) (.tmp 113) (w34.heap.size + 1) #[.bool true, .int .i64 (-1), .int .i64 (-1), .int .i64 0, .bool false] 30 #[.bool false, .int .i64 0, .int .i64 0, .int .i64 0, .bool false] ?hx ?hy ?hg ?hi ?ho ?h1 ?_); (case hx => rfl); (case hy => rfl); (case hg => exact HE.out); (case hi => exact sizeEf); (case ho => rfl); (case h1 => simp [Value.oneCell']); intro w35 h1 e1 g1; have Hdv := hide ((e1 (w34.heap.size) (by omega)).trans HA.out); have Hde := hide h1; have hgN := grown_spoil HN.out (Nat.le_succ _) g1; have HGb := hide (box_grown HGb.out hgN (by simp)); have HV := hide (box_grown HV.out hgN (by simp)); have HP := hide (box_grown HP.out hgN (by simp)); have Hav := hide (box_grown Hav.out hgN (by simp)); have Hae := hide (box_grown Hae.out hgN (by simp)); have Hbv := hide (box_grown Hbv.out hgN (by simp)); have Hbe := hide (box_grown Hbe.out hgN (by simp)); have Hcv := hide (box_grown Hcv.out hgN (by simp)); have Hce := hide (box_grown Hce.out hgN (by simp)); have HG := hide (grownBy_trans HG.out hgN); clear h1 e1 g1 hgN HA HE HN) | fail)
        generalize hAe : w34.heap.size = Dx at *
        clear hAe
        have HO : Hid (w.heap.size ≤ G ∧ G < V ∧ V < P ∧ P < Ax ∧ P < Bx ∧ Ax + 1 < Bx ∧ P < Cx ∧ Ax + 1 < Cx ∧ Bx + 1 < Cx ∧ P < Dx ∧ Ax + 1 < Dx ∧ Bx + 1 < Dx ∧ Cx + 1 < Dx) := hide ⟨HO.out.1, HO.out.2.1, HO.out.2.2.1, HO.out.2.2.2.1, HO.out.2.2.2.2.1, HO.out.2.2.2.2.2.1, HO.out.2.2.2.2.2.2.1, HO.out.2.2.2.2.2.2.2.1, HO.out.2.2.2.2.2.2.2.2, HPd.out, HLad.out, HLbd.out, HLcd.out⟩
        clear HPd HLad HLbd HLcd
        have HLd := hide (box_lt Hde.out)
        go_upto_region 21 with (first | ((with_reducible refine list_load 25 (.tmp 15) (V) 25 #[.int .i64 0, .int .i64 77, .int .i64 0, .int .i64 0, .int .i64 5, .int .i64 0, .int .i64 0, .int .i64 0, .int .i64 0, .int .i64 0, .int .i64 0, .int .i64 0, .int .i64 0, .int .i64 0, .int .i64 0, .int .i64 0, .int .i64 0, .int .i64 0] (0, 0) _ ?hw ?hx ?hg Tryd.underlying25 ?hd ?hi ?_); (case hw => kernel_rfl); (case hx => rfl); (case hg => exact HV.out); (case hd => rfl); (case hi => exact sizeVm)) | ((with_reducible refine list_store 25 (.tmp 29) (.tmp 115) (w35.heap.size) #[.int .i64 0, .int .i64 77, .int .i64 0, .int .i64 0, .int .i64 5, .int .i64 0, .int .i64 0, .int .i64 0, .int .i64 0, .int .i64 0, .int .i64 0, .int .i64 0, .int .i64 0, .int .i64 0, .int .i64 0, .int .i64 0, .int .i64 0, .int .i64 0] 25 #[.int .i64 0, .int .i64 0, .int .i64 0, .int .i64 0, .int .i64 0, .int .i64 0, .int .i64 0, .int .i64 0, .int .i64 0, .int .i64 0, .int .i64 0, .int .i64 0, .int .i64 0, .int .i64 0, .int .i64 0, .int .i64 0, .int .i64 0, .int .i64 0] ?hx ?hy ?hg ?hi ?ho ?h1 ?_); (case hx => rfl); (case hy => rfl); (case hg => exact World.heap_alloc_new _ _); (case hi => exact sizeVm); (case ho => rfl); (case h1 => simp [Value.oneCell']); intro w36 h1 e1 g1; have Hbad := hide h1; have hgN := grown_spoil (World.grownBy_alloc w35 _ none) (Nat.le_refl _) g1; have HGb := hide (box_grown HGb.out hgN (by simp)); have HV := hide (box_grown HV.out hgN (by simp)); have HP := hide (box_grown HP.out hgN (by simp)); have Hav := hide (box_grown Hav.out hgN (by simp)); have Hae := hide (box_grown Hae.out hgN (by simp)); have Hbv := hide (box_grown Hbv.out hgN (by simp)); have Hbe := hide (box_grown Hbe.out hgN (by simp)); have Hcv := hide (box_grown Hcv.out hgN (by simp)); have Hce := hide (box_grown Hce.out hgN (by simp)); have Hdv := hide (box_grown Hdv.out hgN (by simp)); have Hde := hide (box_grown Hde.out hgN (by simp)); have HG := hide (grownBy_trans HG.out hgN); clear h1 e1 g1 hgN) | fail)
        generalize hBe : w35.heap.size = Bad at *
        clear hBe
        have HO : Hid (w.heap.size ≤ G ∧ G < V ∧ V < P ∧ P < Ax ∧ P < Bx ∧ Ax + 1 < Bx ∧ P < Cx ∧ Ax + 1 < Cx ∧ Bx + 1 < Cx ∧ P < Dx ∧ Ax + 1 < Dx ∧ Bx + 1 < Dx ∧ Cx + 1 < Dx ∧ Dx + 1 < Bad) := hide ⟨HO.out.1, HO.out.2.1, HO.out.2.2.1, HO.out.2.2.2.1, HO.out.2.2.2.2.1, HO.out.2.2.2.2.2.1, HO.out.2.2.2.2.2.2.1, HO.out.2.2.2.2.2.2.2.1, HO.out.2.2.2.2.2.2.2.2.1, HO.out.2.2.2.2.2.2.2.2.2.1, HO.out.2.2.2.2.2.2.2.2.2.2.1, HO.out.2.2.2.2.2.2.2.2.2.2.2.1, HO.out.2.2.2.2.2.2.2.2.2.2.2.2, HLd.out⟩
        clear HLd
        have b0 : w36.cell? ⟨Bad, 1, none⟩ = some (.int .i64 77) := blk_cell Hbad.out 1
        have b1 := blk_free Hbad.out (1)
        have HX : Hid ((w36.setCell ⟨Bad, 1, none⟩ (.int .i64 0)).heap[Bad]? = some (.cells #[.int .i64 0, .int .i64 0, .int .i64 0, .int .i64 0, .int .i64 5, .int .i64 0, .int .i64 0, .int .i64 0, .int .i64 0, .int .i64 0, .int .i64 0, .int .i64 0, .int .i64 0, .int .i64 0, .int .i64 0, .int .i64 0, .int .i64 0, .int .i64 0] 25 (0, 0))) := hide (blk_set Hbad.out (by rfl))
        have HGb := hide ((heap_else w36 (1) (.int .i64 0) (show Bad ≠ G by have := box_lt Hbad.out; have := box_lt HGb.out; have := HO.out; omega)).trans HGb.out)
        have HV := hide ((heap_else w36 (1) (.int .i64 0) (show Bad ≠ V by have := box_lt Hbad.out; have := box_lt HV.out; have := HO.out; omega)).trans HV.out)
        have HP := hide ((heap_else w36 (1) (.int .i64 0) (show Bad ≠ P by have := box_lt Hbad.out; have := box_lt HP.out; have := HO.out; omega)).trans HP.out)
        have Hav := hide ((heap_else w36 (1) (.int .i64 0) (show Bad ≠ Ax by have := box_lt Hbad.out; have := box_lt Hav.out; have := HO.out; omega)).trans Hav.out)
        have Hae := hide ((heap_else w36 (1) (.int .i64 0) (show Bad ≠ Ax + 1 by have := box_lt Hbad.out; have := box_lt Hae.out; have := HO.out; omega)).trans Hae.out)
        have Hbv := hide ((heap_else w36 (1) (.int .i64 0) (show Bad ≠ Bx by have := box_lt Hbad.out; have := box_lt Hbv.out; have := HO.out; omega)).trans Hbv.out)
        have Hbe := hide ((heap_else w36 (1) (.int .i64 0) (show Bad ≠ Bx + 1 by have := box_lt Hbad.out; have := box_lt Hbe.out; have := HO.out; omega)).trans Hbe.out)
        have Hcv := hide ((heap_else w36 (1) (.int .i64 0) (show Bad ≠ Cx by have := box_lt Hbad.out; have := box_lt Hcv.out; have := HO.out; omega)).trans Hcv.out)
        have Hce := hide ((heap_else w36 (1) (.int .i64 0) (show Bad ≠ Cx + 1 by have := box_lt Hbad.out; have := box_lt Hce.out; have := HO.out; omega)).trans Hce.out)
        have Hdv := hide ((heap_else w36 (1) (.int .i64 0) (show Bad ≠ Dx by have := box_lt Hbad.out; have := box_lt Hdv.out; have := HO.out; omega)).trans Hdv.out)
        have Hde := hide ((heap_else w36 (1) (.int .i64 0) (show Bad ≠ Dx + 1 by have := box_lt Hbad.out; have := box_lt Hde.out; have := HO.out; omega)).trans Hde.out)
        have HG := hide (grown_set_new (R := Bad) (j := 1) (u := .int .i64 0) (by have := HO.out; omega) HG.out)
        go_upto_region 22 with (first | fail)
        generalize hwn : w36.setCell ⟨Bad, 1, none⟩ (.int .i64 0) = w37 at *
        clear hwn b0 b1 Hbad
        have Hbad := HX
        clear HX
        have HLb := hide (box_lt Hbad.out)
        go_upto_region 23 with (first | ((with_reducible refine list_store 30 (.tmp 30) (.tmp 117) (w37.heap.size) #[.bool false, .int .i64 (-1), .int .i64 (-1), .int .i64 0, .bool true] 30 #[.bool false, .int .i64 0, .int .i64 0, .int .i64 0, .bool false] ?hx ?hy ?hg ?hi ?ho ?h1 ?_); (case hx => rfl); (case hy => rfl); (case hg => exact World.heap_alloc_new _ _); (case hi => exact sizeEf); (case ho => rfl); (case h1 => simp [Value.oneCell']); intro w38 h1 e1 g1; have Hfa := hide h1; have hgN := grown_spoil (World.grownBy_alloc w37 _ none) (Nat.le_refl _) g1; have HGb := hide (box_grown HGb.out hgN (by simp)); have HV := hide (box_grown HV.out hgN (by simp)); have HP := hide (box_grown HP.out hgN (by simp)); have Hav := hide (box_grown Hav.out hgN (by simp)); have Hae := hide (box_grown Hae.out hgN (by simp)); have Hbv := hide (box_grown Hbv.out hgN (by simp)); have Hbe := hide (box_grown Hbe.out hgN (by simp)); have Hcv := hide (box_grown Hcv.out hgN (by simp)); have Hce := hide (box_grown Hce.out hgN (by simp)); have Hdv := hide (box_grown Hdv.out hgN (by simp)); have Hde := hide (box_grown Hde.out hgN (by simp)); have Hbad := hide (box_grown Hbad.out hgN (by simp)); have HG := hide (grownBy_trans HG.out hgN); clear h1 e1 g1 hgN) | fail)
        generalize hBe : w37.heap.size = Fa at *
        clear hBe HLb
        have hARR := arr_self
        have yHav0 : w38.cell? ⟨Ax, 0, none⟩ = some (.int .i64 1) := blk_cell Hav.out 0
        have yHav1 : w38.cell? ⟨Ax, 1, none⟩ = some (.int .i64 77) := blk_cell Hav.out 1
        have yHcv0 : w38.cell? ⟨Cx, 0, none⟩ = some (.int .i64 1) := blk_cell Hcv.out 0
        have yHcv1 : w38.cell? ⟨Cx, 1, none⟩ = some (.int .i64 g) := blk_cell Hcv.out 1
        have yHdv1 : w38.cell? ⟨Dx, 1, none⟩ = some (.int .i64 x) := blk_cell Hdv.out 1
        generalize hq : o / 2 ^ k = q at *
        go_wp2_with (first | (go_at_call 13; refine (NUM.out _ _).mono ?_; rintro e wn ⟨rfl, rfl⟩) | ((with_reducible refine list_load 25 (.tmp 17) (Ax) 25 #[.int .i64 1, .int .i64 77, .int .i64 0, .int .i64 0, .int .i64 5, .int .i64 0, .int .i64 0, .int .i64 0, .int .i64 0, .int .i64 0, .int .i64 0, .int .i64 0, .int .i64 0, .int .i64 0, .int .i64 0, .int .i64 0, .int .i64 0, .int .i64 0] (0, 0) _ ?hw ?hx ?hg Tryd.underlying25 ?hd ?hi ?_); (case hw => kernel_rfl); (case hx => rfl); (case hg => exact Hav.out); (case hd => rfl); (case hi => exact sizeVm)) | ((with_reducible refine list_load 30 (.tmp 18) (Ax + 1) 30 #[.bool false, .int .i64 (k : Int), .int .i64 (-1), .int .i64 77, .bool false] (0, 0) _ ?hw ?hx ?hg Tryd.underlying30 ?hd ?hi ?_); (case hw => kernel_rfl); (case hx => rfl); (case hg => exact Hae.out); (case hd => rfl); (case hi => exact sizeEf)) | ((with_reducible refine list_load 25 (.tmp 20) (Bx) 25 #[.int .i64 0, .int .i64 0, .int .i64 0, .int .i64 0, .int .i64 5, .int .i64 0, .int .i64 0, .int .i64 0, .int .i64 0, .int .i64 0, .int .i64 0, .int .i64 0, .int .i64 0, .int .i64 0, .int .i64 0, .int .i64 0, .int .i64 0, .int .i64 0] (0, 0) _ ?hw ?hx ?hg Tryd.underlying25 ?hd ?hi ?_); (case hw => kernel_rfl); (case hx => rfl); (case hg => exact Hbv.out); (case hd => rfl); (case hi => exact sizeVm)) | ((with_reducible refine list_load 30 (.tmp 21) (Bx + 1) 30 #[.bool false, .int .i64 (-1), .int .i64 (-1), .int .i64 0, .bool true] (0, 0) _ ?hw ?hx ?hg Tryd.underlying30 ?hd ?hi ?_); (case hw => kernel_rfl); (case hx => rfl); (case hg => exact Hbe.out); (case hd => rfl); (case hi => exact sizeEf)) | ((with_reducible refine list_load 30 (.tmp 24) (Cx + 1) 30 #[.bool false, .int .i64 (-1), .int .i64 (k1 : Int), .int .i64 0, .bool false] (0, 0) _ ?hw ?hx ?hg Tryd.underlying30 ?hd ?hi ?_); (case hw => kernel_rfl); (case hx => rfl); (case hg => exact Hce.out); (case hd => rfl); (case hi => exact sizeEf)) | ((with_reducible refine list_load 30 (.tmp 27) (Dx + 1) 30 #[.bool true, .int .i64 (-1), .int .i64 (-1), .int .i64 0, .bool false] (0, 0) _ ?hw ?hx ?hg Tryd.underlying30 ?hd ?hi ?_); (case hw => kernel_rfl); (case hx => rfl); (case hg => exact Hde.out); (case hd => rfl); (case hi => exact sizeEf)) | ((with_reducible refine list_load 25 (.tmp 29) (Bad) 25 #[.int .i64 0, .int .i64 0, .int .i64 0, .int .i64 0, .int .i64 5, .int .i64 0, .int .i64 0, .int .i64 0, .int .i64 0, .int .i64 0, .int .i64 0, .int .i64 0, .int .i64 0, .int .i64 0, .int .i64 0, .int .i64 0, .int .i64 0, .int .i64 0] (0, 0) _ ?hw ?hx ?hg Tryd.underlying25 ?hd ?hi ?_); (case hw => kernel_rfl); (case hx => rfl); (case hg => exact Hbad.out); (case hd => rfl); (case hi => exact sizeVm)) | ((with_reducible refine list_load 30 (.tmp 30) (Fa) 30 #[.bool false, .int .i64 (-1), .int .i64 (-1), .int .i64 0, .bool true] (0, 0) _ ?hw ?hx ?hg Tryd.underlying30 ?hd ?hi ?_); (case hw => kernel_rfl); (case hx => rfl); (case hg => exact Hfa.out); (case hd => rfl); (case hi => exact sizeEf)) | fail)
        go_ret
        exact ⟨by first | rfl | simp, HG.out⟩
      · have HQ := hide hq
        rw [hq] at hbit
        clear hq
        have C1 : Hid (∀ W, w.grownBy W none → W.heap[G]? = some (.cells (gC (upd (fun _ => -1) k1 g)) 3 (0, 0)) → W.heap[P]? = some (.cells #[.int .i64 9, .int .i64 (k : Int), .int .i64 0, .int .i64 0] 43 (0, 0)) → Calls Tryd.prog 11 #[.slice (some ⟨P, 0, none⟩) 2 2, .agg #[.int .i64 0, .int .i64 77, .int .i64 0, .int .i64 0, .int .i64 5, .int .i64 0, .int .i64 0, .int .i64 0, .int .i64 0, .int .i64 0, .int .i64 0, .int .i64 0, .int .i64 0, .int .i64 0, .int .i64 0, .int .i64 0, .int .i64 0, .int .i64 0], .int .i64 x, .int .i64 o, .slice (some ⟨G, 0, none⟩) 8 8] W fun e w' => e = .returned (.tuple #[.agg #[.int .i64 0, .int .i64 0, .int .i64 0, .int .i64 0, .int .i64 5, .int .i64 0, .int .i64 0, .int .i64 0, .int .i64 0, .int .i64 0, .int .i64 0, .int .i64 0, .int .i64 0, .int .i64 0, .int .i64 0, .int .i64 0, .int .i64 0, .int .i64 0], .agg #[.bool false, .int .i64 (-1), .int .i64 (-1), .int .i64 0, .bool true], .int .i64 0]) ∧ W.grownBy w' none) := hide (fun W hg hg8 hb =>
          step_at (lo := G) (.slice (some ⟨P, 0, none⟩) 2 2) [(9, (k : Int)), (0, 0)] ⟨0, 77, m5⟩ x o (.slice (some ⟨G, 0, none⟩) 8 8) (gsF k1 g) (p_out0 hk hk1 ho0 ho1 hg0 hg1 hx0 hx1 HQ.out) W (by simp) (HT.out W hg) (preads_row (row_lit (S := shI) (xs := [(9, (k : Int)), (0, 0)]) 2 hb (by rfl) (by rfl) (by simp))) (row_lit (S := shN) (xs := gsF k1 g) 8 hg8 (by rfl) (by rfl) (by simp)))
        have C2 : Hid (∀ W, w.grownBy W none → W.heap[G]? = some (.cells (gC (upd (fun _ => -1) k1 g)) 3 (0, 0)) → W.heap[P]? = some (.cells #[.int .i64 10, .int .i64 (k : Int), .int .i64 0, .int .i64 0] 43 (0, 0)) → Calls Tryd.prog 11 #[.slice (some ⟨P, 0, none⟩) 2 2, .agg #[.int .i64 0, .int .i64 77, .int .i64 0, .int .i64 0, .int .i64 5, .int .i64 0, .int .i64 0, .int .i64 0, .int .i64 0, .int .i64 0, .int .i64 0, .int .i64 0, .int .i64 0, .int .i64 0, .int .i64 0, .int .i64 0, .int .i64 0, .int .i64 0], .int .i64 x, .int .i64 o, .slice (some ⟨G, 0, none⟩) 8 8] W fun e w' => e = .returned (.tuple #[.agg #[.int .i64 0, .int .i64 0, .int .i64 0, .int .i64 0, .int .i64 5, .int .i64 0, .int .i64 0, .int .i64 0, .int .i64 0, .int .i64 0, .int .i64 0, .int .i64 0, .int .i64 0, .int .i64 0, .int .i64 0, .int .i64 0, .int .i64 0, .int .i64 0], .agg #[.bool false, .int .i64 (-1), .int .i64 (-1), .int .i64 0, .bool true], .int .i64 0]) ∧ W.grownBy w' none) := hide (fun W hg hg8 hb =>
          step_at (lo := G) (.slice (some ⟨P, 0, none⟩) 2 2) [(10, (k : Int)), (0, 0)] ⟨0, 77, m5⟩ x o (.slice (some ⟨G, 0, none⟩) 8 8) (gsF k1 g) (p_get0 hk hk1 HNE.out ho0 ho1 hg0 hg1 hx0 hx1) W (by simp) (HT.out W hg) (preads_row (row_lit (S := shI) (xs := [(10, (k : Int)), (0, 0)]) 2 hb (by rfl) (by rfl) (by simp))) (row_lit (S := shN) (xs := gsF k1 g) 8 hg8 (by rfl) (by rfl) (by simp)))
        have C3 : Hid (∀ W, w.grownBy W none → W.heap[G]? = some (.cells (gC (upd (fun _ => -1) k1 g)) 3 (0, 0)) → W.heap[P]? = some (.cells #[.int .i64 10, .int .i64 (k1 : Int), .int .i64 0, .int .i64 0] 43 (0, 0)) → Calls Tryd.prog 11 #[.slice (some ⟨P, 0, none⟩) 2 2, .agg #[.int .i64 0, .int .i64 77, .int .i64 0, .int .i64 0, .int .i64 5, .int .i64 0, .int .i64 0, .int .i64 0, .int .i64 0, .int .i64 0, .int .i64 0, .int .i64 0, .int .i64 0, .int .i64 0, .int .i64 0, .int .i64 0, .int .i64 0, .int .i64 0], .int .i64 x, .int .i64 o, .slice (some ⟨G, 0, none⟩) 8 8] W fun e w' => e = .returned (.tuple #[.agg #[.int .i64 1, .int .i64 g, .int .i64 0, .int .i64 0, .int .i64 5, .int .i64 0, .int .i64 0, .int .i64 0, .int .i64 0, .int .i64 0, .int .i64 0, .int .i64 0, .int .i64 0, .int .i64 0, .int .i64 0, .int .i64 0, .int .i64 0, .int .i64 0], .agg #[.bool false, .int .i64 (-1), .int .i64 (k1 : Int), .int .i64 0, .bool false], .int .i64 0]) ∧ W.grownBy w' none) := hide (fun W hg hg8 hb =>
          step_at (lo := G) (.slice (some ⟨P, 0, none⟩) 2 2) [(10, (k1 : Int)), (0, 0)] ⟨0, 77, m5⟩ x o (.slice (some ⟨G, 0, none⟩) 8 8) (gsF k1 g) (p_get1 hk hk1 ho0 ho1 hg0 hg1 hx0 hx1) W (by simp) (HT.out W hg) (preads_row (row_lit (S := shI) (xs := [(10, (k1 : Int)), (0, 0)]) 2 hb (by rfl) (by rfl) (by simp))) (row_lit (S := shN) (xs := gsF k1 g) 8 hg8 (by rfl) (by rfl) (by simp)))
        have C4 : Hid (∀ W, w.grownBy W none → W.heap[G]? = some (.cells (gC (upd (fun _ => -1) k1 g)) 3 (0, 0)) → W.heap[P]? = some (.cells #[.int .i64 8, .int .i64 0, .int .i64 0, .int .i64 0] 43 (0, 0)) → Calls Tryd.prog 11 #[.slice (some ⟨P, 0, none⟩) 2 2, .agg #[.int .i64 0, .int .i64 77, .int .i64 0, .int .i64 0, .int .i64 5, .int .i64 0, .int .i64 0, .int .i64 0, .int .i64 0, .int .i64 0, .int .i64 0, .int .i64 0, .int .i64 0, .int .i64 0, .int .i64 0, .int .i64 0, .int .i64 0, .int .i64 0], .int .i64 x, .int .i64 o, .slice none 0 0] W fun e w' => e = .returned (.tuple #[.agg #[.int .i64 1, .int .i64 x, .int .i64 0, .int .i64 0, .int .i64 5, .int .i64 0, .int .i64 0, .int .i64 0, .int .i64 0, .int .i64 0, .int .i64 0, .int .i64 0, .int .i64 0, .int .i64 0, .int .i64 0, .int .i64 0, .int .i64 0, .int .i64 0], .agg #[.bool true, .int .i64 (-1), .int .i64 (-1), .int .i64 0, .bool false], .int .i64 0]) ∧ W.grownBy w' none) := hide (fun W hg hg8 hb =>
          step_at (lo := 0) (.slice (some ⟨P, 0, none⟩) 2 2) [(8, 0), (0, 0)] ⟨0, 77, m5⟩ x o (.slice none 0 0) [] (p_in ho0 ho1 hx0 hx1) W (by simp) (HT.out W hg) (preads_row (row_lit (S := shI) (xs := [(8, 0), (0, 0)]) 2 hb (by rfl) (by rfl) (by simp))) (rowAt_nil _ _ _ _))
        skip
        go_wp2_with (first | ((with_reducible refine list_load 25 (.tmp 15) (V) 25 #[.int .i64 0, .int .i64 77, .int .i64 0, .int .i64 0, .int .i64 5, .int .i64 0, .int .i64 0, .int .i64 0, .int .i64 0, .int .i64 0, .int .i64 0, .int .i64 0, .int .i64 0, .int .i64 0, .int .i64 0, .int .i64 0, .int .i64 0, .int .i64 0] (0, 0) _ ?hw ?hx ?hg Tryd.underlying25 ?hd ?hi ?_); (case hw => kernel_rfl); (case hx => rfl); (case hg => exact HV.out); (case hd => rfl); (case hi => exact sizeVm)) | fail)
        refine (C1.out _ HG.out HGb.out HP.out).mono ?_; rintro e w25 ⟨rfl, hg⟩
        have HGb := hide (box_grown HGb.out hg (by simp))
        have HV := hide (box_grown HV.out hg (by simp))
        have HP := hide (box_grown HP.out hg (by simp))
        have HG := hide (grownBy_trans HG.out hg)
        clear hg C1
        have HPa := hide (box_lt HP.out)
        go_upto_region 14 with (first | ((with_reducible refine list_store 25 (.tmp 17) (.tmp 70) (w25.heap.size) #[.int .i64 0, .int .i64 0, .int .i64 0, .int .i64 0, .int .i64 5, .int .i64 0, .int .i64 0, .int .i64 0, .int .i64 0, .int .i64 0, .int .i64 0, .int .i64 0, .int .i64 0, .int .i64 0, .int .i64 0, .int .i64 0, .int .i64 0, .int .i64 0] 25 #[.int .i64 0, .int .i64 0, .int .i64 0, .int .i64 0, .int .i64 0, .int .i64 0, .int .i64 0, .int .i64 0, .int .i64 0, .int .i64 0, .int .i64 0, .int .i64 0, .int .i64 0, .int .i64 0, .int .i64 0, .int .i64 0, .int .i64 0, .int .i64 0] ?hx ?hy ?hg ?hi ?ho ?h1 ?_); (case hx => rfl); (case hy => rfl); (case hg => exact box_grown (World.heap_alloc_new _ _) (World.grownBy_alloc _ _ none) (by simp)); (case hi => exact sizeVm); (case ho => rfl); (case h1 => simp [Value.oneCell']); intro w26a h1 e1 g1; have HA := hide h1; have HE := hide ((e1 (w25.heap.size + 1) (by omega)).trans (alloc_next _ _ _)); have HN := hide (grown_spoil (grownBy_trans (World.grownBy_alloc w25 _ none) (World.grownBy_alloc _ _ none)) (Nat.le_refl _) g1); clear h1 e1 g1) | ((with_reducible refine list_store 30 (.tmp 18) (.tmp 71) (w25.heap.size + 1) #[.bool false, .int .i64 (-1), .int .i64 (-1), .int .i64 0, .bool true] 30 #[.bool false, .int .i64 0, .int .i64 0, .int .i64 0, .bool false] ?hx ?hy ?hg ?hi ?ho ?h1 ?_); (case hx => rfl); (case hy => rfl); (case hg => exact HE.out); (case hi => exact sizeEf); (case ho => rfl); (case h1 => simp [Value.oneCell']); intro w26 h1 e1 g1; have Hav := hide ((e1 (w25.heap.size) (by omega)).trans HA.out); have Hae := hide h1; have hgN := grown_spoil HN.out (Nat.le_succ _) g1; have HGb := hide (box_grown HGb.out hgN (by simp)); have HV := hide (box_grown HV.out hgN (by simp)); have HP := hide (box_grown HP.out hgN (by simp)); have HG := hide (grownBy_trans HG.out hgN); clear h1 e1 g1 hgN HA HE HN) | fail)
        generalize hAe : w25.heap.size = Ax at *
        clear hAe
        have HO : Hid (w.heap.size ≤ G ∧ G < V ∧ V < P ∧ P < Ax) := hide ⟨HO.out.1, HO.out.2.1, HO.out.2.2, HPa.out⟩
        clear HPa 
        have b0 : w26.cell? ⟨P, 0, none⟩ = some (.int .i64 9) := blk_cell HP.out 0
        have b2 : w26.cell? ⟨P, 1, none⟩ = some (.int .i64 (k : Int)) := blk_cell HP.out 1
        have b1 := blk_free HP.out 0
        have b3 := blk_free HP.out 1
        have HX : Hid (((w26.setCell ⟨P, 0, none⟩ (.int .i64 10)).setCell ⟨P, 1, none⟩ (.int .i64 (k : Int))).heap[P]? = some (.cells #[.int .i64 10, .int .i64 (k : Int), .int .i64 0, .int .i64 0] 43 (0, 0))) := hide (blk_set (blk_set HP.out (by rfl)) (by rfl))
        have HGb := hide (((heap_else _ 1 (.int .i64 (k : Int)) (show P ≠ G by have := HO.out; omega)).trans (heap_else w26 0 (.int .i64 10) (show P ≠ G by have := HO.out; omega))).trans HGb.out)
        have HV := hide (((heap_else _ 1 (.int .i64 (k : Int)) (show P ≠ V by have := HO.out; omega)).trans (heap_else w26 0 (.int .i64 10) (show P ≠ V by have := HO.out; omega))).trans HV.out)
        have Hav := hide (((heap_else _ 1 (.int .i64 (k : Int)) (show P ≠ Ax by have := HO.out; omega)).trans (heap_else w26 0 (.int .i64 10) (show P ≠ Ax by have := HO.out; omega))).trans Hav.out)
        have Hae := hide (((heap_else _ 1 (.int .i64 (k : Int)) (show P ≠ Ax + 1 by have := HO.out; omega)).trans (heap_else w26 0 (.int .i64 10) (show P ≠ Ax + 1 by have := HO.out; omega))).trans Hae.out)
        have HG := hide (grown_set_new (R := P) (j := 1) (u := .int .i64 (k : Int)) (by have := HO.out; omega) (grown_set_new (R := P) (j := 0) (u := .int .i64 10) (by have := HO.out; omega) HG.out))
        go_upto_region 15 with fail
        generalize hwn : (w26.setCell ⟨P, 0, none⟩ (.int .i64 10)).setCell ⟨P, 1, none⟩ (.int .i64 (k : Int)) = w27 at *
        clear hwn b0 b1 b2 b3 HP
        have HP := HX
        clear HX
        go_wp2_with (first | ((with_reducible refine list_load 25 (.tmp 15) (V) 25 #[.int .i64 0, .int .i64 77, .int .i64 0, .int .i64 0, .int .i64 5, .int .i64 0, .int .i64 0, .int .i64 0, .int .i64 0, .int .i64 0, .int .i64 0, .int .i64 0, .int .i64 0, .int .i64 0, .int .i64 0, .int .i64 0, .int .i64 0, .int .i64 0] (0, 0) _ ?hw ?hx ?hg Tryd.underlying25 ?hd ?hi ?_); (case hw => kernel_rfl); (case hx => rfl); (case hg => exact HV.out); (case hd => rfl); (case hi => exact sizeVm)) | fail)
        refine (C2.out _ HG.out HGb.out HP.out).mono ?_; rintro e w28 ⟨rfl, hg⟩
        have HGb := hide (box_grown HGb.out hg (by simp))
        have HV := hide (box_grown HV.out hg (by simp))
        have HP := hide (box_grown HP.out hg (by simp))
        have Hav := hide (box_grown Hav.out hg (by simp))
        have Hae := hide (box_grown Hae.out hg (by simp))
        have HG := hide (grownBy_trans HG.out hg)
        clear hg C2
        have HPb := hide (box_lt HP.out)
        have HLab := hide (box_lt Hae.out)
        go_upto_region 16 with (first | ((with_reducible refine list_store 25 (.tmp 20) (.tmp 84) (w28.heap.size) #[.int .i64 0, .int .i64 0, .int .i64 0, .int .i64 0, .int .i64 5, .int .i64 0, .int .i64 0, .int .i64 0, .int .i64 0, .int .i64 0, .int .i64 0, .int .i64 0, .int .i64 0, .int .i64 0, .int .i64 0, .int .i64 0, .int .i64 0, .int .i64 0] 25 #[.int .i64 0, .int .i64 0, .int .i64 0, .int .i64 0, .int .i64 0, .int .i64 0, .int .i64 0, .int .i64 0, .int .i64 0, .int .i64 0, .int .i64 0, .int .i64 0, .int .i64 0, .int .i64 0, .int .i64 0, .int .i64 0, .int .i64 0, .int .i64 0] ?hx ?hy ?hg ?hi ?ho ?h1 ?_); (case hx => rfl); (case hy => rfl); (case hg => exact box_grown (World.heap_alloc_new _ _) (World.grownBy_alloc _ _ none) (by simp)); (case hi => exact sizeVm); (case ho => rfl); (case h1 => simp [Value.oneCell']); intro w29a h1 e1 g1; have HA := hide h1; have HE := hide ((e1 (w28.heap.size + 1) (by omega)).trans (alloc_next _ _ _)); have HN := hide (grown_spoil (grownBy_trans (World.grownBy_alloc w28 _ none) (World.grownBy_alloc _ _ none)) (Nat.le_refl _) g1); clear h1 e1 g1) | ((with_reducible refine list_store 30 (.tmp 21) (.tmp 85) (w28.heap.size + 1) #[.bool false, .int .i64 (-1), .int .i64 (-1), .int .i64 0, .bool true] 30 #[.bool false, .int .i64 0, .int .i64 0, .int .i64 0, .bool false] ?hx ?hy ?hg ?hi ?ho ?h1 ?_); (case hx => rfl); (case hy => rfl); (case hg => exact HE.out); (case hi => exact sizeEf); (case ho => rfl); (case h1 => simp [Value.oneCell']); intro w29 h1 e1 g1; have Hbv := hide ((e1 (w28.heap.size) (by omega)).trans HA.out); have Hbe := hide h1; have hgN := grown_spoil HN.out (Nat.le_succ _) g1; have HGb := hide (box_grown HGb.out hgN (by simp)); have HV := hide (box_grown HV.out hgN (by simp)); have HP := hide (box_grown HP.out hgN (by simp)); have Hav := hide (box_grown Hav.out hgN (by simp)); have Hae := hide (box_grown Hae.out hgN (by simp)); have HG := hide (grownBy_trans HG.out hgN); clear h1 e1 g1 hgN HA HE HN) | fail)
        generalize hAe : w28.heap.size = Bx at *
        clear hAe
        have HO : Hid (w.heap.size ≤ G ∧ G < V ∧ V < P ∧ P < Ax ∧ P < Bx ∧ Ax + 1 < Bx) := hide ⟨HO.out.1, HO.out.2.1, HO.out.2.2.1, HO.out.2.2.2, HPb.out, HLab.out⟩
        clear HPb HLab
        have b0 : w29.cell? ⟨P, 1, none⟩ = some (.int .i64 (k : Int)) := blk_cell HP.out 1
        have b1 := blk_free HP.out (1)
        have HX : Hid ((w29.setCell ⟨P, 1, none⟩ (.int .i64 (k1 : Int))).heap[P]? = some (.cells #[.int .i64 10, .int .i64 (k1 : Int), .int .i64 0, .int .i64 0] 43 (0, 0))) := hide (blk_set HP.out (by rfl))
        have HGb := hide ((heap_else w29 (1) (.int .i64 (k1 : Int)) (show P ≠ G by have := box_lt HP.out; have := box_lt HGb.out; have := HO.out; omega)).trans HGb.out)
        have HV := hide ((heap_else w29 (1) (.int .i64 (k1 : Int)) (show P ≠ V by have := box_lt HP.out; have := box_lt HV.out; have := HO.out; omega)).trans HV.out)
        have Hav := hide ((heap_else w29 (1) (.int .i64 (k1 : Int)) (show P ≠ Ax by have := box_lt HP.out; have := box_lt Hav.out; have := HO.out; omega)).trans Hav.out)
        have Hae := hide ((heap_else w29 (1) (.int .i64 (k1 : Int)) (show P ≠ Ax + 1 by have := box_lt HP.out; have := box_lt Hae.out; have := HO.out; omega)).trans Hae.out)
        have Hbv := hide ((heap_else w29 (1) (.int .i64 (k1 : Int)) (show P ≠ Bx by have := box_lt HP.out; have := box_lt Hbv.out; have := HO.out; omega)).trans Hbv.out)
        have Hbe := hide ((heap_else w29 (1) (.int .i64 (k1 : Int)) (show P ≠ Bx + 1 by have := box_lt HP.out; have := box_lt Hbe.out; have := HO.out; omega)).trans Hbe.out)
        have HG := hide (grown_set_new (R := P) (j := 1) (u := .int .i64 (k1 : Int)) (by have := HO.out; omega) HG.out)
        go_upto_region 17 with (first | fail)
        generalize hwn : w29.setCell ⟨P, 1, none⟩ (.int .i64 (k1 : Int)) = w30 at *
        clear hwn b0 b1 HP
        have HP := HX
        clear HX
        go_wp2_with (first | ((with_reducible refine list_load 25 (.tmp 15) (V) 25 #[.int .i64 0, .int .i64 77, .int .i64 0, .int .i64 0, .int .i64 5, .int .i64 0, .int .i64 0, .int .i64 0, .int .i64 0, .int .i64 0, .int .i64 0, .int .i64 0, .int .i64 0, .int .i64 0, .int .i64 0, .int .i64 0, .int .i64 0, .int .i64 0] (0, 0) _ ?hw ?hx ?hg Tryd.underlying25 ?hd ?hi ?_); (case hw => kernel_rfl); (case hx => rfl); (case hg => exact HV.out); (case hd => rfl); (case hi => exact sizeVm)) | fail)
        refine (C3.out _ HG.out HGb.out HP.out).mono ?_; rintro e w31 ⟨rfl, hg⟩
        have HGb := hide (box_grown HGb.out hg (by simp))
        have HV := hide (box_grown HV.out hg (by simp))
        have HP := hide (box_grown HP.out hg (by simp))
        have Hav := hide (box_grown Hav.out hg (by simp))
        have Hae := hide (box_grown Hae.out hg (by simp))
        have Hbv := hide (box_grown Hbv.out hg (by simp))
        have Hbe := hide (box_grown Hbe.out hg (by simp))
        have HG := hide (grownBy_trans HG.out hg)
        clear hg C3
        have HPc := hide (box_lt HP.out)
        have HLac := hide (box_lt Hae.out)
        have HLbc := hide (box_lt Hbe.out)
        go_upto_region 18 with (first | ((with_reducible refine list_store 25 (.tmp 23) (.tmp 100) (w31.heap.size) #[.int .i64 1, .int .i64 g, .int .i64 0, .int .i64 0, .int .i64 5, .int .i64 0, .int .i64 0, .int .i64 0, .int .i64 0, .int .i64 0, .int .i64 0, .int .i64 0, .int .i64 0, .int .i64 0, .int .i64 0, .int .i64 0, .int .i64 0, .int .i64 0] 25 #[.int .i64 0, .int .i64 0, .int .i64 0, .int .i64 0, .int .i64 0, .int .i64 0, .int .i64 0, .int .i64 0, .int .i64 0, .int .i64 0, .int .i64 0, .int .i64 0, .int .i64 0, .int .i64 0, .int .i64 0, .int .i64 0, .int .i64 0, .int .i64 0] ?hx ?hy ?hg ?hi ?ho ?h1 ?_); (case hx => rfl); (case hy => rfl); (case hg => exact box_grown (World.heap_alloc_new _ _) (World.grownBy_alloc _ _ none) (by simp)); (case hi => exact sizeVm); (case ho => rfl); (case h1 => simp [Value.oneCell']); intro w32a h1 e1 g1; have HA := hide h1; have HE := hide ((e1 (w31.heap.size + 1) (by omega)).trans (alloc_next _ _ _)); have HN := hide (grown_spoil (grownBy_trans (World.grownBy_alloc w31 _ none) (World.grownBy_alloc _ _ none)) (Nat.le_refl _) g1); clear h1 e1 g1) | ((with_reducible refine list_store 30 (.tmp 24) (.tmp 101) (w31.heap.size + 1) #[.bool false, .int .i64 (-1), .int .i64 (k1 : Int), .int .i64 0, .bool false] 30 #[.bool false, .int .i64 0, .int .i64 0, .int .i64 0, .bool false] ?hx ?hy ?hg ?hi ?ho ?h1 ?_); (case hx => rfl); (case hy => rfl); (case hg => exact HE.out); (case hi => exact sizeEf); (case ho => rfl); (case h1 => simp [Value.oneCell']); intro w32 h1 e1 g1; have Hcv := hide ((e1 (w31.heap.size) (by omega)).trans HA.out); have Hce := hide h1; have hgN := grown_spoil HN.out (Nat.le_succ _) g1; have HGb := hide (box_grown HGb.out hgN (by simp)); have HV := hide (box_grown HV.out hgN (by simp)); have HP := hide (box_grown HP.out hgN (by simp)); have Hav := hide (box_grown Hav.out hgN (by simp)); have Hae := hide (box_grown Hae.out hgN (by simp)); have Hbv := hide (box_grown Hbv.out hgN (by simp)); have Hbe := hide (box_grown Hbe.out hgN (by simp)); have HG := hide (grownBy_trans HG.out hgN); clear h1 e1 g1 hgN HA HE HN) | fail)
        generalize hAe : w31.heap.size = Cx at *
        clear hAe
        have HO : Hid (w.heap.size ≤ G ∧ G < V ∧ V < P ∧ P < Ax ∧ P < Bx ∧ Ax + 1 < Bx ∧ P < Cx ∧ Ax + 1 < Cx ∧ Bx + 1 < Cx) := hide ⟨HO.out.1, HO.out.2.1, HO.out.2.2.1, HO.out.2.2.2.1, HO.out.2.2.2.2.1, HO.out.2.2.2.2.2, HPc.out, HLac.out, HLbc.out⟩
        clear HPc HLac HLbc
        have b0 : w32.cell? ⟨P, 0, none⟩ = some (.int .i64 10) := blk_cell HP.out 0
        have b2 : w32.cell? ⟨P, 1, none⟩ = some (.int .i64 (k1 : Int)) := blk_cell HP.out 1
        have b1 := blk_free HP.out 0
        have b3 := blk_free HP.out 1
        have HX : Hid (((w32.setCell ⟨P, 0, none⟩ (.int .i64 8)).setCell ⟨P, 1, none⟩ (.int .i64 0)).heap[P]? = some (.cells #[.int .i64 8, .int .i64 0, .int .i64 0, .int .i64 0] 43 (0, 0))) := hide (blk_set (blk_set HP.out (by rfl)) (by rfl))
        have HGb := hide (((heap_else _ 1 (.int .i64 0) (show P ≠ G by have := HO.out; omega)).trans (heap_else w32 0 (.int .i64 8) (show P ≠ G by have := HO.out; omega))).trans HGb.out)
        have HV := hide (((heap_else _ 1 (.int .i64 0) (show P ≠ V by have := HO.out; omega)).trans (heap_else w32 0 (.int .i64 8) (show P ≠ V by have := HO.out; omega))).trans HV.out)
        have Hav := hide (((heap_else _ 1 (.int .i64 0) (show P ≠ Ax by have := HO.out; omega)).trans (heap_else w32 0 (.int .i64 8) (show P ≠ Ax by have := HO.out; omega))).trans Hav.out)
        have Hae := hide (((heap_else _ 1 (.int .i64 0) (show P ≠ Ax + 1 by have := HO.out; omega)).trans (heap_else w32 0 (.int .i64 8) (show P ≠ Ax + 1 by have := HO.out; omega))).trans Hae.out)
        have Hbv := hide (((heap_else _ 1 (.int .i64 0) (show P ≠ Bx by have := HO.out; omega)).trans (heap_else w32 0 (.int .i64 8) (show P ≠ Bx by have := HO.out; omega))).trans Hbv.out)
        have Hbe := hide (((heap_else _ 1 (.int .i64 0) (show P ≠ Bx + 1 by have := HO.out; omega)).trans (heap_else w32 0 (.int .i64 8) (show P ≠ Bx + 1 by have := HO.out; omega))).trans Hbe.out)
        have Hcv := hide (((heap_else _ 1 (.int .i64 0) (show P ≠ Cx by have := HO.out; omega)).trans (heap_else w32 0 (.int .i64 8) (show P ≠ Cx by have := HO.out; omega))).trans Hcv.out)
        have Hce := hide (((heap_else _ 1 (.int .i64 0) (show P ≠ Cx + 1 by have := HO.out; omega)).trans (heap_else w32 0 (.int .i64 8) (show P ≠ Cx + 1 by have := HO.out; omega))).trans Hce.out)
        have HG := hide (grown_set_new (R := P) (j := 1) (u := .int .i64 0) (by have := HO.out; omega) (grown_set_new (R := P) (j := 0) (u := .int .i64 8) (by have := HO.out; omega) HG.out))
        go_upto_region 19 with fail
        generalize hwn : (w32.setCell ⟨P, 0, none⟩ (.int .i64 8)).setCell ⟨P, 1, none⟩ (.int .i64 0) = w33 at *
        clear hwn b0 b1 b2 b3 HP
        have HP := HX
        clear HX
        go_wp2_with (first | ((with_reducible refine list_load 25 (.tmp 15) (V) 25 #[.int .i64 0, .int .i64 77, .int .i64 0, .int .i64 0, .int .i64 5, .int .i64 0, .int .i64 0, .int .i64 0, .int .i64 0, .int .i64 0, .int .i64 0, .int .i64 0, .int .i64 0, .int .i64 0, .int .i64 0, .int .i64 0, .int .i64 0, .int .i64 0] (0, 0) _ ?hw ?hx ?hg Tryd.underlying25 ?hd ?hi ?_); (case hw => kernel_rfl); (case hx => rfl); (case hg => exact HV.out); (case hd => rfl); (case hi => exact sizeVm)) | fail)
        refine (C4.out _ HG.out HGb.out HP.out).mono ?_; rintro e w34 ⟨rfl, hg⟩
        have HGb := hide (box_grown HGb.out hg (by simp))
        have HV := hide (box_grown HV.out hg (by simp))
        have HP := hide (box_grown HP.out hg (by simp))
        have Hav := hide (box_grown Hav.out hg (by simp))
        have Hae := hide (box_grown Hae.out hg (by simp))
        have Hbv := hide (box_grown Hbv.out hg (by simp))
        have Hbe := hide (box_grown Hbe.out hg (by simp))
        have Hcv := hide (box_grown Hcv.out hg (by simp))
        have Hce := hide (box_grown Hce.out hg (by simp))
        have HG := hide (grownBy_trans HG.out hg)
        clear hg C4
        have HPd := hide (box_lt HP.out)
        have HLad := hide (box_lt Hae.out)
        have HLbd := hide (box_lt Hbe.out)
        have HLcd := hide (box_lt Hce.out)
        go_upto_region 20 with (first | ((with_reducible refine list_store 25 (.tmp 26) (.tmp 112) (w34.heap.size) #[.int .i64 1, .int .i64 x, .int .i64 0, .int .i64 0, .int .i64 5, .int .i64 0, .int .i64 0, .int .i64 0, .int .i64 0, .int .i64 0, .int .i64 0, .int .i64 0, .int .i64 0, .int .i64 0, .int .i64 0, .int .i64 0, .int .i64 0, .int .i64 0] 25 #[.int .i64 0, .int .i64 0, .int .i64 0, .int .i64 0, .int .i64 0, .int .i64 0, .int .i64 0, .int .i64 0, .int .i64 0, .int .i64 0, .int .i64 0, .int .i64 0, .int .i64 0, .int .i64 0, .int .i64 0, .int .i64 0, .int .i64 0, .int .i64 0] ?hx ?hy ?hg ?hi ?ho ?h1 ?_); (case hx => rfl); (case hy => rfl); (case hg => exact box_grown (World.heap_alloc_new _ _) (World.grownBy_alloc _ _ none) (by simp)); (case hi => exact sizeVm); (case ho => rfl); (case h1 => simp [Value.oneCell']); intro w35a h1 e1 g1; have HA := hide h1; have HE := hide ((e1 (w34.heap.size + 1) (by omega)).trans (alloc_next _ _ _)); have HN := hide (grown_spoil (grownBy_trans (World.grownBy_alloc w34 _ none) (World.grownBy_alloc _ _ none)) (Nat.le_refl _) g1); clear h1 e1 g1) | ((with_reducible refine list_store 30 (.tmp 27) (.tmp 113) (w34.heap.size + 1) #[.bool true, .int .i64 (-1), .int .i64 (-1), .int .i64 0, .bool false] 30 #[.bool false, .int .i64 0, .int .i64 0, .int .i64 0, .bool false] ?hx ?hy ?hg ?hi ?ho ?h1 ?_); (case hx => rfl); (case hy => rfl); (case hg => exact HE.out); (case hi => exact sizeEf); (case ho => rfl); (case h1 => simp [Value.oneCell']); intro w35 h1 e1 g1; have Hdv := hide ((e1 (w34.heap.size) (by omega)).trans HA.out); have Hde := hide h1; have hgN := grown_spoil HN.out (Nat.le_succ _) g1; have HGb := hide (box_grown HGb.out hgN (by simp)); have HV := hide (box_grown HV.out hgN (by simp)); have HP := hide (box_grown HP.out hgN (by simp)); have Hav := hide (box_grown Hav.out hgN (by simp)); have Hae := hide (box_grown Hae.out hgN (by simp)); have Hbv := hide (box_grown Hbv.out hgN (by simp)); have Hbe := hide (box_grown Hbe.out hgN (by simp)); have Hcv := hide (box_grown Hcv.out hgN (by simp)); have Hce := hide (box_grown Hce.out hgN (by simp)); have HG := hide (grownBy_trans HG.out hgN); clear h1 e1 g1 hgN HA HE HN) | fail)
        generalize hAe : w34.heap.size = Dx at *
        clear hAe
        have HO : Hid (w.heap.size ≤ G ∧ G < V ∧ V < P ∧ P < Ax ∧ P < Bx ∧ Ax + 1 < Bx ∧ P < Cx ∧ Ax + 1 < Cx ∧ Bx + 1 < Cx ∧ P < Dx ∧ Ax + 1 < Dx ∧ Bx + 1 < Dx ∧ Cx + 1 < Dx) := hide ⟨HO.out.1, HO.out.2.1, HO.out.2.2.1, HO.out.2.2.2.1, HO.out.2.2.2.2.1, HO.out.2.2.2.2.2.1, HO.out.2.2.2.2.2.2.1, HO.out.2.2.2.2.2.2.2.1, HO.out.2.2.2.2.2.2.2.2, HPd.out, HLad.out, HLbd.out, HLcd.out⟩
        clear HPd HLad HLbd HLcd
        have HLd := hide (box_lt Hde.out)
        go_upto_region 21 with (first | ((with_reducible refine list_load 25 (.tmp 15) (V) 25 #[.int .i64 0, .int .i64 77, .int .i64 0, .int .i64 0, .int .i64 5, .int .i64 0, .int .i64 0, .int .i64 0, .int .i64 0, .int .i64 0, .int .i64 0, .int .i64 0, .int .i64 0, .int .i64 0, .int .i64 0, .int .i64 0, .int .i64 0, .int .i64 0] (0, 0) _ ?hw ?hx ?hg Tryd.underlying25 ?hd ?hi ?_); (case hw => kernel_rfl); (case hx => rfl); (case hg => exact HV.out); (case hd => rfl); (case hi => exact sizeVm)) | ((with_reducible refine list_store 25 (.tmp 29) (.tmp 115) (w35.heap.size) #[.int .i64 0, .int .i64 77, .int .i64 0, .int .i64 0, .int .i64 5, .int .i64 0, .int .i64 0, .int .i64 0, .int .i64 0, .int .i64 0, .int .i64 0, .int .i64 0, .int .i64 0, .int .i64 0, .int .i64 0, .int .i64 0, .int .i64 0, .int .i64 0] 25 #[.int .i64 0, .int .i64 0, .int .i64 0, .int .i64 0, .int .i64 0, .int .i64 0, .int .i64 0, .int .i64 0, .int .i64 0, .int .i64 0, .int .i64 0, .int .i64 0, .int .i64 0, .int .i64 0, .int .i64 0, .int .i64 0, .int .i64 0, .int .i64 0] ?hx ?hy ?hg ?hi ?ho ?h1 ?_); (case hx => rfl); (case hy => rfl); (case hg => exact World.heap_alloc_new _ _); (case hi => exact sizeVm); (case ho => rfl); (case h1 => simp [Value.oneCell']); intro w36 h1 e1 g1; have Hbad := hide h1; have hgN := grown_spoil (World.grownBy_alloc w35 _ none) (Nat.le_refl _) g1; have HGb := hide (box_grown HGb.out hgN (by simp)); have HV := hide (box_grown HV.out hgN (by simp)); have HP := hide (box_grown HP.out hgN (by simp)); have Hav := hide (box_grown Hav.out hgN (by simp)); have Hae := hide (box_grown Hae.out hgN (by simp)); have Hbv := hide (box_grown Hbv.out hgN (by simp)); have Hbe := hide (box_grown Hbe.out hgN (by simp)); have Hcv := hide (box_grown Hcv.out hgN (by simp)); have Hce := hide (box_grown Hce.out hgN (by simp)); have Hdv := hide (box_grown Hdv.out hgN (by simp)); have Hde := hide (box_grown Hde.out hgN (by simp)); have HG := hide (grownBy_trans HG.out hgN); clear h1 e1 g1 hgN) | fail)
        generalize hBe : w35.heap.size = Bad at *
        clear hBe
        have HO : Hid (w.heap.size ≤ G ∧ G < V ∧ V < P ∧ P < Ax ∧ P < Bx ∧ Ax + 1 < Bx ∧ P < Cx ∧ Ax + 1 < Cx ∧ Bx + 1 < Cx ∧ P < Dx ∧ Ax + 1 < Dx ∧ Bx + 1 < Dx ∧ Cx + 1 < Dx ∧ Dx + 1 < Bad) := hide ⟨HO.out.1, HO.out.2.1, HO.out.2.2.1, HO.out.2.2.2.1, HO.out.2.2.2.2.1, HO.out.2.2.2.2.2.1, HO.out.2.2.2.2.2.2.1, HO.out.2.2.2.2.2.2.2.1, HO.out.2.2.2.2.2.2.2.2.1, HO.out.2.2.2.2.2.2.2.2.2.1, HO.out.2.2.2.2.2.2.2.2.2.2.1, HO.out.2.2.2.2.2.2.2.2.2.2.2.1, HO.out.2.2.2.2.2.2.2.2.2.2.2.2, HLd.out⟩
        clear HLd
        have b0 : w36.cell? ⟨Bad, 1, none⟩ = some (.int .i64 77) := blk_cell Hbad.out 1
        have b1 := blk_free Hbad.out (1)
        have HX : Hid ((w36.setCell ⟨Bad, 1, none⟩ (.int .i64 0)).heap[Bad]? = some (.cells #[.int .i64 0, .int .i64 0, .int .i64 0, .int .i64 0, .int .i64 5, .int .i64 0, .int .i64 0, .int .i64 0, .int .i64 0, .int .i64 0, .int .i64 0, .int .i64 0, .int .i64 0, .int .i64 0, .int .i64 0, .int .i64 0, .int .i64 0, .int .i64 0] 25 (0, 0))) := hide (blk_set Hbad.out (by rfl))
        have HGb := hide ((heap_else w36 (1) (.int .i64 0) (show Bad ≠ G by have := box_lt Hbad.out; have := box_lt HGb.out; have := HO.out; omega)).trans HGb.out)
        have HV := hide ((heap_else w36 (1) (.int .i64 0) (show Bad ≠ V by have := box_lt Hbad.out; have := box_lt HV.out; have := HO.out; omega)).trans HV.out)
        have HP := hide ((heap_else w36 (1) (.int .i64 0) (show Bad ≠ P by have := box_lt Hbad.out; have := box_lt HP.out; have := HO.out; omega)).trans HP.out)
        have Hav := hide ((heap_else w36 (1) (.int .i64 0) (show Bad ≠ Ax by have := box_lt Hbad.out; have := box_lt Hav.out; have := HO.out; omega)).trans Hav.out)
        have Hae := hide ((heap_else w36 (1) (.int .i64 0) (show Bad ≠ Ax + 1 by have := box_lt Hbad.out; have := box_lt Hae.out; have := HO.out; omega)).trans Hae.out)
        have Hbv := hide ((heap_else w36 (1) (.int .i64 0) (show Bad ≠ Bx by have := box_lt Hbad.out; have := box_lt Hbv.out; have := HO.out; omega)).trans Hbv.out)
        have Hbe := hide ((heap_else w36 (1) (.int .i64 0) (show Bad ≠ Bx + 1 by have := box_lt Hbad.out; have := box_lt Hbe.out; have := HO.out; omega)).trans Hbe.out)
        have Hcv := hide ((heap_else w36 (1) (.int .i64 0) (show Bad ≠ Cx by have := box_lt Hbad.out; have := box_lt Hcv.out; have := HO.out; omega)).trans Hcv.out)
        have Hce := hide ((heap_else w36 (1) (.int .i64 0) (show Bad ≠ Cx + 1 by have := box_lt Hbad.out; have := box_lt Hce.out; have := HO.out; omega)).trans Hce.out)
        have Hdv := hide ((heap_else w36 (1) (.int .i64 0) (show Bad ≠ Dx by have := box_lt Hbad.out; have := box_lt Hdv.out; have := HO.out; omega)).trans Hdv.out)
        have Hde := hide ((heap_else w36 (1) (.int .i64 0) (show Bad ≠ Dx + 1 by have := box_lt Hbad.out; have := box_lt Hde.out; have := HO.out; omega)).trans Hde.out)
        have HG := hide (grown_set_new (R := Bad) (j := 1) (u := .int .i64 0) (by have := HO.out; omega) HG.out)
        go_upto_region 22 with (first | fail)
        generalize hwn : w36.setCell ⟨Bad, 1, none⟩ (.int .i64 0) = w37 at *
        clear hwn b0 b1 Hbad
        have Hbad := HX
        clear HX
        have HLb := hide (box_lt Hbad.out)
        go_upto_region 23 with (first | ((with_reducible refine list_store 30 (.tmp 30) (.tmp 117) (w37.heap.size) #[.bool false, .int .i64 (-1), .int .i64 (-1), .int .i64 0, .bool true] 30 #[.bool false, .int .i64 0, .int .i64 0, .int .i64 0, .bool false] ?hx ?hy ?hg ?hi ?ho ?h1 ?_); (case hx => rfl); (case hy => rfl); (case hg => exact World.heap_alloc_new _ _); (case hi => exact sizeEf); (case ho => rfl); (case h1 => simp [Value.oneCell']); intro w38 h1 e1 g1; have Hfa := hide h1; have hgN := grown_spoil (World.grownBy_alloc w37 _ none) (Nat.le_refl _) g1; have HGb := hide (box_grown HGb.out hgN (by simp)); have HV := hide (box_grown HV.out hgN (by simp)); have HP := hide (box_grown HP.out hgN (by simp)); have Hav := hide (box_grown Hav.out hgN (by simp)); have Hae := hide (box_grown Hae.out hgN (by simp)); have Hbv := hide (box_grown Hbv.out hgN (by simp)); have Hbe := hide (box_grown Hbe.out hgN (by simp)); have Hcv := hide (box_grown Hcv.out hgN (by simp)); have Hce := hide (box_grown Hce.out hgN (by simp)); have Hdv := hide (box_grown Hdv.out hgN (by simp)); have Hde := hide (box_grown Hde.out hgN (by simp)); have Hbad := hide (box_grown Hbad.out hgN (by simp)); have HG := hide (grownBy_trans HG.out hgN); clear h1 e1 g1 hgN) | fail)
        generalize hBe : w37.heap.size = Fa at *
        clear hBe HLb
        have hARR := arr_self
        have yHav0 : w38.cell? ⟨Ax, 0, none⟩ = some (.int .i64 0) := blk_cell Hav.out 0
        have yHav1 : w38.cell? ⟨Ax, 1, none⟩ = some (.int .i64 0) := blk_cell Hav.out 1
        have yHcv0 : w38.cell? ⟨Cx, 0, none⟩ = some (.int .i64 1) := blk_cell Hcv.out 0
        have yHcv1 : w38.cell? ⟨Cx, 1, none⟩ = some (.int .i64 g) := blk_cell Hcv.out 1
        have yHdv1 : w38.cell? ⟨Dx, 1, none⟩ = some (.int .i64 x) := blk_cell Hdv.out 1
        generalize hq : o / 2 ^ k = q at *
        go_upto_region 24 with (first | fail)
        go_wp2_with (first | (go_at_call 13; refine (NUM.out _ _).mono ?_; rintro e wn ⟨rfl, rfl⟩) | ((with_reducible refine list_load 25 (.tmp 17) (Ax) 25 #[.int .i64 0, .int .i64 0, .int .i64 0, .int .i64 0, .int .i64 5, .int .i64 0, .int .i64 0, .int .i64 0, .int .i64 0, .int .i64 0, .int .i64 0, .int .i64 0, .int .i64 0, .int .i64 0, .int .i64 0, .int .i64 0, .int .i64 0, .int .i64 0] (0, 0) _ ?hw ?hx ?hg Tryd.underlying25 ?hd ?hi ?_); (case hw => kernel_rfl); (case hx => rfl); (case hg => exact Hav.out); (case hd => rfl); (case hi => exact sizeVm)) | ((with_reducible refine list_load 30 (.tmp 18) (Ax + 1) 30 #[.bool false, .int .i64 (-1), .int .i64 (-1), .int .i64 0, .bool true] (0, 0) _ ?hw ?hx ?hg Tryd.underlying30 ?hd ?hi ?_); (case hw => kernel_rfl); (case hx => rfl); (case hg => exact Hae.out); (case hd => rfl); (case hi => exact sizeEf)) | ((with_reducible refine list_load 25 (.tmp 20) (Bx) 25 #[.int .i64 0, .int .i64 0, .int .i64 0, .int .i64 0, .int .i64 5, .int .i64 0, .int .i64 0, .int .i64 0, .int .i64 0, .int .i64 0, .int .i64 0, .int .i64 0, .int .i64 0, .int .i64 0, .int .i64 0, .int .i64 0, .int .i64 0, .int .i64 0] (0, 0) _ ?hw ?hx ?hg Tryd.underlying25 ?hd ?hi ?_); (case hw => kernel_rfl); (case hx => rfl); (case hg => exact Hbv.out); (case hd => rfl); (case hi => exact sizeVm)) | ((with_reducible refine list_load 30 (.tmp 21) (Bx + 1) 30 #[.bool false, .int .i64 (-1), .int .i64 (-1), .int .i64 0, .bool true] (0, 0) _ ?hw ?hx ?hg Tryd.underlying30 ?hd ?hi ?_); (case hw => kernel_rfl); (case hx => rfl); (case hg => exact Hbe.out); (case hd => rfl); (case hi => exact sizeEf)) | ((with_reducible refine list_load 30 (.tmp 24) (Cx + 1) 30 #[.bool false, .int .i64 (-1), .int .i64 (k1 : Int), .int .i64 0, .bool false] (0, 0) _ ?hw ?hx ?hg Tryd.underlying30 ?hd ?hi ?_); (case hw => kernel_rfl); (case hx => rfl); (case hg => exact Hce.out); (case hd => rfl); (case hi => exact sizeEf)) | ((with_reducible refine list_load 30 (.tmp 27) (Dx + 1) 30 #[.bool true, .int .i64 (-1), .int .i64 (-1), .int .i64 0, .bool false] (0, 0) _ ?hw ?hx ?hg Tryd.underlying30 ?hd ?hi ?_); (case hw => kernel_rfl); (case hx => rfl); (case hg => exact Hde.out); (case hd => rfl); (case hi => exact sizeEf)) | ((with_reducible refine list_load 25 (.tmp 29) (Bad) 25 #[.int .i64 0, .int .i64 0, .int .i64 0, .int .i64 0, .int .i64 5, .int .i64 0, .int .i64 0, .int .i64 0, .int .i64 0, .int .i64 0, .int .i64 0, .int .i64 0, .int .i64 0, .int .i64 0, .int .i64 0, .int .i64 0, .int .i64 0, .int .i64 0] (0, 0) _ ?hw ?hx ?hg Tryd.underlying25 ?hd ?hi ?_); (case hw => kernel_rfl); (case hx => rfl); (case hg => exact Hbad.out); (case hd => rfl); (case hi => exact sizeVm)) | ((with_reducible refine list_load 30 (.tmp 30) (Fa) 30 #[.bool false, .int .i64 (-1), .int .i64 (-1), .int .i64 0, .bool true] (0, 0) _ ?hw ?hx ?hg Tryd.underlying30 ?hd ?hi ?_); (case hw => kernel_rfl); (case hx => rfl); (case hg => exact Hfa.out); (case hd => rfl); (case hi => exact sizeEf)) | fail)
        go_ret
        exact ⟨by first | rfl | simp, HG.out⟩
#print axioms stepPorts_any
end Go.Proofs.YthdpdnibgmjdaaaDoor
