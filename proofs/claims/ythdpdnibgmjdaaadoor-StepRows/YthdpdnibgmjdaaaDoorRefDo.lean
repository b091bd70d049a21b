/- Contract of the document's does, proved over the translation: an instruction of what may be. -/
import Derived.Test.YthdpdnibgmjdaaaDoorRefVm
import Derived.Test.YthdpdnibgmjdaaaDoorRowlaw
namespace Go.Proofs.YthdpdnibgmjdaaaDoor
open Go.RowKit
attribute [local go_sem] alloc_drewN setCell_drewN

theorem cell_grown {w W : World} {g o : Nat} {u : Value} (hg : w.grownBy W none) (h : w.cell? ⟨g, o, none⟩ = some u) : W.cell? ⟨g, o, none⟩ = some u := by
  have hl := World.block_lt_of_cell? w _ h
  simp only [World.cell?] at h ⊢
  rw [hg.block g hl (by simp)]
  exact h

set_option maxRecDepth 100000 in
set_option maxHeartbeats 8000000 in
theorem does_0 (n : Nat) (pc acc : Int) (m : Nat → Int) (inn outs : Int) (gv : Value) (w : World) :
    Calls Tryd.prog 25 #[.agg #[.int .i64 0, .int .i64 (n : Int)], .agg #[.int .i64 pc, .int .i64 acc, .int .i64 (m 0), .int .i64 (m 1), .int .i64 (m 2), .int .i64 (m 3), .int .i64 (m 4), .int .i64 (m 5), .int .i64 (m 6), .int .i64 (m 7), .int .i64 (m 8), .int .i64 (m 9), .int .i64 (m 10), .int .i64 (m 11), .int .i64 (m 12), .int .i64 (m 13), .int .i64 (m 14), .int .i64 (m 15)], .int .i64 inn, .int .i64 outs, gv] w fun e w' => e = .returned (.tuple #[.agg #[.int .i64 pc, .int .i64 acc, .int .i64 (m 0), .int .i64 (m 1), .int .i64 (m 2), .int .i64 (m 3), .int .i64 (m 4), .int .i64 (m 5), .int .i64 (m 6), .int .i64 (m 7), .int .i64 (m 8), .int .i64 (m 9), .int .i64 (m 10), .int .i64 (m 11), .int .i64 (m 12), .int .i64 (m 13), .int .i64 (m 14), .int .i64 (m 15)], .agg #[.bool false, .int .i64 (-1), .int .i64 (-1), .int .i64 0, .bool false]]) ∧ w.grownBy w' none := by
  go_enter Tryd.func25, Tryd.ntmps25
  go_upto_region 1 with fail
  obtain ⟨b1, b2, b3, b4, bg⟩ := four (w := w) (o1 := .cells #[.int .i64 (0 : Int), .int .i64 (n : Int)] 43) (o2 := .cells #[.int .i64 pc, .int .i64 acc, .int .i64 (m 0), .int .i64 (m 1), .int .i64 (m 2), .int .i64 (m 3), .int .i64 (m 4), .int .i64 (m 5), .int .i64 (m 6), .int .i64 (m 7), .int .i64 (m 8), .int .i64 (m 9), .int .i64 (m 10), .int .i64 (m 11), .int .i64 (m 12), .int .i64 (m 13), .int .i64 (m 14), .int .i64 (m 15)] 25) (o3 := .cells #[.int .i64 0, .int .i64 0, .int .i64 0, .int .i64 0, .int .i64 0, .int .i64 0, .int .i64 0, .int .i64 0, .int .i64 0, .int .i64 0, .int .i64 0, .int .i64 0, .int .i64 0, .int .i64 0, .int .i64 0, .int .i64 0, .int .i64 0, .int .i64 0] 25) (o4 := .cells #[.bool false, .int .i64 0, .int .i64 0, .int .i64 0, .bool false] 30)
  generalize hw1 : (((w.alloc (.cells #[.int .i64 (0 : Int), .int .i64 (n : Int)] 43)).alloc (.cells #[.int .i64 pc, .int .i64 acc, .int .i64 (m 0), .int .i64 (m 1), .int .i64 (m 2), .int .i64 (m 3), .int .i64 (m 4), .int .i64 (m 5), .int .i64 (m 6), .int .i64 (m 7), .int .i64 (m 8), .int .i64 (m 9), .int .i64 (m 10), .int .i64 (m 11), .int .i64 (m 12), .int .i64 (m 13), .int .i64 (m 14), .int .i64 (m 15)] 25)).alloc (.cells #[.int .i64 0, .int .i64 0, .int .i64 0, .int .i64 0, .int .i64 0, .int .i64 0, .int .i64 0, .int .i64 0, .int .i64 0, .int .i64 0, .int .i64 0, .int .i64 0, .int .i64 0, .int .i64 0, .int .i64 0, .int .i64 0, .int .i64 0, .int .i64 0] 25)).alloc (.cells #[.bool false, .int .i64 0, .int .i64 0, .int .i64 0, .bool false] 30) = w1 at *
  clear hw1
  have HL := hide (box_lt b4)
  obtain ⟨X, hX⟩ : ∃ X, X = w.heap.size := ⟨_, rfl⟩
  rw [← hX] at b1 b2 b3 b4 HL ⊢
  generalize hV : X + 1 = V at *
  generalize hR1 : V + 1 = R1 at *
  generalize hR2 : R1 + 1 = R2 at *
  have HO0 : Hid (w.heap.size ≤ X ∧ X < V ∧ V < R1 ∧ R1 < R2 ∧ R2 < w1.heap.size) := hide (by have := HL.out; omega)
  clear hR1 hR2 hV hX HL
  have HX := hide b1
  have HV := hide b2
  have H1 := hide b3
  have H2 := hide b4
  have HG := hide bg
  clear b1 b2 b3 b4 bg
  go_upto_region 2 with (first | ((with_reducible refine list_store 30 (.tmp 12) (.tmp 13) (w1.heap.size) #[.bool false, .int .i64 (-1), .int .i64 (-1), .int .i64 0, .bool false] 30 #[.bool false, .int .i64 0, .int .i64 0, .int .i64 0, .bool false] ?hx ?hy ?hg ?hi ?ho ?h1 ?_); (case hx => rfl); (case hy => rfl); (case hg => exact World.heap_alloc_new _ _); (case hi => exact sizeEf); (case ho => rfl); (case h1 => simp [Value.oneCell']); intro w2 h1 e1 g1; have hgN := grown_spoil (World.grownBy_alloc w1 _ none) (Nat.le_refl _) g1; have HF := hide h1; have HX := hide (box_grown HX.out hgN (by simp)); have HV := hide (box_grown HV.out hgN (by simp)); have H1 := hide (box_grown H1.out hgN (by simp)); have H2 := hide (box_grown H2.out hgN (by simp)); have HG := hide (grownBy_trans HG.out hgN); clear h1 e1 g1 hgN) | fail)
  have HO : Hid (w.heap.size ≤ X ∧ X < V ∧ V < R1 ∧ R1 < R2 ∧ R2 < w1.heap.size) := HO0
  generalize w1.heap.size = F at *
  clear HO0
  have x0 : w2.cell? ⟨X, 0, none⟩ = some (.int .i64 (0 : Int)) := blk_cell HX.out 0
  skip
  go_upto_region 33 with (first | fail)
  refine wp_region_held_drew (S := fun W => W.heap[V]? = some (.cells #[.int .i64 pc, .int .i64 acc, .int .i64 (m 0), .int .i64 (m 1), .int .i64 (m 2), .int .i64 (m 3), .int .i64 (m 4), .int .i64 (m 5), .int .i64 (m 6), .int .i64 (m 7), .int .i64 (m 8), .int .i64 (m 9), .int .i64 (m 10), .int .i64 (m 11), .int .i64 (m 12), .int .i64 (m 13), .int .i64 (m 14), .int .i64 (m 15)] 25 (0, 0)) ∧ W.heap[F]? = some (.cells #[.bool false, .int .i64 (-1), .int .i64 (-1), .int .i64 0, .bool false] 30 (0, 0))) (by kernel_rfl) ⟨HV.out, HF.out⟩ (fun hHeld => ?_)
  refine take_put (i := 0) (v := .agg #[.int .i64 pc, .int .i64 acc, .int .i64 (m 0), .int .i64 (m 1), .int .i64 (m 2), .int .i64 (m 3), .int .i64 (m 4), .int .i64 (m 5), .int .i64 (m 6), .int .i64 (m 7), .int .i64 (m 8), .int .i64 (m 9), .int .i64 (m 10), .int .i64 (m 11), .int .i64 (m 12), .int .i64 (m 13), .int .i64 (m 14), .int .i64 (m 15)]) 129 rfl rfl (by kernel_rfl) (by kernel_rfl) (by kernel_rfl) (fun _ _ _ h => h) (yieldsIf_load_mid (by rfl) 25 (.tmp 6) rfl V 0 rfl [.int .i64 pc, .int .i64 acc, .int .i64 (m 0), .int .i64 (m 1), .int .i64 (m 2), .int .i64 (m 3), .int .i64 (m 4), .int .i64 (m 5), .int .i64 (m 6), .int .i64 (m 7), .int .i64 (m 8), .int .i64 (m 9), .int .i64 (m 10), .int .i64 (m 11), .int .i64 (m 12), .int .i64 (m 13), .int .i64 (m 14), .int .i64 (m 15)] _ (fun W h => range_of h.1) Tryd.underlying25 rfl sizeVm) (by assumption) ?_
  simp only [Act.put, List.setIfInBounds_toArray, List.set_cons_zero, List.set_cons_succ]
  refine take_put (i := 1) (v := .agg #[.bool false, .int .i64 (-1), .int .i64 (-1), .int .i64 0, .bool false]) 130 rfl rfl (by kernel_rfl) (by kernel_rfl) (by kernel_rfl) (fun _ _ _ h => h) (yieldsIf_load_mid (by rfl) 30 (.tmp 12) rfl F 0 rfl [.bool false, .int .i64 (-1), .int .i64 (-1), .int .i64 0, .bool false] _ (fun W h => range_of h.2) Tryd.underlying30 rfl sizeEf) (by assumption) ?_
  simp only [Act.put, List.setIfInBounds_toArray, List.set_cons_zero, List.set_cons_succ]
  refine wpAnyH_ready (rs := [2]) (by kernel_rfl) (by simp) ?_
  refine AllReadyH.cons rfl (fun K hK => ?_) AllReadyH.nil
  refine step_store 25 (.tmp 10) (.tmp 129) R1 #[.int .i64 pc, .int .i64 acc, .int .i64 (m 0), .int .i64 (m 1), .int .i64 (m 2), .int .i64 (m 3), .int .i64 (m 4), .int .i64 (m 5), .int .i64 (m 6), .int .i64 (m 7), .int .i64 (m 8), .int .i64 (m 9), .int .i64 (m 10), .int .i64 (m 11), .int .i64 (m 12), .int .i64 (m 13), .int .i64 (m 14), .int .i64 (m 15)] 25 #[.int .i64 0, .int .i64 0, .int .i64 0, .int .i64 0, .int .i64 0, .int .i64 0, .int .i64 0, .int .i64 0, .int .i64 0, .int .i64 0, .int .i64 0, .int .i64 0, .int .i64 0, .int .i64 0, .int .i64 0, .int .i64 0, .int .i64 0, .int .i64 0] rfl rfl H1.out sizeVm rfl (by simp [Value.oneCell']) ?_
  intro w5 h5 e5 g5
  have HF5 := hide ((e5 F (by have := HO.out; omega)).trans HF.out)
  refine hK.out _ _ ⟨(e5 V (by have := HO.out; omega)).trans HV.out, HF5.out⟩ (fun hHeld => ?_)
  simp only [Act.put]
  refine wpAnyH_ready (rs := [3]) (by kernel_rfl) (by simp) ?_
  refine AllReadyH.cons rfl (fun K hK => ?_) AllReadyH.nil
  refine step_store 30 (.tmp 11) (.tmp 130) R2 #[.bool false, .int .i64 (-1), .int .i64 (-1), .int .i64 0, .bool false] 30 #[.bool false, .int .i64 0, .int .i64 0, .int .i64 0, .bool false] rfl rfl ((e5 R2 (by have := HO.out; omega)).trans H2.out) sizeEf rfl (by simp [Value.oneCell']) ?_
  intro w6 h6 e6 g6
  refine hK.out _ _ ⟨(e6 V (by have := HO.out; omega)).trans hHeld.1, (e6 F (by have := HO.out; omega)).trans HF5.out⟩ (fun hHeld2 => ?_)
  simp only [Act.put]
  refine wpAnyH_done (by kernel_rfl) ?_ _
  have H5 := hide ((e6 R1 (by have := HO.out; omega)).trans h5)
  have H6 := hide h6
  have HGF := hide (grown_spoil (grown_spoil (grownBy_trans HG.out (grownBy_draws _ 1 none)) (by have := HO.out; omega) g5) (by have := HO.out; omega) g6)
  clear h5 h6 e5 e6 g5 g6 hHeld hHeld2 hK
  go_wp2
  refine bodyPost_ret (results_rr rfl _ _ R1 R2 25 30 #[.int .i64 pc, .int .i64 acc, .int .i64 (m 0), .int .i64 (m 1), .int .i64 (m 2), .int .i64 (m 3), .int .i64 (m 4), .int .i64 (m 5), .int .i64 (m 6), .int .i64 (m 7), .int .i64 (m 8), .int .i64 (m 9), .int .i64 (m 10), .int .i64 (m 11), .int .i64 (m 12), .int .i64 (m 13), .int .i64 (m 14), .int .i64 (m 15)] #[.bool false, .int .i64 (-1), .int .i64 (-1), .int .i64 0, .bool false] (0, 0) (0, 0) _ _ rfl H5.out Tryd.underlying25 rfl sizeVm rfl H6.out Tryd.underlying30 rfl sizeEf) rfl ?_
  exact ⟨rfl, HGF.out⟩

set_option maxRecDepth 100000 in
set_option maxHeartbeats 8000000 in
theorem does_1 (n : Nat) (pc acc : Int) (m : Nat → Int) (inn outs : Int) (gv : Value) (w : World) :
    Calls Tryd.prog 25 #[.agg #[.int .i64 1, .int .i64 (n : Int)], .agg #[.int .i64 pc, .int .i64 acc, .int .i64 (m 0), .int .i64 (m 1), .int .i64 (m 2), .int .i64 (m 3), .int .i64 (m 4), .int .i64 (m 5), .int .i64 (m 6), .int .i64 (m 7), .int .i64 (m 8), .int .i64 (m 9), .int .i64 (m 10), .int .i64 (m 11), .int .i64 (m 12), .int .i64 (m 13), .int .i64 (m 14), .int .i64 (m 15)], .int .i64 inn, .int .i64 outs, gv] w fun e w' => e = .returned (.tuple #[.agg #[.int .i64 pc, .int .i64 (n : Int), .int .i64 (m 0), .int .i64 (m 1), .int .i64 (m 2), .int .i64 (m 3), .int .i64 (m 4), .int .i64 (m 5), .int .i64 (m 6), .int .i64 (m 7), .int .i64 (m 8), .int .i64 (m 9), .int .i64 (m 10), .int .i64 (m 11), .int .i64 (m 12), .int .i64 (m 13), .int .i64 (m 14), .int .i64 (m 15)], .agg #[.bool false, .int .i64 (-1), .int .i64 (-1), .int .i64 0, .bool false]]) ∧ w.grownBy w' none := by
  go_enter Tryd.func25, Tryd.ntmps25
  go_upto_region 1 with fail
  obtain ⟨b1, b2, b3, b4, bg⟩ := four (w := w) (o1 := .cells #[.int .i64 (1 : Int), .int .i64 (n : Int)] 43) (o2 := .cells #[.int .i64 pc, .int .i64 acc, .int .i64 (m 0), .int .i64 (m 1), .int .i64 (m 2), .int .i64 (m 3), .int .i64 (m 4), .int .i64 (m 5), .int .i64 (m 6), .int .i64 (m 7), .int .i64 (m 8), .int .i64 (m 9), .int .i64 (m 10), .int .i64 (m 11), .int .i64 (m 12), .int .i64 (m 13), .int .i64 (m 14), .int .i64 (m 15)] 25) (o3 := .cells #[.int .i64 0, .int .i64 0, .int .i64 0, .int .i64 0, .int .i64 0, .int .i64 0, .int .i64 0, .int .i64 0, .int .i64 0, .int .i64 0, .int .i64 0, .int .i64 0, .int .i64 0, .int .i64 0, .int .i64 0, .int .i64 0, .int .i64 0, .int .i64 0] 25) (o4 := .cells #[.bool false, .int .i64 0, .int .i64 0, .int .i64 0, .bool false] 30)
  generalize hw1 : (((w.alloc (.cells #[.int .i64 (1 : Int), .int .i64 (n : Int)] 43)).alloc (.cells #[.int .i64 pc, .int .i64 acc, .int .i64 (m 0), .int .i64 (m 1), .int .i64 (m 2), .int .i64 (m 3), .int .i64 (m 4), .int .i64 (m 5), .int .i64 (m 6), .int .i64 (m 7), .int .i64 (m 8), .int .i64 (m 9), .int .i64 (m 10), .int .i64 (m 11), .int .i64 (m 12), .int .i64 (m 13), .int .i64 (m 14), .int .i64 (m 15)] 25)).alloc (.cells #[.int .i64 0, .int .i64 0, .int .i64 0, .int .i64 0, .int .i64 0, .int .i64 0, .int .i64 0, .int .i64 0, .int .i64 0, .int .i64 0, .int .i64 0, .int .i64 0, .int .i64 0, .int .i64 0, .int .i64 0, .int .i64 0, .int .i64 0, .int .i64 0] 25)).alloc (.cells #[.bool false, .int .i64 0, .int .i64 0, .int .i64 0, .bool false] 30) = w1 at *
  clear hw1
  have HL := hide (box_lt b4)
  obtain ⟨X, hX⟩ : ∃ X, X = w.heap.size := ⟨_, rfl⟩
  rw [← hX] at b1 b2 b3 b4 HL ⊢
  generalize hV : X + 1 = V at *
  generalize hR1 : V + 1 = R1 at *
  generalize hR2 : R1 + 1 = R2 at *
  have HO0 : Hid (w.heap.size ≤ X ∧ X < V ∧ V < R1 ∧ R1 < R2 ∧ R2 < w1.heap.size) := hide (by have := HL.out; omega)
  clear hR1 hR2 hV hX HL
  have HX := hide b1
  have HV := hide b2
  have H1 := hide b3
  have H2 := hide b4
  have HG := hide bg
  clear b1 b2 b3 b4 bg
  go_upto_region 2 with (first | ((with_reducible refine list_store 30 (.tmp 12) (.tmp 13) (w1.heap.size) #[.bool false, .int .i64 (-1), .int .i64 (-1), .int .i64 0, .bool false] 30 #[.bool false, .int .i64 0, .int .i64 0, .int .i64 0, .bool false] ?hx ?hy ?hg ?hi ?ho ?h1 ?_); (case hx => rfl); (case hy => rfl); (case hg => exact World.heap_alloc_new _ _); (case hi => exact sizeEf); (case ho => rfl); (case h1 => simp [Value.oneCell']); intro w2 h1 e1 g1; have hgN := grown_spoil (World.grownBy_alloc w1 _ none) (Nat.le_refl _) g1; have HF := hide h1; have HX := hide (box_grown HX.out hgN (by simp)); have HV := hide (box_grown HV.out hgN (by simp)); have H1 := hide (box_grown H1.out hgN (by simp)); have H2 := hide (box_grown H2.out hgN (by simp)); have HG := hide (grownBy_trans HG.out hgN); clear h1 e1 g1 hgN) | fail)
  have HO : Hid (w.heap.size ≤ X ∧ X < V ∧ V < R1 ∧ R1 < R2 ∧ R2 < w1.heap.size) := HO0
  generalize w1.heap.size = F at *
  clear HO0
  have x0 : w2.cell? ⟨X, 0, none⟩ = some (.int .i64 (1 : Int)) := blk_cell HX.out 0
  have x1 : w2.cell? ⟨X, 1, none⟩ = some (.int .i64 (n : Int)) := blk_cell HX.out 1
  have b0 : w2.cell? ⟨V, 1, none⟩ = some (.int .i64 acc) := blk_cell HV.out 1
  have b1 := blk_free HV.out (1)
  have HXX : Hid ((w2.setCell ⟨V, 1, none⟩ (.int .i64 (n : Int))).heap[V]? = some (.cells #[.int .i64 pc, .int .i64 (n : Int), .int .i64 (m 0), .int .i64 (m 1), .int .i64 (m 2), .int .i64 (m 3), .int .i64 (m 4), .int .i64 (m 5), .int .i64 (m 6), .int .i64 (m 7), .int .i64 (m 8), .int .i64 (m 9), .int .i64 (m 10), .int .i64 (m 11), .int .i64 (m 12), .int .i64 (m 13), .int .i64 (m 14), .int .i64 (m 15)] 25 (0, 0))) := hide (blk_set HV.out (by rfl))
  have HX := hide ((heap_else w2 (1) (.int .i64 (n : Int)) (show V ≠ X by have := HO.out; omega)).trans HX.out)
  have H1 := hide ((heap_else w2 (1) (.int .i64 (n : Int)) (show V ≠ R1 by have := HO.out; omega)).trans H1.out)
  have H2 := hide ((heap_else w2 (1) (.int .i64 (n : Int)) (show V ≠ R2 by have := HO.out; omega)).trans H2.out)
  have HF := hide ((heap_else w2 (1) (.int .i64 (n : Int)) (show V ≠ F by have := HO.out; omega)).trans HF.out)
  have HG := hide (grown_set_new (R := V) (j := 1) (u := .int .i64 (n : Int)) (by have := HO.out; omega) HG.out)
  go_upto_region 33 with (first | fail)
  generalize hwn : w2.setCell ⟨V, 1, none⟩ (.int .i64 (n : Int)) = w3 at *
  clear hwn b0 b1 HV
  have HV := HXX
  clear HXX
  go_upto_region 33 with (first | fail)
  refine wp_region_held_drew (S := fun W => W.heap[V]? = some (.cells #[.int .i64 pc, .int .i64 (n : Int), .int .i64 (m 0), .int .i64 (m 1), .int .i64 (m 2), .int .i64 (m 3), .int .i64 (m 4), .int .i64 (m 5), .int .i64 (m 6), .int .i64 (m 7), .int .i64 (m 8), .int .i64 (m 9), .int .i64 (m 10), .int .i64 (m 11), .int .i64 (m 12), .int .i64 (m 13), .int .i64 (m 14), .int .i64 (m 15)] 25 (0, 0)) ∧ W.heap[F]? = some (.cells #[.bool false, .int .i64 (-1), .int .i64 (-1), .int .i64 0, .bool false] 30 (0, 0))) (by kernel_rfl) ⟨HV.out, HF.out⟩ (fun hHeld => ?_)
  refine take_put (i := 0) (v := .agg #[.int .i64 pc, .int .i64 (n : Int), .int .i64 (m 0), .int .i64 (m 1), .int .i64 (m 2), .int .i64 (m 3), .int .i64 (m 4), .int .i64 (m 5), .int .i64 (m 6), .int .i64 (m 7), .int .i64 (m 8), .int .i64 (m 9), .int .i64 (m 10), .int .i64 (m 11), .int .i64 (m 12), .int .i64 (m 13), .int .i64 (m 14), .int .i64 (m 15)]) 129 rfl rfl (by kernel_rfl) (by kernel_rfl) (by kernel_rfl) (fun _ _ _ h => h) (yieldsIf_load_mid (by rfl) 25 (.tmp 6) rfl V 0 rfl [.int .i64 pc, .int .i64 (n : Int), .int .i64 (m 0), .int .i64 (m 1), .int .i64 (m 2), .int .i64 (m 3), .int .i64 (m 4), .int .i64 (m 5), .int .i64 (m 6), .int .i64 (m 7), .int .i64 (m 8), .int .i64 (m 9), .int .i64 (m 10), .int .i64 (m 11), .int .i64 (m 12), .int .i64 (m 13), .int .i64 (m 14), .int .i64 (m 15)] _ (fun W h => range_of h.1) Tryd.underlying25 rfl sizeVm) (by assumption) ?_
  simp only [Act.put, List.setIfInBounds_toArray, List.set_cons_zero, List.set_cons_succ]
  refine take_put (i := 1) (v := .agg #[.bool false, .int .i64 (-1), .int .i64 (-1), .int .i64 0, .bool false]) 130 rfl rfl (by kernel_rfl) (by kernel_rfl) (by kernel_rfl) (fun _ _ _ h => h) (yieldsIf_load_mid (by rfl) 30 (.tmp 12) rfl F 0 rfl [.bool false, .int .i64 (-1), .int .i64 (-1), .int .i64 0, .bool false] _ (fun W h => range_of h.2) Tryd.underlying30 rfl sizeEf) (by assumption) ?_
  simp only [Act.put, List.setIfInBounds_toArray, List.set_cons_zero, List.set_cons_succ]
  refine wpAnyH_ready (rs := [2]) (by kernel_rfl) (by simp) ?_
  refine AllReadyH.cons rfl (fun K hK => ?_) AllReadyH.nil
  refine step_store 25 (.tmp 10) (.tmp 129) R1 #[.int .i64 pc, .int .i64 (n : Int), .int .i64 (m 0), .int .i64 (m 1), .int .i64 (m 2), .int .i64 (m 3), .int .i64 (m 4), .int .i64 (m 5), .int .i64 (m 6), .int .i64 (m 7), .int .i64 (m 8), .int .i64 (m 9), .int .i64 (m 10), .int .i64 (m 11), .int .i64 (m 12), .int .i64 (m 13), .int .i64 (m 14), .int .i64 (m 15)] 25 #[.int .i64 0, .int .i64 0, .int .i64 0, .int .i64 0, .int .i64 0, .int .i64 0, .int .i64 0, .int .i64 0, .int .i64 0, .int .i64 0, .int .i64 0, .int .i64 0, .int .i64 0, .int .i64 0, .int .i64 0, .int .i64 0, .int .i64 0, .int .i64 0] rfl rfl H1.out sizeVm rfl (by simp [Value.oneCell']) ?_
  intro w5 h5 e5 g5
  have HF5 := hide ((e5 F (by have := HO.out; omega)).trans HF.out)
  refine hK.out _ _ ⟨(e5 V (by have := HO.out; omega)).trans HV.out, HF5.out⟩ (fun hHeld => ?_)
  simp only [Act.put]
  refine wpAnyH_ready (rs := [3]) (by kernel_rfl) (by simp) ?_
  refine AllReadyH.cons rfl (fun K hK => ?_) AllReadyH.nil
  refine step_store 30 (.tmp 11) (.tmp 130) R2 #[.bool false, .int .i64 (-1), .int .i64 (-1), .int .i64 0, .bool false] 30 #[.bool false, .int .i64 0, .int .i64 0, .int .i64 0, .bool false] rfl rfl ((e5 R2 (by have := HO.out; omega)).trans H2.out) sizeEf rfl (by simp [Value.oneCell']) ?_
  intro w6 h6 e6 g6
  refine hK.out _ _ ⟨(e6 V (by have := HO.out; omega)).trans hHeld.1, (e6 F (by have := HO.out; omega)).trans HF5.out⟩ (fun hHeld2 => ?_)
  simp only [Act.put]
  refine wpAnyH_done (by kernel_rfl) ?_ _
  have H5 := hide ((e6 R1 (by have := HO.out; omega)).trans h5)
  have H6 := hide h6
  have HGF := hide (grown_spoil (grown_spoil (grownBy_trans HG.out (grownBy_draws _ 1 none)) (by have := HO.out; omega) g5) (by have := HO.out; omega) g6)
  clear h5 h6 e5 e6 g5 g6 hHeld hHeld2 hK
  go_wp2
  refine bodyPost_ret (results_rr rfl _ _ R1 R2 25 30 #[.int .i64 pc, .int .i64 (n : Int), .int .i64 (m 0), .int .i64 (m 1), .int .i64 (m 2), .int .i64 (m 3), .int .i64 (m 4), .int .i64 (m 5), .int .i64 (m 6), .int .i64 (m 7), .int .i64 (m 8), .int .i64 (m 9), .int .i64 (m 10), .int .i64 (m 11), .int .i64 (m 12), .int .i64 (m 13), .int .i64 (m 14), .int .i64 (m 15)] #[.bool false, .int .i64 (-1), .int .i64 (-1), .int .i64 0, .bool false] (0, 0) (0, 0) _ _ rfl H5.out Tryd.underlying25 rfl sizeVm rfl H6.out Tryd.underlying30 rfl sizeEf) rfl ?_
  exact ⟨rfl, HGF.out⟩

set_option maxRecDepth 100000 in
set_option maxHeartbeats 8000000 in
theorem does_2 (n : Nat) (pc acc : Int) (m : Nat → Int) (inn outs : Int) (gv : Value) (w : World) (hn : n < 16) :
    Calls Tryd.prog 25 #[.agg #[.int .i64 2, .int .i64 (n : Int)], .agg #[.int .i64 pc, .int .i64 acc, .int .i64 (m 0), .int .i64 (m 1), .int .i64 (m 2), .int .i64 (m 3), .int .i64 (m 4), .int .i64 (m 5), .int .i64 (m 6), .int .i64 (m 7), .int .i64 (m 8), .int .i64 (m 9), .int .i64 (m 10), .int .i64 (m 11), .int .i64 (m 12), .int .i64 (m 13), .int .i64 (m 14), .int .i64 (m 15)], .int .i64 inn, .int .i64 outs, gv] w fun e w' => e = .returned (.tuple #[.agg #[.int .i64 pc, .int .i64 (m n), .int .i64 (m 0), .int .i64 (m 1), .int .i64 (m 2), .int .i64 (m 3), .int .i64 (m 4), .int .i64 (m 5), .int .i64 (m 6), .int .i64 (m 7), .int .i64 (m 8), .int .i64 (m 9), .int .i64 (m 10), .int .i64 (m 11), .int .i64 (m 12), .int .i64 (m 13), .int .i64 (m 14), .int .i64 (m 15)], .agg #[.bool false, .int .i64 (-1), .int .i64 (-1), .int .i64 0, .bool false]]) ∧ w.grownBy w' none := by
  go_enter Tryd.func25, Tryd.ntmps25
  go_upto_region 1 with fail
  obtain ⟨b1, b2, b3, b4, bg⟩ := four (w := w) (o1 := .cells #[.int .i64 (2 : Int), .int .i64 (n : Int)] 43) (o2 := .cells #[.int .i64 pc, .int .i64 acc, .int .i64 (m 0), .int .i64 (m 1), .int .i64 (m 2), .int .i64 (m 3), .int .i64 (m 4), .int .i64 (m 5), .int .i64 (m 6), .int .i64 (m 7), .int .i64 (m 8), .int .i64 (m 9), .int .i64 (m 10), .int .i64 (m 11), .int .i64 (m 12), .int .i64 (m 13), .int .i64 (m 14), .int .i64 (m 15)] 25) (o3 := .cells #[.int .i64 0, .int .i64 0, .int .i64 0, .int .i64 0, .int .i64 0, .int .i64 0, .int .i64 0, .int .i64 0, .int .i64 0, .int .i64 0, .int .i64 0, .int .i64 0, .int .i64 0, .int .i64 0, .int .i64 0, .int .i64 0, .int .i64 0, .int .i64 0] 25) (o4 := .cells #[.bool false, .int .i64 0, .int .i64 0, .int .i64 0, .bool false] 30)
  generalize hw1 : (((w.alloc (.cells #[.int .i64 (2 : Int), .int .i64 (n : Int)] 43)).alloc (.cells #[.int .i64 pc, .int .i64 acc, .int .i64 (m 0), .int .i64 (m 1), .int .i64 (m 2), .int .i64 (m 3), .int .i64 (m 4), .int .i64 (m 5), .int .i64 (m 6), .int .i64 (m 7), .int .i64 (m 8), .int .i64 (m 9), .int .i64 (m 10), .int .i64 (m 11), .int .i64 (m 12), .int .i64 (m 13), .int .i64 (m 14), .int .i64 (m 15)] 25)).alloc (.cells #[.int .i64 0, .int .i64 0, .int .i64 0, .int .i64 0, .int .i64 0, .int .i64 0, .int .i64 0, .int .i64 0, .int .i64 0, .int .i64 0, .int .i64 0, .int .i64 0, .int .i64 0, .int .i64 0, .int .i64 0, .int .i64 0, .int .i64 0, .int .i64 0] 25)).alloc (.cells #[.bool false, .int .i64 0, .int .i64 0, .int .i64 0, .bool false] 30) = w1 at *
  clear hw1
  have HL := hide (box_lt b4)
  obtain ⟨X, hX⟩ : ∃ X, X = w.heap.size := ⟨_, rfl⟩
  rw [← hX] at b1 b2 b3 b4 HL ⊢
  generalize hV : X + 1 = V at *
  generalize hR1 : V + 1 = R1 at *
  generalize hR2 : R1 + 1 = R2 at *
  have HO0 : Hid (w.heap.size ≤ X ∧ X < V ∧ V < R1 ∧ R1 < R2 ∧ R2 < w1.heap.size) := hide (by have := HL.out; omega)
  clear hR1 hR2 hV hX HL
  have HX := hide b1
  have HV := hide b2
  have H1 := hide b3
  have H2 := hide b4
  have HG := hide bg
  clear b1 b2 b3 b4 bg
  go_upto_region 2 with (first | ((with_reducible refine list_store 30 (.tmp 12) (.tmp 13) (w1.heap.size) #[.bool false, .int .i64 (-1), .int .i64 (-1), .int .i64 0, .bool false] 30 #[.bool false, .int .i64 0, .int .i64 0, .int .i64 0, .bool false] ?hx ?hy ?hg ?hi ?ho ?h1 ?_); (case hx => rfl); (case hy => rfl); (case hg => exact World.heap_alloc_new _ _); (case hi => exact sizeEf); (case ho => rfl); (case h1 => simp [Value.oneCell']); intro w2 h1 e1 g1; have hgN := grown_spoil (World.grownBy_alloc w1 _ none) (Nat.le_refl _) g1; have HF := hide h1; have HX := hide (box_grown HX.out hgN (by simp)); have HV := hide (box_grown HV.out hgN (by simp)); have H1 := hide (box_grown H1.out hgN (by simp)); have H2 := hide (box_grown H2.out hgN (by simp)); have HG := hide (grownBy_trans HG.out hgN); clear h1 e1 g1 hgN) | fail)
  have HO : Hid (w.heap.size ≤ X ∧ X < V ∧ V < R1 ∧ R1 < R2 ∧ R2 < w1.heap.size) := HO0
  generalize w1.heap.size = F at *
  clear HO0
  have x0 : w2.cell? ⟨X, 0, none⟩ = some (.int .i64 (2 : Int)) := blk_cell HX.out 0
  have x1 : w2.cell? ⟨X, 1, none⟩ = some (.int .i64 (n : Int)) := blk_cell HX.out 1
  have v2 : w2.cell? ⟨V, 2 + n, none⟩ = some (.int .i64 (m n)) := vm_word (v := ⟨pc, acc, m⟩) HV.out n hn
  have b0 : w2.cell? ⟨V, 1, none⟩ = some (.int .i64 acc) := blk_cell HV.out 1
  have b1 := blk_free HV.out (1)
  have HXX : Hid ((w2.setCell ⟨V, 1, none⟩ (.int .i64 (m n))).heap[V]? = some (.cells #[.int .i64 pc, .int .i64 (m n), .int .i64 (m 0), .int .i64 (m 1), .int .i64 (m 2), .int .i64 (m 3), .int .i64 (m 4), .int .i64 (m 5), .int .i64 (m 6), .int .i64 (m 7), .int .i64 (m 8), .int .i64 (m 9), .int .i64 (m 10), .int .i64 (m 11), .int .i64 (m 12), .int .i64 (m 13), .int .i64 (m 14), .int .i64 (m 15)] 25 (0, 0))) := hide (blk_set HV.out (by rfl))
  have HX := hide ((heap_else w2 (1) (.int .i64 (m n)) (show V ≠ X by have := HO.out; omega)).trans HX.out)
  have H1 := hide ((heap_else w2 (1) (.int .i64 (m n)) (show V ≠ R1 by have := HO.out; omega)).trans H1.out)
  have H2 := hide ((heap_else w2 (1) (.int .i64 (m n)) (show V ≠ R2 by have := HO.out; omega)).trans H2.out)
  have HF := hide ((heap_else w2 (1) (.int .i64 (m n)) (show V ≠ F by have := HO.out; omega)).trans HF.out)
  have HG := hide (grown_set_new (R := V) (j := 1) (u := .int .i64 (m n)) (by have := HO.out; omega) HG.out)
  go_upto_region 33 with (first | fail)
  generalize hwn : w2.setCell ⟨V, 1, none⟩ (.int .i64 (m n)) = w3 at *
  clear hwn b0 b1 HV
  have HV := HXX
  clear HXX
  go_upto_region 33 with (first | fail)
  refine wp_region_held_drew (S := fun W => W.heap[V]? = some (.cells #[.int .i64 pc, .int .i64 (m n), .int .i64 (m 0), .int .i64 (m 1), .int .i64 (m 2), .int .i64 (m 3), .int .i64 (m 4), .int .i64 (m 5), .int .i64 (m 6), .int .i64 (m 7), .int .i64 (m 8), .int .i64 (m 9), .int .i64 (m 10), .int .i64 (m 11), .int .i64 (m 12), .int .i64 (m 13), .int .i64 (m 14), .int .i64 (m 15)] 25 (0, 0)) ∧ W.heap[F]? = some (.cells #[.bool false, .int .i64 (-1), .int .i64 (-1), .int .i64 0, .bool false] 30 (0, 0))) (by kernel_rfl) ⟨HV.out, HF.out⟩ (fun hHeld => ?_)
  refine take_put (i := 0) (v := .agg #[.int .i64 pc, .int .i64 (m n), .int .i64 (m 0), .int .i64 (m 1), .int .i64 (m 2), .int .i64 (m 3), .int .i64 (m 4), .int .i64 (m 5), .int .i64 (m 6), .int .i64 (m 7), .int .i64 (m 8), .int .i64 (m 9), .int .i64 (m 10), .int .i64 (m 11), .int .i64 (m 12), .int .i64 (m 13), .int .i64 (m 14), .int .i64 (m 15)]) 129 rfl rfl (by kernel_rfl) (by kernel_rfl) (by kernel_rfl) (fun _ _ _ h => h) (yieldsIf_load_mid (by rfl) 25 (.tmp 6) rfl V 0 rfl [.int .i64 pc, .int .i64 (m n), .int .i64 (m 0), .int .i64 (m 1), .int .i64 (m 2), .int .i64 (m 3), .int .i64 (m 4), .int .i64 (m 5), .int .i64 (m 6), .int .i64 (m 7), .int .i64 (m 8), .int .i64 (m 9), .int .i64 (m 10), .int .i64 (m 11), .int .i64 (m 12), .int .i64 (m 13), .int .i64 (m 14), .int .i64 (m 15)] _ (fun W h => range_of h.1) Tryd.underlying25 rfl sizeVm) (by assumption) ?_
  simp only [Act.put, List.setIfInBounds_toArray, List.set_cons_zero, List.set_cons_succ]
  refine take_put (i := 1) (v := .agg #[.bool false, .int .i64 (-1), .int .i64 (-1), .int .i64 0, .bool false]) 130 rfl rfl (by kernel_rfl) (by kernel_rfl) (by kernel_rfl) (fun _ _ _ h => h) (yieldsIf_load_mid (by rfl) 30 (.tmp 12) rfl F 0 rfl [.bool false, .int .i64 (-1), .int .i64 (-1), .int .i64 0, .bool false] _ (fun W h => range_of h.2) Tryd.underlying30 rfl sizeEf) (by assumption) ?_
  simp only [Act.put, List.setIfInBounds_toArray, List.set_cons_zero, List.set_cons_succ]
  refine wpAnyH_ready (rs := [2]) (by kernel_rfl) (by simp) ?_
  refine AllReadyH.cons rfl (fun K hK => ?_) AllReadyH.nil
  refine step_store 25 (.tmp 10) (.tmp 129) R1 #[.int .i64 pc, .int .i64 (m n), .int .i64 (m 0), .int .i64 (m 1), .int .i64 (m 2), .int .i64 (m 3), .int .i64 (m 4), .int .i64 (m 5), .int .i64 (m 6), .int .i64 (m 7), .int .i64 (m 8), .int .i64 (m 9), .int .i64 (m 10), .int .i64 (m 11), .int .i64 (m 12), .int .i64 (m 13), .int .i64 (m 14), .int .i64 (m 15)] 25 #[.int .i64 0, .int .i64 0, .int .i64 0, .int .i64 0, .int .i64 0, .int .i64 0, .int .i64 0, .int .i64 0, .int .i64 0, .int .i64 0, .int .i64 0, .int .i64 0, .int .i64 0, .int .i64 0, .int .i64 0, .int .i64 0, .int .i64 0, .int .i64 0] rfl rfl H1.out sizeVm rfl (by simp [Value.oneCell']) ?_
  intro w5 h5 e5 g5
  have HF5 := hide ((e5 F (by have := HO.out; omega)).trans HF.out)
  refine hK.out _ _ ⟨(e5 V (by have := HO.out; omega)).trans HV.out, HF5.out⟩ (fun hHeld => ?_)
  simp only [Act.put]
  refine wpAnyH_ready (rs := [3]) (by kernel_rfl) (by simp) ?_
  refine AllReadyH.cons rfl (fun K hK => ?_) AllReadyH.nil
  refine step_store 30 (.tmp 11) (.tmp 130) R2 #[.bool false, .int .i64 (-1), .int .i64 (-1), .int .i64 0, .bool false] 30 #[.bool false, .int .i64 0, .int .i64 0, .int .i64 0, .bool false] rfl rfl ((e5 R2 (by have := HO.out; omega)).trans H2.out) sizeEf rfl (by simp [Value.oneCell']) ?_
  intro w6 h6 e6 g6
  refine hK.out _ _ ⟨(e6 V (by have := HO.out; omega)).trans hHeld.1, (e6 F (by have := HO.out; omega)).trans HF5.out⟩ (fun hHeld2 => ?_)
  simp only [Act.put]
  refine wpAnyH_done (by kernel_rfl) ?_ _
  have H5 := hide ((e6 R1 (by have := HO.out; omega)).trans h5)
  have H6 := hide h6
  have HGF := hide (grown_spoil (grown_spoil (grownBy_trans HG.out (grownBy_draws _ 1 none)) (by have := HO.out; omega) g5) (by have := HO.out; omega) g6)
  clear h5 h6 e5 e6 g5 g6 hHeld hHeld2 hK
  go_wp2
  refine bodyPost_ret (results_rr rfl _ _ R1 R2 25 30 #[.int .i64 pc, .int .i64 (m n), .int .i64 (m 0), .int .i64 (m 1), .int .i64 (m 2), .int .i64 (m 3), .int .i64 (m 4), .int .i64 (m 5), .int .i64 (m 6), .int .i64 (m 7), .int .i64 (m 8), .int .i64 (m 9), .int .i64 (m 10), .int .i64 (m 11), .int .i64 (m 12), .int .i64 (m 13), .int .i64 (m 14), .int .i64 (m 15)] #[.bool false, .int .i64 (-1), .int .i64 (-1), .int .i64 0, .bool false] (0, 0) (0, 0) _ _ rfl H5.out Tryd.underlying25 rfl sizeVm rfl H6.out Tryd.underlying30 rfl sizeEf) rfl ?_
  exact ⟨rfl, HGF.out⟩

set_option maxRecDepth 100000 in
set_option maxHeartbeats 8000000 in
theorem does_3 (n : Nat) (pc acc : Int) (m : Nat → Int) (inn outs : Int) (gv : Value) (w : World) (hn : n < 16) (m2 : Nat → Int) (hm2 : upd m n acc = m2) :
    Calls Tryd.prog 25 #[.agg #[.int .i64 3, .int .i64 (n : Int)], .agg #[.int .i64 pc, .int .i64 acc, .int .i64 (m 0), .int .i64 (m 1), .int .i64 (m 2), .int .i64 (m 3), .int .i64 (m 4), .int .i64 (m 5), .int .i64 (m 6), .int .i64 (m 7), .int .i64 (m 8), .int .i64 (m 9), .int .i64 (m 10), .int .i64 (m 11), .int .i64 (m 12), .int .i64 (m 13), .int .i64 (m 14), .int .i64 (m 15)], .int .i64 inn, .int .i64 outs, gv] w fun e w' => e = .returned (.tuple #[.agg #[.int .i64 pc, .int .i64 acc, .int .i64 (m2 0), .int .i64 (m2 1), .int .i64 (m2 2), .int .i64 (m2 3), .int .i64 (m2 4), .int .i64 (m2 5), .int .i64 (m2 6), .int .i64 (m2 7), .int .i64 (m2 8), .int .i64 (m2 9), .int .i64 (m2 10), .int .i64 (m2 11), .int .i64 (m2 12), .int .i64 (m2 13), .int .i64 (m2 14), .int .i64 (m2 15)], .agg #[.bool false, .int .i64 (-1), .int .i64 (-1), .int .i64 0, .bool false]]) ∧ w.grownBy w' none := by
  have HM2 := hide (fun (W : World) {g t : Nat} (h : W.heap[g]? = some (.cells (vmC ⟨pc, acc, m⟩) t (0, 0))) => (show (W.setCell ⟨g, 2 + n, none⟩ (.int .i64 acc)).heap[g]? = some (.cells (vmC ⟨pc, acc, m2⟩) t (0, 0)) by rw [← hm2]; exact vm_store h n hn acc))
  clear hm2
  go_enter Tryd.func25, Tryd.ntmps25
  go_upto_region 1 with fail
  obtain ⟨b1, b2, b3, b4, bg⟩ := four (w := w) (o1 := .cells #[.int .i64 (3 : Int), .int .i64 (n : Int)] 43) (o2 := .cells #[.int .i64 pc, .int .i64 acc, .int .i64 (m 0), .int .i64 (m 1), .int .i64 (m 2), .int .i64 (m 3), .int .i64 (m 4), .int .i64 (m 5), .int .i64 (m 6), .int .i64 (m 7), .int .i64 (m 8), .int .i64 (m 9), .int .i64 (m 10), .int .i64 (m 11), .int .i64 (m 12), .int .i64 (m 13), .int .i64 (m 14), .int .i64 (m 15)] 25) (o3 := .cells #[.int .i64 0, .int .i64 0, .int .i64 0, .int .i64 0, .int .i64 0, .int .i64 0, .int .i64 0, .int .i64 0, .int .i64 0, .int .i64 0, .int .i64 0, .int .i64 0, .int .i64 0, .int .i64 0, .int .i64 0, .int .i64 0, .int .i64 0, .int .i64 0] 25) (o4 := .cells #[.bool false, .int .i64 0, .int .i64 0, .int .i64 0, .bool false] 30)
  generalize hw1 : (((w.alloc (.cells #[.int .i64 (3 : Int), .int .i64 (n : Int)] 43)).alloc (.cells #[.int .i64 pc, .int .i64 acc, .int .i64 (m 0), .int .i64 (m 1), .int .i64 (m 2), .int .i64 (m 3), .int .i64 (m 4), .int .i64 (m 5), .int .i64 (m 6), .int .i64 (m 7), .int .i64 (m 8), .int .i64 (m 9), .int .i64 (m 10), .int .i64 (m 11), .int .i64 (m 12), .int .i64 (m 13), .int .i64 (m 14), .int .i64 (m 15)] 25)).alloc (.cells #[.int .i64 0, .int .i64 0, .int .i64 0, .int .i64 0, .int .i64 0, .int .i64 0, .int .i64 0, .int .i64 0, .int .i64 0, .int .i64 0, .int .i64 0, .int .i64 0, .int .i64 0, .int .i64 0, .int .i64 0, .int .i64 0, .int .i64 0, .int .i64 0] 25)).alloc (.cells #[.bool false, .int .i64 0, .int .i64 0, .int .i64 0, .bool false] 30) = w1 at *
  clear hw1
  have HL := hide (box_lt b4)
  obtain ⟨X, hX⟩ : ∃ X, X = w.heap.size := ⟨_, rfl⟩
  rw [← hX] at b1 b2 b3 b4 HL ⊢
  generalize hV : X + 1 = V at *
  generalize hR1 : V + 1 = R1 at *
  generalize hR2 : R1 + 1 = R2 at *
  have HO0 : Hid (w.heap.size ≤ X ∧ X < V ∧ V < R1 ∧ R1 < R2 ∧ R2 < w1.heap.size) := hide (by have := HL.out; omega)
  clear hR1 hR2 hV hX HL
  have HX := hide b1
  have HV := hide b2
  have H1 := hide b3
  have H2 := hide b4
  have HG := hide bg
  clear b1 b2 b3 b4 bg
  go_upto_region 2 with (first | ((with_reducible refine list_store 30 (.tmp 12) (.tmp 13) (w1.heap.size) #[.bool false, .int .i64 (-1), .int .i64 (-1), .int .i64 0, .bool false] 30 #[.bool false, .int .i64 0, .int .i64 0, .int .i64 0, .bool false] ?hx ?hy ?hg ?hi ?ho ?h1 ?_); (case hx => rfl); (case hy => rfl); (case hg => exact World.heap_alloc_new _ _); (case hi => exact sizeEf); (case ho => rfl); (case h1 => simp [Value.oneCell']); intro w2 h1 e1 g1; have hgN := grown_spoil (World.grownBy_alloc w1 _ none) (Nat.le_refl _) g1; have HF := hide h1; have HX := hide (box_grown HX.out hgN (by simp)); have HV := hide (box_grown HV.out hgN (by simp)); have H1 := hide (box_grown H1.out hgN (by simp)); have H2 := hide (box_grown H2.out hgN (by simp)); have HG := hide (grownBy_trans HG.out hgN); clear h1 e1 g1 hgN) | fail)
  have HO : Hid (w.heap.size ≤ X ∧ X < V ∧ V < R1 ∧ R1 < R2 ∧ R2 < w1.heap.size) := HO0
  generalize w1.heap.size = F at *
  clear HO0
  have x0 : w2.cell? ⟨X, 0, none⟩ = some (.int .i64 (3 : Int)) := blk_cell HX.out 0
  have x1 : w2.cell? ⟨X, 1, none⟩ = some (.int .i64 (n : Int)) := blk_cell HX.out 1
  have v1 : w2.cell? ⟨V, 1, none⟩ = some (.int .i64 acc) := blk_cell HV.out 1
  have b0 : w2.cell? ⟨V, 2 + n, none⟩ = some (.int .i64 (m n)) := vm_word (v := ⟨pc, acc, m⟩) HV.out n hn
  have b1 := blk_free HV.out (2 + n)
  have HXX : Hid ((w2.setCell ⟨V, 2 + n, none⟩ (.int .i64 acc)).heap[V]? = some (.cells #[.int .i64 pc, .int .i64 acc, .int .i64 (m2 0), .int .i64 (m2 1), .int .i64 (m2 2), .int .i64 (m2 3), .int .i64 (m2 4), .int .i64 (m2 5), .int .i64 (m2 6), .int .i64 (m2 7), .int .i64 (m2 8), .int .i64 (m2 9), .int .i64 (m2 10), .int .i64 (m2 11), .int .i64 (m2 12), .int .i64 (m2 13), .int .i64 (m2 14), .int .i64 (m2 15)] 25 (0, 0))) := hide (HM2.out w2 HV.out)
  have HX := hide ((heap_else w2 (2 + n) (.int .i64 acc) (show V ≠ X by have := HO.out; omega)).trans HX.out)
  have H1 := hide ((heap_else w2 (2 + n) (.int .i64 acc) (show V ≠ R1 by have := HO.out; omega)).trans H1.out)
  have H2 := hide ((heap_else w2 (2 + n) (.int .i64 acc) (show V ≠ R2 by have := HO.out; omega)).trans H2.out)
  have HF := hide ((heap_else w2 (2 + n) (.int .i64 acc) (show V ≠ F by have := HO.out; omega)).trans HF.out)
  have HG := hide (grown_set_new (R := V) (j := 2 + n) (u := .int .i64 acc) (by have := HO.out; omega) HG.out)
  go_upto_region 33 with (first | fail)
  generalize hwn : w2.setCell ⟨V, 2 + n, none⟩ (.int .i64 acc) = w3 at *
  clear hwn b0 b1 HV
  have HV := HXX
  clear HXX
  go_upto_region 33 with (first | fail)
  refine wp_region_held_drew (S := fun W => W.heap[V]? = some (.cells #[.int .i64 pc, .int .i64 acc, .int .i64 (m2 0), .int .i64 (m2 1), .int .i64 (m2 2), .int .i64 (m2 3), .int .i64 (m2 4), .int .i64 (m2 5), .int .i64 (m2 6), .int .i64 (m2 7), .int .i64 (m2 8), .int .i64 (m2 9), .int .i64 (m2 10), .int .i64 (m2 11), .int .i64 (m2 12), .int .i64 (m2 13), .int .i64 (m2 14), .int .i64 (m2 15)] 25 (0, 0)) ∧ W.heap[F]? = some (.cells #[.bool false, .int .i64 (-1), .int .i64 (-1), .int .i64 0, .bool false] 30 (0, 0))) (by kernel_rfl) ⟨HV.out, HF.out⟩ (fun hHeld => ?_)
  refine take_put (i := 0) (v := .agg #[.int .i64 pc, .int .i64 acc, .int .i64 (m2 0), .int .i64 (m2 1), .int .i64 (m2 2), .int .i64 (m2 3), .int .i64 (m2 4), .int .i64 (m2 5), .int .i64 (m2 6), .int .i64 (m2 7), .int .i64 (m2 8), .int .i64 (m2 9), .int .i64 (m2 10), .int .i64 (m2 11), .int .i64 (m2 12), .int .i64 (m2 13), .int .i64 (m2 14), .int .i64 (m2 15)]) 129 rfl rfl (by kernel_rfl) (by kernel_rfl) (by kernel_rfl) (fun _ _ _ h => h) (yieldsIf_load_mid (by rfl) 25 (.tmp 6) rfl V 0 rfl [.int .i64 pc, .int .i64 acc, .int .i64 (m2 0), .int .i64 (m2 1), .int .i64 (m2 2), .int .i64 (m2 3), .int .i64 (m2 4), .int .i64 (m2 5), .int .i64 (m2 6), .int .i64 (m2 7), .int .i64 (m2 8), .int .i64 (m2 9), .int .i64 (m2 10), .int .i64 (m2 11), .int .i64 (m2 12), .int .i64 (m2 13), .int .i64 (m2 14), .int .i64 (m2 15)] _ (fun W h => range_of h.1) Tryd.underlying25 rfl sizeVm) (by assumption) ?_
  simp only [Act.put, List.setIfInBounds_toArray, List.set_cons_zero, List.set_cons_succ]
  refine take_put (i := 1) (v := .agg #[.bool false, .int .i64 (-1), .int .i64 (-1), .int .i64 0, .bool false]) 130 rfl rfl (by kernel_rfl) (by kernel_rfl) (by kernel_rfl) (fun _ _ _ h => h) (yieldsIf_load_mid (by rfl) 30 (.tmp 12) rfl F 0 rfl [.bool false, .int .i64 (-1), .int .i64 (-1), .int .i64 0, .bool false] _ (fun W h => range_of h.2) Tryd.underlying30 rfl sizeEf) (by assumption) ?_
  simp only [Act.put, List.setIfInBounds_toArray, List.set_cons_zero, List.set_cons_succ]
  refine wpAnyH_ready (rs := [2]) (by kernel_rfl) (by simp) ?_
  refine AllReadyH.cons rfl (fun K hK => ?_) AllReadyH.nil
  refine step_store 25 (.tmp 10) (.tmp 129) R1 #[.int .i64 pc, .int .i64 acc, .int .i64 (m2 0), .int .i64 (m2 1), .int .i64 (m2 2), .int .i64 (m2 3), .int .i64 (m2 4), .int .i64 (m2 5), .int .i64 (m2 6), .int .i64 (m2 7), .int .i64 (m2 8), .int .i64 (m2 9), .int .i64 (m2 10), .int .i64 (m2 11), .int .i64 (m2 12), .int .i64 (m2 13), .int .i64 (m2 14), .int .i64 (m2 15)] 25 #[.int .i64 0, .int .i64 0, .int .i64 0, .int .i64 0, .int .i64 0, .int .i64 0, .int .i64 0, .int .i64 0, .int .i64 0, .int .i64 0, .int .i64 0, .int .i64 0, .int .i64 0, .int .i64 0, .int .i64 0, .int .i64 0, .int .i64 0, .int .i64 0] rfl rfl H1.out sizeVm rfl (by simp [Value.oneCell']) ?_
  intro w5 h5 e5 g5
  have HF5 := hide ((e5 F (by have := HO.out; omega)).trans HF.out)
  refine hK.out _ _ ⟨(e5 V (by have := HO.out; omega)).trans HV.out, HF5.out⟩ (fun hHeld => ?_)
  simp only [Act.put]
  refine wpAnyH_ready (rs := [3]) (by kernel_rfl) (by simp) ?_
  refine AllReadyH.cons rfl (fun K hK => ?_) AllReadyH.nil
  refine step_store 30 (.tmp 11) (.tmp 130) R2 #[.bool false, .int .i64 (-1), .int .i64 (-1), .int .i64 0, .bool false] 30 #[.bool false, .int .i64 0, .int .i64 0, .int .i64 0, .bool false] rfl rfl ((e5 R2 (by have := HO.out; omega)).trans H2.out) sizeEf rfl (by simp [Value.oneCell']) ?_
  intro w6 h6 e6 g6
  refine hK.out _ _ ⟨(e6 V (by have := HO.out; omega)).trans hHeld.1, (e6 F (by have := HO.out; omega)).trans HF5.out⟩ (fun hHeld2 => ?_)
  simp only [Act.put]
  refine wpAnyH_done (by kernel_rfl) ?_ _
  have H5 := hide ((e6 R1 (by have := HO.out; omega)).trans h5)
  have H6 := hide h6
  have HGF := hide (grown_spoil (grown_spoil (grownBy_trans HG.out (grownBy_draws _ 1 none)) (by have := HO.out; omega) g5) (by have := HO.out; omega) g6)
  clear h5 h6 e5 e6 g5 g6 hHeld hHeld2 hK
  go_wp2
  refine bodyPost_ret (results_rr rfl _ _ R1 R2 25 30 #[.int .i64 pc, .int .i64 acc, .int .i64 (m2 0), .int .i64 (m2 1), .int .i64 (m2 2), .int .i64 (m2 3), .int .i64 (m2 4), .int .i64 (m2 5), .int .i64 (m2 6), .int .i64 (m2 7), .int .i64 (m2 8), .int .i64 (m2 9), .int .i64 (m2 10), .int .i64 (m2 11), .int .i64 (m2 12), .int .i64 (m2 13), .int .i64 (m2 14), .int .i64 (m2 15)] #[.bool false, .int .i64 (-1), .int .i64 (-1), .int .i64 0, .bool false] (0, 0) (0, 0) _ _ rfl H5.out Tryd.underlying25 rfl sizeVm rfl H6.out Tryd.underlying30 rfl sizeEf) rfl ?_
  exact ⟨rfl, HGF.out⟩

set_option maxRecDepth 100000 in
set_option maxHeartbeats 8000000 in
theorem does_4 (n : Nat) (pc acc : Int) (m : Nat → Int) (inn outs : Int) (gv : Value) (w : World) (hn : n < 16) (ha : 0 ≤ acc ∧ acc < 4294967296) (hm : 0 ≤ m n ∧ m n < 4294967296) :
    Calls Tryd.prog 25 #[.agg #[.int .i64 4, .int .i64 (n : Int)], .agg #[.int .i64 pc, .int .i64 acc, .int .i64 (m 0), .int .i64 (m 1), .int .i64 (m 2), .int .i64 (m 3), .int .i64 (m 4), .int .i64 (m 5), .int .i64 (m 6), .int .i64 (m 7), .int .i64 (m 8), .int .i64 (m 9), .int .i64 (m 10), .int .i64 (m 11), .int .i64 (m 12), .int .i64 (m 13), .int .i64 (m 14), .int .i64 (m 15)], .int .i64 inn, .int .i64 outs, gv] w fun e w' => e = .returned (.tuple #[.agg #[.int .i64 pc, .int .i64 ((acc + m n) % 4294967296), .int .i64 (m 0), .int .i64 (m 1), .int .i64 (m 2), .int .i64 (m 3), .int .i64 (m 4), .int .i64 (m 5), .int .i64 (m 6), .int .i64 (m 7), .int .i64 (m 8), .int .i64 (m 9), .int .i64 (m 10), .int .i64 (m 11), .int .i64 (m 12), .int .i64 (m 13), .int .i64 (m 14), .int .i64 (m 15)], .agg #[.bool false, .int .i64 (-1), .int .i64 (-1), .int .i64 0, .bool false]]) ∧ w.grownBy w' none := by
  have HE : ((acc + m n)).tmod 4294967296 = (acc + m n) % 4294967296 := Int.tmod_eq_emod_of_nonneg (by omega)
  go_enter Tryd.func25, Tryd.ntmps25
  go_upto_region 1 with fail
  obtain ⟨b1, b2, b3, b4, bg⟩ := four (w := w) (o1 := .cells #[.int .i64 (4 : Int), .int .i64 (n : Int)] 43) (o2 := .cells #[.int .i64 pc, .int .i64 acc, .int .i64 (m 0), .int .i64 (m 1), .int .i64 (m 2), .int .i64 (m 3), .int .i64 (m 4), .int .i64 (m 5), .int .i64 (m 6), .int .i64 (m 7), .int .i64 (m 8), .int .i64 (m 9), .int .i64 (m 10), .int .i64 (m 11), .int .i64 (m 12), .int .i64 (m 13), .int .i64 (m 14), .int .i64 (m 15)] 25) (o3 := .cells #[.int .i64 0, .int .i64 0, .int .i64 0, .int .i64 0, .int .i64 0, .int .i64 0, .int .i64 0, .int .i64 0, .int .i64 0, .int .i64 0, .int .i64 0, .int .i64 0, .int .i64 0, .int .i64 0, .int .i64 0, .int .i64 0, .int .i64 0, .int .i64 0] 25) (o4 := .cells #[.bool false, .int .i64 0, .int .i64 0, .int .i64 0, .bool false] 30)
  generalize hw1 : (((w.alloc (.cells #[.int .i64 (4 : Int), .int .i64 (n : Int)] 43)).alloc (.cells #[.int .i64 pc, .int .i64 acc, .int .i64 (m 0), .int .i64 (m 1), .int .i64 (m 2), .int .i64 (m 3), .int .i64 (m 4), .int .i64 (m 5), .int .i64 (m 6), .int .i64 (m 7), .int .i64 (m 8), .int .i64 (m 9), .int .i64 (m 10), .int .i64 (m 11), .int .i64 (m 12), .int .i64 (m 13), .int .i64 (m 14), .int .i64 (m 15)] 25)).alloc (.cells #[.int .i64 0, .int .i64 0, .int .i64 0, .int .i64 0, .int .i64 0, .int .i64 0, .int .i64 0, .int .i64 0, .int .i64 0, .int .i64 0, .int .i64 0, .int .i64 0, .int .i64 0, .int .i64 0, .int .i64 0, .int .i64 0, .int .i64 0, .int .i64 0] 25)).alloc (.cells #[.bool false, .int .i64 0, .int .i64 0, .int .i64 0, .bool false] 30) = w1 at *
  clear hw1
  have HL := hide (box_lt b4)
  obtain ⟨X, hX⟩ : ∃ X, X = w.heap.size := ⟨_, rfl⟩
  rw [← hX] at b1 b2 b3 b4 HL ⊢
  generalize hV : X + 1 = V at *
  generalize hR1 : V + 1 = R1 at *
  generalize hR2 : R1 + 1 = R2 at *
  have HO0 : Hid (w.heap.size ≤ X ∧ X < V ∧ V < R1 ∧ R1 < R2 ∧ R2 < w1.heap.size) := hide (by have := HL.out; omega)
  clear hR1 hR2 hV hX HL
  have HX := hide b1
  have HV := hide b2
  have H1 := hide b3
  have H2 := hide b4
  have HG := hide bg
  clear b1 b2 b3 b4 bg
  go_upto_region 2 with (first | ((with_reducible refine list_store 30 (.tmp 12) (.tmp 13) (w1.heap.size) #[.bool false, .int .i64 (-1), .int .i64 (-1), .int .i64 0, .bool false] 30 #[.bool false, .int .i64 0, .int .i64 0, .int .i64 0, .bool false] ?hx ?hy ?hg ?hi ?ho ?h1 ?_); (case hx => rfl); (case hy => rfl); (case hg => exact World.heap_alloc_new _ _); (case hi => exact sizeEf); (case ho => rfl); (case h1 => simp [Value.oneCell']); intro w2 h1 e1 g1; have hgN := grown_spoil (World.grownBy_alloc w1 _ none) (Nat.le_refl _) g1; have HF := hide h1; have HX := hide (box_grown HX.out hgN (by simp)); have HV := hide (box_grown HV.out hgN (by simp)); have H1 := hide (box_grown H1.out hgN (by simp)); have H2 := hide (box_grown H2.out hgN (by simp)); have HG := hide (grownBy_trans HG.out hgN); clear h1 e1 g1 hgN) | fail)
  have HO : Hid (w.heap.size ≤ X ∧ X < V ∧ V < R1 ∧ R1 < R2 ∧ R2 < w1.heap.size) := HO0
  generalize w1.heap.size = F at *
  clear HO0
  have x0 : w2.cell? ⟨X, 0, none⟩ = some (.int .i64 (4 : Int)) := blk_cell HX.out 0
  have x1 : w2.cell? ⟨X, 1, none⟩ = some (.int .i64 (n : Int)) := blk_cell HX.out 1
  have v1 : w2.cell? ⟨V, 1, none⟩ = some (.int .i64 acc) := blk_cell HV.out 1
  have v2 : w2.cell? ⟨V, 2 + n, none⟩ = some (.int .i64 (m n)) := vm_word (v := ⟨pc, acc, m⟩) HV.out n hn
  have b0 : w2.cell? ⟨V, 1, none⟩ = some (.int .i64 acc) := blk_cell HV.out 1
  have b1 := blk_free HV.out (1)
  have HXX : Hid ((w2.setCell ⟨V, 1, none⟩ (.int .i64 ((acc + m n) % 4294967296))).heap[V]? = some (.cells #[.int .i64 pc, .int .i64 ((acc + m n) % 4294967296), .int .i64 (m 0), .int .i64 (m 1), .int .i64 (m 2), .int .i64 (m 3), .int .i64 (m 4), .int .i64 (m 5), .int .i64 (m 6), .int .i64 (m 7), .int .i64 (m 8), .int .i64 (m 9), .int .i64 (m 10), .int .i64 (m 11), .int .i64 (m 12), .int .i64 (m 13), .int .i64 (m 14), .int .i64 (m 15)] 25 (0, 0))) := hide (blk_set HV.out (by rfl))
  have HX := hide ((heap_else w2 (1) (.int .i64 ((acc + m n) % 4294967296)) (show V ≠ X by have := HO.out; omega)).trans HX.out)
  have H1 := hide ((heap_else w2 (1) (.int .i64 ((acc + m n) % 4294967296)) (show V ≠ R1 by have := HO.out; omega)).trans H1.out)
  have H2 := hide ((heap_else w2 (1) (.int .i64 ((acc + m n) % 4294967296)) (show V ≠ R2 by have := HO.out; omega)).trans H2.out)
  have HF := hide ((heap_else w2 (1) (.int .i64 ((acc + m n) % 4294967296)) (show V ≠ F by have := HO.out; omega)).trans HF.out)
  have HG := hide (grown_set_new (R := V) (j := 1) (u := .int .i64 ((acc + m n) % 4294967296)) (by have := HO.out; omega) HG.out)
  go_wp2
  go_region
  have HXX := hide (show ((w2.setCell ⟨V, 1, none⟩ (.int .i64 ((acc + m n) % 4294967296))).drew).heap[V]? = some (.cells #[.int .i64 pc, .int .i64 ((acc + m n) % 4294967296), .int .i64 (m 0), .int .i64 (m 1), .int .i64 (m 2), .int .i64 (m 3), .int .i64 (m 4), .int .i64 (m 5), .int .i64 (m 6), .int .i64 (m 7), .int .i64 (m 8), .int .i64 (m 9), .int .i64 (m 10), .int .i64 (m 11), .int .i64 (m 12), .int .i64 (m 13), .int .i64 (m 14), .int .i64 (m 15)] 25 (0, 0)) from HXX.out)
  have HX := hide (show ((w2.setCell ⟨V, 1, none⟩ (.int .i64 ((acc + m n) % 4294967296))).drew).heap[X]? = some (.cells #[.int .i64 (4 : Int), .int .i64 (n : Int)] 43 (0, 0)) from HX.out)
  have H1 := hide (show ((w2.setCell ⟨V, 1, none⟩ (.int .i64 ((acc + m n) % 4294967296))).drew).heap[R1]? = some (.cells #[.int .i64 0, .int .i64 0, .int .i64 0, .int .i64 0, .int .i64 0, .int .i64 0, .int .i64 0, .int .i64 0, .int .i64 0, .int .i64 0, .int .i64 0, .int .i64 0, .int .i64 0, .int .i64 0, .int .i64 0, .int .i64 0, .int .i64 0, .int .i64 0] 25 (0, 0)) from H1.out)
  have H2 := hide (show ((w2.setCell ⟨V, 1, none⟩ (.int .i64 ((acc + m n) % 4294967296))).drew).heap[R2]? = some (.cells #[.bool false, .int .i64 0, .int .i64 0, .int .i64 0, .bool false] 30 (0, 0)) from H2.out)
  have HF := hide (show ((w2.setCell ⟨V, 1, none⟩ (.int .i64 ((acc + m n) % 4294967296))).drew).heap[F]? = some (.cells #[.bool false, .int .i64 (-1), .int .i64 (-1), .int .i64 0, .bool false] 30 (0, 0)) from HF.out)
  have HG := hide (show w.grownBy ((w2.setCell ⟨V, 1, none⟩ (.int .i64 ((acc + m n) % 4294967296))).drew) none from grownBy_trans HG.out (grownBy_draws _ 1 none))
  generalize hwn : (w2.setCell ⟨V, 1, none⟩ (.int .i64 ((acc + m n) % 4294967296))).drew = w3 at *
  clear hwn b0 b1 HV
  have HV := HXX
  clear HXX
  go_upto_region 33 with (first | fail)
  refine wp_region_held_drew (S := fun W => W.heap[V]? = some (.cells #[.int .i64 pc, .int .i64 ((acc + m n) % 4294967296), .int .i64 (m 0), .int .i64 (m 1), .int .i64 (m 2), .int .i64 (m 3), .int .i64 (m 4), .int .i64 (m 5), .int .i64 (m 6), .int .i64 (m 7), .int .i64 (m 8), .int .i64 (m 9), .int .i64 (m 10), .int .i64 (m 11), .int .i64 (m 12), .int .i64 (m 13), .int .i64 (m 14), .int .i64 (m 15)] 25 (0, 0)) ∧ W.heap[F]? = some (.cells #[.bool false, .int .i64 (-1), .int .i64 (-1), .int .i64 0, .bool false] 30 (0, 0))) (by kernel_rfl) ⟨HV.out, HF.out⟩ (fun hHeld => ?_)
  refine take_put (i := 0) (v := .agg #[.int .i64 pc, .int .i64 ((acc + m n) % 4294967296), .int .i64 (m 0), .int .i64 (m 1), .int .i64 (m 2), .int .i64 (m 3), .int .i64 (m 4), .int .i64 (m 5), .int .i64 (m 6), .int .i64 (m 7), .int .i64 (m 8), .int .i64 (m 9), .int .i64 (m 10), .int .i64 (m 11), .int .i64 (m 12), .int .i64 (m 13), .int .i64 (m 14), .int .i64 (m 15)]) 129 rfl rfl (by kernel_rfl) (by kernel_rfl) (by kernel_rfl) (fun _ _ _ h => h) (yieldsIf_load_mid (by rfl) 25 (.tmp 6) rfl V 0 rfl [.int .i64 pc, .int .i64 ((acc + m n) % 4294967296), .int .i64 (m 0), .int .i64 (m 1), .int .i64 (m 2), .int .i64 (m 3), .int .i64 (m 4), .int .i64 (m 5), .int .i64 (m 6), .int .i64 (m 7), .int .i64 (m 8), .int .i64 (m 9), .int .i64 (m 10), .int .i64 (m 11), .int .i64 (m 12), .int .i64 (m 13), .int .i64 (m 14), .int .i64 (m 15)] _ (fun W h => range_of h.1) Tryd.underlying25 rfl sizeVm) (by assumption) ?_
  simp only [Act.put, List.setIfInBounds_toArray, List.set_cons_zero, List.set_cons_succ]
  refine take_put (i := 1) (v := .agg #[.bool false, .int .i64 (-1), .int .i64 (-1), .int .i64 0, .bool false]) 130 rfl rfl (by kernel_rfl) (by kernel_rfl) (by kernel_rfl) (fun _ _ _ h => h) (yieldsIf_load_mid (by rfl) 30 (.tmp 12) rfl F 0 rfl [.bool false, .int .i64 (-1), .int .i64 (-1), .int .i64 0, .bool false] _ (fun W h => range_of h.2) Tryd.underlying30 rfl sizeEf) (by assumption) ?_
  simp only [Act.put, List.setIfInBounds_toArray, List.set_cons_zero, List.set_cons_succ]
  refine wpAnyH_ready (rs := [2]) (by kernel_rfl) (by simp) ?_
  refine AllReadyH.cons rfl (fun K hK => ?_) AllReadyH.nil
  refine step_store 25 (.tmp 10) (.tmp 129) R1 #[.int .i64 pc, .int .i64 ((acc + m n) % 4294967296), .int .i64 (m 0), .int .i64 (m 1), .int .i64 (m 2), .int .i64 (m 3), .int .i64 (m 4), .int .i64 (m 5), .int .i64 (m 6), .int .i64 (m 7), .int .i64 (m 8), .int .i64 (m 9), .int .i64 (m 10), .int .i64 (m 11), .int .i64 (m 12), .int .i64 (m 13), .int .i64 (m 14), .int .i64 (m 15)] 25 #[.int .i64 0, .int .i64 0, .int .i64 0, .int .i64 0, .int .i64 0, .int .i64 0, .int .i64 0, .int .i64 0, .int .i64 0, .int .i64 0, .int .i64 0, .int .i64 0, .int .i64 0, .int .i64 0, .int .i64 0, .int .i64 0, .int .i64 0, .int .i64 0] rfl rfl H1.out sizeVm rfl (by simp [Value.oneCell']) ?_
  intro w5 h5 e5 g5
  have HF5 := hide ((e5 F (by have := HO.out; omega)).trans HF.out)
  refine hK.out _ _ ⟨(e5 V (by have := HO.out; omega)).trans HV.out, HF5.out⟩ (fun hHeld => ?_)
  simp only [Act.put]
  refine wpAnyH_ready (rs := [3]) (by kernel_rfl) (by simp) ?_
  refine AllReadyH.cons rfl (fun K hK => ?_) AllReadyH.nil
  refine step_store 30 (.tmp 11) (.tmp 130) R2 #[.bool false, .int .i64 (-1), .int .i64 (-1), .int .i64 0, .bool false] 30 #[.bool false, .int .i64 0, .int .i64 0, .int .i64 0, .bool false] rfl rfl ((e5 R2 (by have := HO.out; omega)).trans H2.out) sizeEf rfl (by simp [Value.oneCell']) ?_
  intro w6 h6 e6 g6
  refine hK.out _ _ ⟨(e6 V (by have := HO.out; omega)).trans hHeld.1, (e6 F (by have := HO.out; omega)).trans HF5.out⟩ (fun hHeld2 => ?_)
  simp only [Act.put]
  refine wpAnyH_done (by kernel_rfl) ?_ _
  have H5 := hide ((e6 R1 (by have := HO.out; omega)).trans h5)
  have H6 := hide h6
  have HGF := hide (grown_spoil (grown_spoil (grownBy_trans HG.out (grownBy_draws _ 1 none)) (by have := HO.out; omega) g5) (by have := HO.out; omega) g6)
  clear h5 h6 e5 e6 g5 g6 hHeld hHeld2 hK
  go_wp2
  refine bodyPost_ret (results_rr rfl _ _ R1 R2 25 30 #[.int .i64 pc, .int .i64 ((acc + m n) % 4294967296), .int .i64 (m 0), .int .i64 (m 1), .int .i64 (m 2), .int .i64 (m 3), .int .i64 (m 4), .int .i64 (m 5), .int .i64 (m 6), .int .i64 (m 7), .int .i64 (m 8), .int .i64 (m 9), .int .i64 (m 10), .int .i64 (m 11), .int .i64 (m 12), .int .i64 (m 13), .int .i64 (m 14), .int .i64 (m 15)] #[.bool false, .int .i64 (-1), .int .i64 (-1), .int .i64 0, .bool false] (0, 0) (0, 0) _ _ rfl H5.out Tryd.underlying25 rfl sizeVm rfl H6.out Tryd.underlying30 rfl sizeEf) rfl ?_
  exact ⟨rfl, HGF.out⟩

set_option maxRecDepth 100000 in
set_option maxHeartbeats 8000000 in
theorem does_5 (n : Nat) (pc acc : Int) (m : Nat → Int) (inn outs : Int) (gv : Value) (w : World) (hn : n < 16) (ha : 0 ≤ acc ∧ acc < 4294967296) (hm : 0 ≤ m n ∧ m n < 4294967296) :
    Calls Tryd.prog 25 #[.agg #[.int .i64 5, .int .i64 (n : Int)], .agg #[.int .i64 pc, .int .i64 acc, .int .i64 (m 0), .int .i64 (m 1), .int .i64 (m 2), .int .i64 (m 3), .int .i64 (m 4), .int .i64 (m 5), .int .i64 (m 6), .int .i64 (m 7), .int .i64 (m 8), .int .i64 (m 9), .int .i64 (m 10), .int .i64 (m 11), .int .i64 (m 12), .int .i64 (m 13), .int .i64 (m 14), .int .i64 (m 15)], .int .i64 inn, .int .i64 outs, gv] w fun e w' => e = .returned (.tuple #[.agg #[.int .i64 pc, .int .i64 ((acc + 4294967296 - m n) % 4294967296), .int .i64 (m 0), .int .i64 (m 1), .int .i64 (m 2), .int .i64 (m 3), .int .i64 (m 4), .int .i64 (m 5), .int .i64 (m 6), .int .i64 (m 7), .int .i64 (m 8), .int .i64 (m 9), .int .i64 (m 10), .int .i64 (m 11), .int .i64 (m 12), .int .i64 (m 13), .int .i64 (m 14), .int .i64 (m 15)], .agg #[.bool false, .int .i64 (-1), .int .i64 (-1), .int .i64 0, .bool false]]) ∧ w.grownBy w' none := by
  have HE : ((acc + 4294967296 - m n)).tmod 4294967296 = (acc + 4294967296 - m n) % 4294967296 := Int.tmod_eq_emod_of_nonneg (by omega)
  go_enter Tryd.func25, Tryd.ntmps25
  go_upto_region 1 with fail
  obtain ⟨b1, b2, b3, b4, bg⟩ := four (w := w) (o1 := .cells #[.int .i64 (5 : Int), .int .i64 (n : Int)] 43) (o2 := .cells #[.int .i64 pc, .int .i64 acc, .int .i64 (m 0), .int .i64 (m 1), .int .i64 (m 2), .int .i64 (m 3), .int .i64 (m 4), .int .i64 (m 5), .int .i64 (m 6), .int .i64 (m 7), .int .i64 (m 8), .int .i64 (m 9), .int .i64 (m 10), .int .i64 (m 11), .int .i64 (m 12), .int .i64 (m 13), .int .i64 (m 14), .int .i64 (m 15)] 25) (o3 := .cells #[.int .i64 0, .int .i64 0, .int .i64 0, .int .i64 0, .int .i64 0, .int .i64 0, .int .i64 0, .int .i64 0, .int .i64 0, .int .i64 0, .int .i64 0, .int .i64 0, .int .i64 0, .int .i64 0, .int .i64 0, .int .i64 0, .int .i64 0, .int .i64 0] 25) (o4 := .cells #[.bool false, .int .i64 0, .int .i64 0, .int .i64 0, .bool false] 30)
  generalize hw1 : (((w.alloc (.cells #[.int .i64 (5 : Int), .int .i64 (n : Int)] 43)).alloc (.cells #[.int .i64 pc, .int .i64 acc, .int .i64 (m 0), .int .i64 (m 1), .int .i64 (m 2), .int .i64 (m 3), .int .i64 (m 4), .int .i64 (m 5), .int .i64 (m 6), .int .i64 (m 7), .int .i64 (m 8), .int .i64 (m 9), .int .i64 (m 10), .int .i64 (m 11), .int .i64 (m 12), .int .i64 (m 13), .int .i64 (m 14), .int .i64 (m 15)] 25)).alloc (.cells #[.int .i64 0, .int .i64 0, .int .i64 0, .int .i64 0, .int .i64 0, .int .i64 0, .int .i64 0, .int .i64 0, .int .i64 0, .int .i64 0, .int .i64 0, .int .i64 0, .int .i64 0, .int .i64 0, .int .i64 0, .int .i64 0, .int .i64 0, .int .i64 0] 25)).alloc (.cells #[.bool false, .int .i64 0, .int .i64 0, .int .i64 0, .bool false] 30) = w1 at *
  clear hw1
  have HL := hide (box_lt b4)
  obtain ⟨X, hX⟩ : ∃ X, X = w.heap.size := ⟨_, rfl⟩
  rw [← hX] at b1 b2 b3 b4 HL ⊢
  generalize hV : X + 1 = V at *
  generalize hR1 : V + 1 = R1 at *
  generalize hR2 : R1 + 1 = R2 at *
  have HO0 : Hid (w.heap.size ≤ X ∧ X < V ∧ V < R1 ∧ R1 < R2 ∧ R2 < w1.heap.size) := hide (by have := HL.out; omega)
  clear hR1 hR2 hV hX HL
  have HX := hide b1
  have HV := hide b2
  have H1 := hide b3
  have H2 := hide b4
  have HG := hide bg
  clear b1 b2 b3 b4 bg
  go_upto_region 2 with (first | ((with_reducible refine list_store 30 (.tmp 12) (.tmp 13) (w1.heap.size) #[.bool false, .int .i64 (-1), .int .i64 (-1), .int .i64 0, .bool false] 30 #[.bool false, .int .i64 0, .int .i64 0, .int .i64 0, .bool false] ?hx ?hy ?hg ?hi ?ho ?h1 ?_); (case hx => rfl); (case hy => rfl); (case hg => exact World.heap_alloc_new _ _); (case hi => exact sizeEf); (case ho => rfl); (case h1 => simp [Value.oneCell']); intro w2 h1 e1 g1; have hgN := grown_spoil (World.grownBy_alloc w1 _ none) (Nat.le_refl _) g1; have HF := hide h1; have HX := hide (box_grown HX.out hgN (by simp)); have HV := hide (box_grown HV.out hgN (by simp)); have H1 := hide (box_grown H1.out hgN (by simp)); have H2 := hide (box_grown H2.out hgN (by simp)); have HG := hide (grownBy_trans HG.out hgN); clear h1 e1 g1 hgN) | fail)
  have HO : Hid (w.heap.size ≤ X ∧ X < V ∧ V < R1 ∧ R1 < R2 ∧ R2 < w1.heap.size) := HO0
  generalize w1.heap.size = F at *
  clear HO0
  have x0 : w2.cell? ⟨X, 0, none⟩ = some (.int .i64 (5 : Int)) := blk_cell HX.out 0
  have x1 : w2.cell? ⟨X, 1, none⟩ = some (.int .i64 (n : Int)) := blk_cell HX.out 1
  have v1 : w2.cell? ⟨V, 1, none⟩ = some (.int .i64 acc) := blk_cell HV.out 1
  have v2 : w2.cell? ⟨V, 2 + n, none⟩ = some (.int .i64 (m n)) := vm_word (v := ⟨pc, acc, m⟩) HV.out n hn
  have b0 : w2.cell? ⟨V, 1, none⟩ = some (.int .i64 acc) := blk_cell HV.out 1
  have b1 := blk_free HV.out (1)
  have HXX : Hid ((w2.setCell ⟨V, 1, none⟩ (.int .i64 ((acc + 4294967296 - m n) % 4294967296))).heap[V]? = some (.cells #[.int .i64 pc, .int .i64 ((acc + 4294967296 - m n) % 4294967296), .int .i64 (m 0), .int .i64 (m 1), .int .i64 (m 2), .int .i64 (m 3), .int .i64 (m 4), .int .i64 (m 5), .int .i64 (m 6), .int .i64 (m 7), .int .i64 (m 8), .int .i64 (m 9), .int .i64 (m 10), .int .i64 (m 11), .int .i64 (m 12), .int .i64 (m 13), .int .i64 (m 14), .int .i64 (m 15)] 25 (0, 0))) := hide (blk_set HV.out (by rfl))
  have HX := hide ((heap_else w2 (1) (.int .i64 ((acc + 4294967296 - m n) % 4294967296)) (show V ≠ X by have := HO.out; omega)).trans HX.out)
  have H1 := hide ((heap_else w2 (1) (.int .i64 ((acc + 4294967296 - m n) % 4294967296)) (show V ≠ R1 by have := HO.out; omega)).trans H1.out)
  have H2 := hide ((heap_else w2 (1) (.int .i64 ((acc + 4294967296 - m n) % 4294967296)) (show V ≠ R2 by have := HO.out; omega)).trans H2.out)
  have HF := hide ((heap_else w2 (1) (.int .i64 ((acc + 4294967296 - m n) % 4294967296)) (show V ≠ F by have := HO.out; omega)).trans HF.out)
  have HG := hide (grown_set_new (R := V) (j := 1) (u := .int .i64 ((acc + 4294967296 - m n) % 4294967296)) (by have := HO.out; omega) HG.out)
  go_wp2
  go_region
  have HXX := hide (show ((w2.setCell ⟨V, 1, none⟩ (.int .i64 ((acc + 4294967296 - m n) % 4294967296))).drew).heap[V]? = some (.cells #[.int .i64 pc, .int .i64 ((acc + 4294967296 - m n) % 4294967296), .int .i64 (m 0), .int .i64 (m 1), .int .i64 (m 2), .int .i64 (m 3), .int .i64 (m 4), .int .i64 (m 5), .int .i64 (m 6), .int .i64 (m 7), .int .i64 (m 8), .int .i64 (m 9), .int .i64 (m 10), .int .i64 (m 11), .int .i64 (m 12), .int .i64 (m 13), .int .i64 (m 14), .int .i64 (m 15)] 25 (0, 0)) from HXX.out)
  have HX := hide (show ((w2.setCell ⟨V, 1, none⟩ (.int .i64 ((acc + 4294967296 - m n) % 4294967296))).drew).heap[X]? = some (.cells #[.int .i64 (5 : Int), .int .i64 (n : Int)] 43 (0, 0)) from HX.out)
  have H1 := hide (show ((w2.setCell ⟨V, 1, none⟩ (.int .i64 ((acc + 4294967296 - m n) % 4294967296))).drew).heap[R1]? = some (.cells #[.int .i64 0, .int .i64 0, .int .i64 0, .int .i64 0, .int .i64 0, .int .i64 0, .int .i64 0, .int .i64 0, .int .i64 0, .int .i64 0, .int .i64 0, .int .i64 0, .int .i64 0, .int .i64 0, .int .i64 0, .int .i64 0, .int .i64 0, .int .i64 0] 25 (0, 0)) from H1.out)
  have H2 := hide (show ((w2.setCell ⟨V, 1, none⟩ (.int .i64 ((acc + 4294967296 - m n) % 4294967296))).drew).heap[R2]? = some (.cells #[.bool false, .int .i64 0, .int .i64 0, .int .i64 0, .bool false] 30 (0, 0)) from H2.out)
  have HF := hide (show ((w2.setCell ⟨V, 1, none⟩ (.int .i64 ((acc + 4294967296 - m n) % 4294967296))).drew).heap[F]? = some (.cells #[.bool false, .int .i64 (-1), .int .i64 (-1), .int .i64 0, .bool false] 30 (0, 0)) from HF.out)
  have HG := hide (show w.grownBy ((w2.setCell ⟨V, 1, none⟩ (.int .i64 ((acc + 4294967296 - m n) % 4294967296))).drew) none from grownBy_trans HG.out (grownBy_draws _ 1 none))
  generalize hwn : (w2.setCell ⟨V, 1, none⟩ (.int .i64 ((acc + 4294967296 - m n) % 4294967296))).drew = w3 at *
  clear hwn b0 b1 HV
  have HV := HXX
  clear HXX
  go_upto_region 33 with (first | fail)
  refine wp_region_held_drew (S := fun W => W.heap[V]? = some (.cells #[.int .i64 pc, .int .i64 ((acc + 4294967296 - m n) % 4294967296), .int .i64 (m 0), .int .i64 (m 1), .int .i64 (m 2), .int .i64 (m 3), .int .i64 (m 4), .int .i64 (m 5), .int .i64 (m 6), .int .i64 (m 7), .int .i64 (m 8), .int .i64 (m 9), .int .i64 (m 10), .int .i64 (m 11), .int .i64 (m 12), .int .i64 (m 13), .int .i64 (m 14), .int .i64 (m 15)] 25 (0, 0)) ∧ W.heap[F]? = some (.cells #[.bool false, .int .i64 (-1), .int .i64 (-1), .int .i64 0, .bool false] 30 (0, 0))) (by kernel_rfl) ⟨HV.out, HF.out⟩ (fun hHeld => ?_)
  refine take_put (i := 0) (v := .agg #[.int .i64 pc, .int .i64 ((acc + 4294967296 - m n) % 4294967296), .int .i64 (m 0), .int .i64 (m 1), .int .i64 (m 2), .int .i64 (m 3), .int .i64 (m 4), .int .i64 (m 5), .int .i64 (m 6), .int .i64 (m 7), .int .i64 (m 8), .int .i64 (m 9), .int .i64 (m 10), .int .i64 (m 11), .int .i64 (m 12), .int .i64 (m 13), .int .i64 (m 14), .int .i64 (m 15)]) 129 rfl rfl (by kernel_rfl) (by kernel_rfl) (by kernel_rfl) (fun _ _ _ h => h) (yieldsIf_load_mid (by rfl) 25 (.tmp 6) rfl V 0 rfl [.int .i64 pc, .int .i64 ((acc + 4294967296 - m n) % 4294967296), .int .i64 (m 0), .int .i64 (m 1), .int .i64 (m 2), .int .i64 (m 3), .int .i64 (m 4), .int .i64 (m 5), .int .i64 (m 6), .int .i64 (m 7), .int .i64 (m 8), .int .i64 (m 9), .int .i64 (m 10), .int .i64 (m 11), .int .i64 (m 12), .int .i64 (m 13), .int .i64 (m 14), .int .i64 (m 15)] _ (fun W h => range_of h.1) Tryd.underlying25 rfl sizeVm) (by assumption) ?_
  simp only [Act.put, List.setIfInBounds_toArray, List.set_cons_zero, List.set_cons_succ]
  refine take_put (i := 1) (v := .agg #[.bool false, .int .i64 (-1), .int .i64 (-1), .int .i64 0, .bool false]) 130 rfl rfl (by kernel_rfl) (by kernel_rfl) (by kernel_rfl) (fun _ _ _ h => h) (yieldsIf_load_mid (by rfl) 30 (.tmp 12) rfl F 0 rfl [.bool false, .int .i64 (-1), .int .i64 (-1), .int .i64 0, .bool false] _ (fun W h => range_of h.2) Tryd.underlying30 rfl sizeEf) (by assumption) ?_
  simp only [Act.put, List.setIfInBounds_toArray, List.set_cons_zero, List.set_cons_succ]
  refine wpAnyH_ready (rs := [2]) (by kernel_rfl) (by simp) ?_
  refine AllReadyH.cons rfl (fun K hK => ?_) AllReadyH.nil
  refine step_store 25 (.tmp 10) (.tmp 129) R1 #[.int .i64 pc, .int .i64 ((acc + 4294967296 - m n) % 4294967296), .int .i64 (m 0), .int .i64 (m 1), .int .i64 (m 2), .int .i64 (m 3), .int .i64 (m 4), .int .i64 (m 5), .int .i64 (m 6), .int .i64 (m 7), .int .i64 (m 8), .int .i64 (m 9), .int .i64 (m 10), .int .i64 (m 11), .int .i64 (m 12), .int .i64 (m 13), .int .i64 (m 14), .int .i64 (m 15)] 25 #[.int .i64 0, .int .i64 0, .int .i64 0, .int .i64 0, .int .i64 0, .int .i64 0, .int .i64 0, .int .i64 0, .int .i64 0, .int .i64 0, .int .i64 0, .int .i64 0, .int .i64 0, .int .i64 0, .int .i64 0, .int .i64 0, .int .i64 0, .int .i64 0] rfl rfl H1.out sizeVm rfl (by simp [Value.oneCell']) ?_
  intro w5 h5 e5 g5
  have HF5 := hide ((e5 F (by have := HO.out; omega)).trans HF.out)
  refine hK.out _ _ ⟨(e5 V (by have := HO.out; omega)).trans HV.out, HF5.out⟩ (fun hHeld => ?_)
  simp only [Act.put]
  refine wpAnyH_ready (rs := [3]) (by kernel_rfl) (by simp) ?_
  refine AllReadyH.cons rfl (fun K hK => ?_) AllReadyH.nil
  refine step_store 30 (.tmp 11) (.tmp 130) R2 #[.bool false, .int .i64 (-1), .int .i64 (-1), .int .i64 0, .bool false] 30 #[.bool false, .int .i64 0, .int .i64 0, .int .i64 0, .bool false] rfl rfl ((e5 R2 (by have := HO.out; omega)).trans H2.out) sizeEf rfl (by simp [Value.oneCell']) ?_
  intro w6 h6 e6 g6
  refine hK.out _ _ ⟨(e6 V (by have := HO.out; omega)).trans hHeld.1, (e6 F (by have := HO.out; omega)).trans HF5.out⟩ (fun hHeld2 => ?_)
  simp only [Act.put]
  refine wpAnyH_done (by kernel_rfl) ?_ _
  have H5 := hide ((e6 R1 (by have := HO.out; omega)).trans h5)
  have H6 := hide h6
  have HGF := hide (grown_spoil (grown_spoil (grownBy_trans HG.out (grownBy_draws _ 1 none)) (by have := HO.out; omega) g5) (by have := HO.out; omega) g6)
  clear h5 h6 e5 e6 g5 g6 hHeld hHeld2 hK
  go_wp2
  refine bodyPost_ret (results_rr rfl _ _ R1 R2 25 30 #[.int .i64 pc, .int .i64 ((acc + 4294967296 - m n) % 4294967296), .int .i64 (m 0), .int .i64 (m 1), .int .i64 (m 2), .int .i64 (m 3), .int .i64 (m 4), .int .i64 (m 5), .int .i64 (m 6), .int .i64 (m 7), .int .i64 (m 8), .int .i64 (m 9), .int .i64 (m 10), .int .i64 (m 11), .int .i64 (m 12), .int .i64 (m 13), .int .i64 (m 14), .int .i64 (m 15)] #[.bool false, .int .i64 (-1), .int .i64 (-1), .int .i64 0, .bool false] (0, 0) (0, 0) _ _ rfl H5.out Tryd.underlying25 rfl sizeVm rfl H6.out Tryd.underlying30 rfl sizeEf) rfl ?_
  exact ⟨rfl, HGF.out⟩

set_option maxRecDepth 100000 in
set_option maxHeartbeats 8000000 in
theorem does_6 (n : Nat) (pc acc : Int) (m : Nat → Int) (inn outs : Int) (gv : Value) (w : World) :
    Calls Tryd.prog 25 #[.agg #[.int .i64 6, .int .i64 (n : Int)], .agg #[.int .i64 pc, .int .i64 acc, .int .i64 (m 0), .int .i64 (m 1), .int .i64 (m 2), .int .i64 (m 3), .int .i64 (m 4), .int .i64 (m 5), .int .i64 (m 6), .int .i64 (m 7), .int .i64 (m 8), .int .i64 (m 9), .int .i64 (m 10), .int .i64 (m 11), .int .i64 (m 12), .int .i64 (m 13), .int .i64 (m 14), .int .i64 (m 15)], .int .i64 inn, .int .i64 outs, gv] w fun e w' => e = .returned (.tuple #[.agg #[.int .i64 (n : Int), .int .i64 acc, .int .i64 (m 0), .int .i64 (m 1), .int .i64 (m 2), .int .i64 (m 3), .int .i64 (m 4), .int .i64 (m 5), .int .i64 (m 6), .int .i64 (m 7), .int .i64 (m 8), .int .i64 (m 9), .int .i64 (m 10), .int .i64 (m 11), .int .i64 (m 12), .int .i64 (m 13), .int .i64 (m 14), .int .i64 (m 15)], .agg #[.bool false, .int .i64 (-1), .int .i64 (-1), .int .i64 0, .bool false]]) ∧ w.grownBy w' none := by
  go_enter Tryd.func25, Tryd.ntmps25
  go_upto_region 1 with fail
  obtain ⟨b1, b2, b3, b4, bg⟩ := four (w := w) (o1 := .cells #[.int .i64 (6 : Int), .int .i64 (n : Int)] 43) (o2 := .cells #[.int .i64 pc, .int .i64 acc, .int .i64 (m 0), .int .i64 (m 1), .int .i64 (m 2), .int .i64 (m 3), .int .i64 (m 4), .int .i64 (m 5), .int .i64 (m 6), .int .i64 (m 7), .int .i64 (m 8), .int .i64 (m 9), .int .i64 (m 10), .int .i64 (m 11), .int .i64 (m 12), .int .i64 (m 13), .int .i64 (m 14), .int .i64 (m 15)] 25) (o3 := .cells #[.int .i64 0, .int .i64 0, .int .i64 0, .int .i64 0, .int .i64 0, .int .i64 0, .int .i64 0, .int .i64 0, .int .i64 0, .int .i64 0, .int .i64 0, .int .i64 0, .int .i64 0, .int .i64 0, .int .i64 0, .int .i64 0, .int .i64 0, .int .i64 0] 25) (o4 := .cells #[.bool false, .int .i64 0, .int .i64 0, .int .i64 0, .bool false] 30)
  generalize hw1 : (((w.alloc (.cells #[.int .i64 (6 : Int), .int .i64 (n : Int)] 43)).alloc (.cells #[.int .i64 pc, .int .i64 acc, .int .i64 (m 0), .int .i64 (m 1), .int .i64 (m 2), .int .i64 (m 3), .int .i64 (m 4), .int .i64 (m 5), .int .i64 (m 6), .int .i64 (m 7), .int .i64 (m 8), .int .i64 (m 9), .int .i64 (m 10), .int .i64 (m 11), .int .i64 (m 12), .int .i64 (m 13), .int .i64 (m 14), .int .i64 (m 15)] 25)).alloc (.cells #[.int .i64 0, .int .i64 0, .int .i64 0, .int .i64 0, .int .i64 0, .int .i64 0, .int .i64 0, .int .i64 0, .int .i64 0, .int .i64 0, .int .i64 0, .int .i64 0, .int .i64 0, .int .i64 0, .int .i64 0, .int .i64 0, .int .i64 0, .int .i64 0] 25)).alloc (.cells #[.bool false, .int .i64 0, .int .i64 0, .int .i64 0, .bool false] 30) = w1 at *
  clear hw1
  have HL := hide (box_lt b4)
  obtain ⟨X, hX⟩ : ∃ X, X = w.heap.size := ⟨_, rfl⟩
  rw [← hX] at b1 b2 b3 b4 HL ⊢
  generalize hV : X + 1 = V at *
  generalize hR1 : V + 1 = R1 at *
  generalize hR2 : R1 + 1 = R2 at *
  have HO0 : Hid (w.heap.size ≤ X ∧ X < V ∧ V < R1 ∧ R1 < R2 ∧ R2 < w1.heap.size) := hide (by have := HL.out; omega)
  clear hR1 hR2 hV hX HL
  have HX := hide b1
  have HV := hide b2
  have H1 := hide b3
  have H2 := hide b4
  have HG := hide bg
  clear b1 b2 b3 b4 bg
  go_upto_region 2 with (first | ((with_reducible refine list_store 30 (.tmp 12) (.tmp 13) (w1.heap.size) #[.bool false, .int .i64 (-1), .int .i64 (-1), .int .i64 0, .bool false] 30 #[.bool false, .int .i64 0, .int .i64 0, .int .i64 0, .bool false] ?hx ?hy ?hg ?hi ?ho ?h1 ?_); (case hx => rfl); (case hy => rfl); (case hg => exact World.heap_alloc_new _ _); (case hi => exact sizeEf); (case ho => rfl); (case h1 => simp [Value.oneCell']); intro w2 h1 e1 g1; have hgN := grown_spoil (World.grownBy_alloc w1 _ none) (Nat.le_refl _) g1; have HF := hide h1; have HX := hide (box_grown HX.out hgN (by simp)); have HV := hide (box_grown HV.out hgN (by simp)); have H1 := hide (box_grown H1.out hgN (by simp)); have H2 := hide (box_grown H2.out hgN (by simp)); have HG := hide (grownBy_trans HG.out hgN); clear h1 e1 g1 hgN) | fail)
  have HO : Hid (w.heap.size ≤ X ∧ X < V ∧ V < R1 ∧ R1 < R2 ∧ R2 < w1.heap.size) := HO0
  generalize w1.heap.size = F at *
  clear HO0
  have x0 : w2.cell? ⟨X, 0, none⟩ = some (.int .i64 (6 : Int)) := blk_cell HX.out 0
  have x1 : w2.cell? ⟨X, 1, none⟩ = some (.int .i64 (n : Int)) := blk_cell HX.out 1
  have b0 : w2.cell? ⟨V, 0, none⟩ = some (.int .i64 pc) := blk_cell HV.out 0
  have b1 := blk_free HV.out (0)
  have HXX : Hid ((w2.setCell ⟨V, 0, none⟩ (.int .i64 (n : Int))).heap[V]? = some (.cells #[.int .i64 (n : Int), .int .i64 acc, .int .i64 (m 0), .int .i64 (m 1), .int .i64 (m 2), .int .i64 (m 3), .int .i64 (m 4), .int .i64 (m 5), .int .i64 (m 6), .int .i64 (m 7), .int .i64 (m 8), .int .i64 (m 9), .int .i64 (m 10), .int .i64 (m 11), .int .i64 (m 12), .int .i64 (m 13), .int .i64 (m 14), .int .i64 (m 15)] 25 (0, 0))) := hide (blk_set HV.out (by rfl))
  have HX := hide ((heap_else w2 (0) (.int .i64 (n : Int)) (show V ≠ X by have := HO.out; omega)).trans HX.out)
  have H1 := hide ((heap_else w2 (0) (.int .i64 (n : Int)) (show V ≠ R1 by have := HO.out; omega)).trans H1.out)
  have H2 := hide ((heap_else w2 (0) (.int .i64 (n : Int)) (show V ≠ R2 by have := HO.out; omega)).trans H2.out)
  have HF := hide ((heap_else w2 (0) (.int .i64 (n : Int)) (show V ≠ F by have := HO.out; omega)).trans HF.out)
  have HG := hide (grown_set_new (R := V) (j := 0) (u := .int .i64 (n : Int)) (by have := HO.out; omega) HG.out)
  go_upto_region 33 with (first | fail)
  generalize hwn : w2.setCell ⟨V, 0, none⟩ (.int .i64 (n : Int)) = w3 at *
  clear hwn b0 b1 HV
  have HV := HXX
  clear HXX
  go_upto_region 33 with (first | fail)
  refine wp_region_held_drew (S := fun W => W.heap[V]? = some (.cells #[.int .i64 (n : Int), .int .i64 acc, .int .i64 (m 0), .int .i64 (m 1), .int .i64 (m 2), .int .i64 (m 3), .int .i64 (m 4), .int .i64 (m 5), .int .i64 (m 6), .int .i64 (m 7), .int .i64 (m 8), .int .i64 (m 9), .int .i64 (m 10), .int .i64 (m 11), .int .i64 (m 12), .int .i64 (m 13), .int .i64 (m 14), .int .i64 (m 15)] 25 (0, 0)) ∧ W.heap[F]? = some (.cells #[.bool false, .int .i64 (-1), .int .i64 (-1), .int .i64 0, .bool false] 30 (0, 0))) (by kernel_rfl) ⟨HV.out, HF.out⟩ (fun hHeld => ?_)
  refine take_put (i := 0) (v := .agg #[.int .i64 (n : Int), .int .i64 acc, .int .i64 (m 0), .int .i64 (m 1), .int .i64 (m 2), .int .i64 (m 3), .int .i64 (m 4), .int .i64 (m 5), .int .i64 (m 6), .int .i64 (m 7), .int .i64 (m 8), .int .i64 (m 9), .int .i64 (m 10), .int .i64 (m 11), .int .i64 (m 12), .int .i64 (m 13), .int .i64 (m 14), .int .i64 (m 15)]) 129 rfl rfl (by kernel_rfl) (by kernel_rfl) (by kernel_rfl) (fun _ _ _ h => h) (yieldsIf_load_mid (by rfl) 25 (.tmp 6) rfl V 0 rfl [.int .i64 (n : Int), .int .i64 acc, .int .i64 (m 0), .int .i64 (m 1), .int .i64 (m 2), .int .i64 (m 3), .int .i64 (m 4), .int .i64 (m 5), .int .i64 (m 6), .int .i64 (m 7), .int .i64 (m 8), .int .i64 (m 9), .int .i64 (m 10), .int .i64 (m 11), .int .i64 (m 12), .int .i64 (m 13), .int .i64 (m 14), .int .i64 (m 15)] _ (fun W h => range_of h.1) Tryd.underlying25 rfl sizeVm) (by assumption) ?_
  simp only [Act.put, List.setIfInBounds_toArray, List.set_cons_zero, List.set_cons_succ]
  refine take_put (i := 1) (v := .agg #[.bool false, .int .i64 (-1), .int .i64 (-1), .int .i64 0, .bool false]) 130 rfl rfl (by kernel_rfl) (by kernel_rfl) (by kernel_rfl) (fun _ _ _ h => h) (yieldsIf_load_mid (by rfl) 30 (.tmp 12) rfl F 0 rfl [.bool false, .int .i64 (-1), .int .i64 (-1), .int .i64 0, .bool false] _ (fun W h => range_of h.2) Tryd.underlying30 rfl sizeEf) (by assumption) ?_
  simp only [Act.put, List.setIfInBounds_toArray, List.set_cons_zero, List.set_cons_succ]
  refine wpAnyH_ready (rs := [2]) (by kernel_rfl) (by simp) ?_
  refine AllReadyH.cons rfl (fun K hK => ?_) AllReadyH.nil
  refine step_store 25 (.tmp 10) (.tmp 129) R1 #[.int .i64 (n : Int), .int .i64 acc, .int .i64 (m 0), .int .i64 (m 1), .int .i64 (m 2), .int .i64 (m 3), .int .i64 (m 4), .int .i64 (m 5), .int .i64 (m 6), .int .i64 (m 7), .int .i64 (m 8), .int .i64 (m 9), .int .i64 (m 10), .int .i64 (m 11), .int .i64 (m 12), .int .i64 (m 13), .int .i64 (m 14), .int .i64 (m 15)] 25 #[.int .i64 0, .int .i64 0, .int .i64 0, .int .i64 0, .int .i64 0, .int .i64 0, .int .i64 0, .int .i64 0, .int .i64 0, .int .i64 0, .int .i64 0, .int .i64 0, .int .i64 0, .int .i64 0, .int .i64 0, .int .i64 0, .int .i64 0, .int .i64 0] rfl rfl H1.out sizeVm rfl (by simp [Value.oneCell']) ?_
  intro w5 h5 e5 g5
  have HF5 := hide ((e5 F (by have := HO.out; omega)).trans HF.out)
  refine hK.out _ _ ⟨(e5 V (by have := HO.out; omega)).trans HV.out, HF5.out⟩ (fun hHeld => ?_)
  simp only [Act.put]
  refine wpAnyH_ready (rs := [3]) (by kernel_rfl) (by simp) ?_
  refine AllReadyH.cons rfl (fun K hK => ?_) AllReadyH.nil
  refine step_store 30 (.tmp 11) (.tmp 130) R2 #[.bool false, .int .i64 (-1), .int .i64 (-1), .int .i64 0, .bool false] 30 #[.bool false, .int .i64 0, .int .i64 0, .int .i64 0, .bool false] rfl rfl ((e5 R2 (by have := HO.out; omega)).trans H2.out) sizeEf rfl (by simp [Value.oneCell']) ?_
  intro w6 h6 e6 g6
  refine hK.out _ _ ⟨(e6 V (by have := HO.out; omega)).trans hHeld.1, (e6 F (by have := HO.out; omega)).trans HF5.out⟩ (fun hHeld2 => ?_)
  simp only [Act.put]
  refine wpAnyH_done (by kernel_rfl) ?_ _
  have H5 := hide ((e6 R1 (by have := HO.out; omega)).trans h5)
  have H6 := hide h6
  have HGF := hide (grown_spoil (grown_spoil (grownBy_trans HG.out (grownBy_draws _ 1 none)) (by have := HO.out; omega) g5) (by have := HO.out; omega) g6)
  clear h5 h6 e5 e6 g5 g6 hHeld hHeld2 hK
  go_wp2
  refine bodyPost_ret (results_rr rfl _ _ R1 R2 25 30 #[.int .i64 (n : Int), .int .i64 acc, .int .i64 (m 0), .int .i64 (m 1), .int .i64 (m 2), .int .i64 (m 3), .int .i64 (m 4), .int .i64 (m 5), .int .i64 (m 6), .int .i64 (m 7), .int .i64 (m 8), .int .i64 (m 9), .int .i64 (m 10), .int .i64 (m 11), .int .i64 (m 12), .int .i64 (m 13), .int .i64 (m 14), .int .i64 (m 15)] #[.bool false, .int .i64 (-1), .int .i64 (-1), .int .i64 0, .bool false] (0, 0) (0, 0) _ _ rfl H5.out Tryd.underlying25 rfl sizeVm rfl H6.out Tryd.underlying30 rfl sizeEf) rfl ?_
  exact ⟨rfl, HGF.out⟩

set_option maxRecDepth 100000 in
set_option maxHeartbeats 8000000 in
theorem does_7z (n : Nat) (pc acc : Int) (m : Nat → Int) (inn outs : Int) (gv : Value) (w : World) (h0 : (acc == 0) = true) :
    Calls Tryd.prog 25 #[.agg #[.int .i64 7, .int .i64 (n : Int)], .agg #[.int .i64 pc, .int .i64 acc, .int .i64 (m 0), .int .i64 (m 1), .int .i64 (m 2), .int .i64 (m 3), .int .i64 (m 4), .int .i64 (m 5), .int .i64 (m 6), .int .i64 (m 7), .int .i64 (m 8), .int .i64 (m 9), .int .i64 (m 10), .int .i64 (m 11), .int .i64 (m 12), .int .i64 (m 13), .int .i64 (m 14), .int .i64 (m 15)], .int .i64 inn, .int .i64 outs, gv] w fun e w' => e = .returned (.tuple #[.agg #[.int .i64 (n : Int), .int .i64 acc, .int .i64 (m 0), .int .i64 (m 1), .int .i64 (m 2), .int .i64 (m 3), .int .i64 (m 4), .int .i64 (m 5), .int .i64 (m 6), .int .i64 (m 7), .int .i64 (m 8), .int .i64 (m 9), .int .i64 (m 10), .int .i64 (m 11), .int .i64 (m 12), .int .i64 (m 13), .int .i64 (m 14), .int .i64 (m 15)], .agg #[.bool false, .int .i64 (-1), .int .i64 (-1), .int .i64 0, .bool false]]) ∧ w.grownBy w' none := by
  go_enter Tryd.func25, Tryd.ntmps25
  go_upto_region 1 with fail
  obtain ⟨b1, b2, b3, b4, bg⟩ := four (w := w) (o1 := .cells #[.int .i64 (7 : Int), .int .i64 (n : Int)] 43) (o2 := .cells #[.int .i64 pc, .int .i64 acc, .int .i64 (m 0), .int .i64 (m 1), .int .i64 (m 2), .int .i64 (m 3), .int .i64 (m 4), .int .i64 (m 5), .int .i64 (m 6), .int .i64 (m 7), .int .i64 (m 8), .int .i64 (m 9), .int .i64 (m 10), .int .i64 (m 11), .int .i64 (m 12), .int .i64 (m 13), .int .i64 (m 14), .int .i64 (m 15)] 25) (o3 := .cells #[.int .i64 0, .int .i64 0, .int .i64 0, .int .i64 0, .int .i64 0, .int .i64 0, .int .i64 0, .int .i64 0, .int .i64 0, .int .i64 0, .int .i64 0, .int .i64 0, .int .i64 0, .int .i64 0, .int .i64 0, .int .i64 0, .int .i64 0, .int .i64 0] 25) (o4 := .cells #[.bool false, .int .i64 0, .int .i64 0, .int .i64 0, .bool false] 30)
  generalize hw1 : (((w.alloc (.cells #[.int .i64 (7 : Int), .int .i64 (n : Int)] 43)).alloc (.cells #[.int .i64 pc, .int .i64 acc, .int .i64 (m 0), .int .i64 (m 1), .int .i64 (m 2), .int .i64 (m 3), .int .i64 (m 4), .int .i64 (m 5), .int .i64 (m 6), .int .i64 (m 7), .int .i64 (m 8), .int .i64 (m 9), .int .i64 (m 10), .int .i64 (m 11), .int .i64 (m 12), .int .i64 (m 13), .int .i64 (m 14), .int .i64 (m 15)] 25)).alloc (.cells #[.int .i64 0, .int .i64 0, .int .i64 0, .int .i64 0, .int .i64 0, .int .i64 0, .int .i64 0, .int .i64 0, .int .i64 0, .int .i64 0, .int .i64 0, .int .i64 0, .int .i64 0, .int .i64 0, .int .i64 0, .int .i64 0, .int .i64 0, .int .i64 0] 25)).alloc (.cells #[.bool false, .int .i64 0, .int .i64 0, .int .i64 0, .bool false] 30) = w1 at *
  clear hw1
  have HL := hide (box_lt b4)
  obtain ⟨X, hX⟩ : ∃ X, X = w.heap.size := ⟨_, rfl⟩
  rw [← hX] at b1 b2 b3 b4 HL ⊢
  generalize hV : X + 1 = V at *
  generalize hR1 : V + 1 = R1 at *
  generalize hR2 : R1 + 1 = R2 at *
  have HO0 : Hid (w.heap.size ≤ X ∧ X < V ∧ V < R1 ∧ R1 < R2 ∧ R2 < w1.heap.size) := hide (by have := HL.out; omega)
  clear hR1 hR2 hV hX HL
  have HX := hide b1
  have HV := hide b2
  have H1 := hide b3
  have H2 := hide b4
  have HG := hide bg
  clear b1 b2 b3 b4 bg
  go_upto_region 2 with (first | ((with_reducible refine list_store 30 (.tmp 12) (.tmp 13) (w1.heap.size) #[.bool false, .int .i64 (-1), .int .i64 (-1), .int .i64 0, .bool false] 30 #[.bool false, .int .i64 0, .int .i64 0, .int .i64 0, .bool false] ?hx ?hy ?hg ?hi ?ho ?h1 ?_); (case hx => rfl); (case hy => rfl); (case hg => exact World.heap_alloc_new _ _); (case hi => exact sizeEf); (case ho => rfl); (case h1 => simp [Value.oneCell']); intro w2 h1 e1 g1; have hgN := grown_spoil (World.grownBy_alloc w1 _ none) (Nat.le_refl _) g1; have HF := hide h1; have HX := hide (box_grown HX.out hgN (by simp)); have HV := hide (box_grown HV.out hgN (by simp)); have H1 := hide (box_grown H1.out hgN (by simp)); have H2 := hide (box_grown H2.out hgN (by simp)); have HG := hide (grownBy_trans HG.out hgN); clear h1 e1 g1 hgN) | fail)
  have HO : Hid (w.heap.size ≤ X ∧ X < V ∧ V < R1 ∧ R1 < R2 ∧ R2 < w1.heap.size) := HO0
  generalize w1.heap.size = F at *
  clear HO0
  have x0 : w2.cell? ⟨X, 0, none⟩ = some (.int .i64 (7 : Int)) := blk_cell HX.out 0
  have x1 : w2.cell? ⟨X, 1, none⟩ = some (.int .i64 (n : Int)) := blk_cell HX.out 1
  have v1 : w2.cell? ⟨V, 1, none⟩ = some (.int .i64 acc) := blk_cell HV.out 1
  have b0 : w2.cell? ⟨V, 0, none⟩ = some (.int .i64 pc) := blk_cell HV.out 0
  have b1 := blk_free HV.out (0)
  have HXX : Hid ((w2.setCell ⟨V, 0, none⟩ (.int .i64 (n : Int))).heap[V]? = some (.cells #[.int .i64 (n : Int), .int .i64 acc, .int .i64 (m 0), .int .i64 (m 1), .int .i64 (m 2), .int .i64 (m 3), .int .i64 (m 4), .int .i64 (m 5), .int .i64 (m 6), .int .i64 (m 7), .int .i64 (m 8), .int .i64 (m 9), .int .i64 (m 10), .int .i64 (m 11), .int .i64 (m 12), .int .i64 (m 13), .int .i64 (m 14), .int .i64 (m 15)] 25 (0, 0))) := hide (blk_set HV.out (by rfl))
  have HX := hide ((heap_else w2 (0) (.int .i64 (n : Int)) (show V ≠ X by have := HO.out; omega)).trans HX.out)
  have H1 := hide ((heap_else w2 (0) (.int .i64 (n : Int)) (show V ≠ R1 by have := HO.out; omega)).trans H1.out)
  have H2 := hide ((heap_else w2 (0) (.int .i64 (n : Int)) (show V ≠ R2 by have := HO.out; omega)).trans H2.out)
  have HF := hide ((heap_else w2 (0) (.int .i64 (n : Int)) (show V ≠ F by have := HO.out; omega)).trans HF.out)
  have HG := hide (grown_set_new (R := V) (j := 0) (u := .int .i64 (n : Int)) (by have := HO.out; omega) HG.out)
  go_upto_region 33 with (first | fail)
  generalize hwn : w2.setCell ⟨V, 0, none⟩ (.int .i64 (n : Int)) = w3 at *
  clear hwn b0 b1 HV
  have HV := HXX
  clear HXX
  go_upto_region 33 with (first | fail)
  refine wp_region_held_drew (S := fun W => W.heap[V]? = some (.cells #[.int .i64 (n : Int), .int .i64 acc, .int .i64 (m 0), .int .i64 (m 1), .int .i64 (m 2), .int .i64 (m 3), .int .i64 (m 4), .int .i64 (m 5), .int .i64 (m 6), .int .i64 (m 7), .int .i64 (m 8), .int .i64 (m 9), .int .i64 (m 10), .int .i64 (m 11), .int .i64 (m 12), .int .i64 (m 13), .int .i64 (m 14), .int .i64 (m 15)] 25 (0, 0)) ∧ W.heap[F]? = some (.cells #[.bool false, .int .i64 (-1), .int .i64 (-1), .int .i64 0, .bool false] 30 (0, 0))) (by kernel_rfl) ⟨HV.out, HF.out⟩ (fun hHeld => ?_)
  refine take_put (i := 0) (v := .agg #[.int .i64 (n : Int), .int .i64 acc, .int .i64 (m 0), .int .i64 (m 1), .int .i64 (m 2), .int .i64 (m 3), .int .i64 (m 4), .int .i64 (m 5), .int .i64 (m 6), .int .i64 (m 7), .int .i64 (m 8), .int .i64 (m 9), .int .i64 (m 10), .int .i64 (m 11), .int .i64 (m 12), .int .i64 (m 13), .int .i64 (m 14), .int .i64 (m 15)]) 129 rfl rfl (by kernel_rfl) (by kernel_rfl) (by kernel_rfl) (fun _ _ _ h => h) (yieldsIf_load_mid (by rfl) 25 (.tmp 6) rfl V 0 rfl [.int .i64 (n : Int), .int .i64 acc, .int .i64 (m 0), .int .i64 (m 1), .int .i64 (m 2), .int .i64 (m 3), .int .i64 (m 4), .int .i64 (m 5), .int .i64 (m 6), .int .i64 (m 7), .int .i64 (m 8), .int .i64 (m 9), .int .i64 (m 10), .int .i64 (m 11), .int .i64 (m 12), .int .i64 (m 13), .int .i64 (m 14), .int .i64 (m 15)] _ (fun W h => range_of h.1) Tryd.underlying25 rfl sizeVm) (by assumption) ?_
  simp only [Act.put, List.setIfInBounds_toArray, List.set_cons_zero, List.set_cons_succ]
  refine take_put (i := 1) (v := .agg #[.bool false, .int .i64 (-1), .int .i64 (-1), .int .i64 0, .bool false]) 130 rfl rfl (by kernel_rfl) (by kernel_rfl) (by kernel_rfl) (fun _ _ _ h => h) (yieldsIf_load_mid (by rfl) 30 (.tmp 12) rfl F 0 rfl [.bool false, .int .i64 (-1), .int .i64 (-1), .int .i64 0, .bool false] _ (fun W h => range_of h.2) Tryd.underlying30 rfl sizeEf) (by assumption) ?_
  simp only [Act.put, List.setIfInBounds_toArray, List.set_cons_zero, List.set_cons_succ]
  refine wpAnyH_ready (rs := [2]) (by kernel_rfl) (by simp) ?_
  refine AllReadyH.cons rfl (fun K hK => ?_) AllReadyH.nil
  refine step_store 25 (.tmp 10) (.tmp 129) R1 #[.int .i64 (n : Int), .int .i64 acc, .int .i64 (m 0), .int .i64 (m 1), .int .i64 (m 2), .int .i64 (m 3), .int .i64 (m 4), .int .i64 (m 5), .int .i64 (m 6), .int .i64 (m 7), .int .i64 (m 8), .int .i64 (m 9), .int .i64 (m 10), .int .i64 (m 11), .int .i64 (m 12), .int .i64 (m 13), .int .i64 (m 14), .int .i64 (m 15)] 25 #[.int .i64 0, .int .i64 0, .int .i64 0, .int .i64 0, .int .i64 0, .int .i64 0, .int .i64 0, .int .i64 0, .int .i64 0, .int .i64 0, .int .i64 0, .int .i64 0, .int .i64 0, .int .i64 0, .int .i64 0, .int .i64 0, .int .i64 0, .int .i64 0] rfl rfl H1.out sizeVm rfl (by simp [Value.oneCell']) ?_
  intro w5 h5 e5 g5
  have HF5 := hide ((e5 F (by have := HO.out; omega)).trans HF.out)
  refine hK.out _ _ ⟨(e5 V (by have := HO.out; omega)).trans HV.out, HF5.out⟩ (fun hHeld => ?_)
  simp only [Act.put]
  refine wpAnyH_ready (rs := [3]) (by kernel_rfl) (by simp) ?_
  refine AllReadyH.cons rfl (fun K hK => ?_) AllReadyH.nil
  refine step_store 30 (.tmp 11) (.tmp 130) R2 #[.bool false, .int .i64 (-1), .int .i64 (-1), .int .i64 0, .bool false] 30 #[.bool false, .int .i64 0, .int .i64 0, .int .i64 0, .bool false] rfl rfl ((e5 R2 (by have := HO.out; omega)).trans H2.out) sizeEf rfl (by simp [Value.oneCell']) ?_
  intro w6 h6 e6 g6
  refine hK.out _ _ ⟨(e6 V (by have := HO.out; omega)).trans hHeld.1, (e6 F (by have := HO.out; omega)).trans HF5.out⟩ (fun hHeld2 => ?_)
  simp only [Act.put]
  refine wpAnyH_done (by kernel_rfl) ?_ _
  have H5 := hide ((e6 R1 (by have := HO.out; omega)).trans h5)
  have H6 := hide h6
  have HGF := hide (grown_spoil (grown_spoil (grownBy_trans HG.out (grownBy_draws _ 1 none)) (by have := HO.out; omega) g5) (by have := HO.out; omega) g6)
  clear h5 h6 e5 e6 g5 g6 hHeld hHeld2 hK
  go_wp2
  refine bodyPost_ret (results_rr rfl _ _ R1 R2 25 30 #[.int .i64 (n : Int), .int .i64 acc, .int .i64 (m 0), .int .i64 (m 1), .int .i64 (m 2), .int .i64 (m 3), .int .i64 (m 4), .int .i64 (m 5), .int .i64 (m 6), .int .i64 (m 7), .int .i64 (m 8), .int .i64 (m 9), .int .i64 (m 10), .int .i64 (m 11), .int .i64 (m 12), .int .i64 (m 13), .int .i64 (m 14), .int .i64 (m 15)] #[.bool false, .int .i64 (-1), .int .i64 (-1), .int .i64 0, .bool false] (0, 0) (0, 0) _ _ rfl H5.out Tryd.underlying25 rfl sizeVm rfl H6.out Tryd.underlying30 rfl sizeEf) rfl ?_
  exact ⟨rfl, HGF.out⟩

set_option maxRecDepth 100000 in
set_option maxHeartbeats 8000000 in
theorem does_7n (n : Nat) (pc acc : Int) (m : Nat → Int) (inn outs : Int) (gv : Value) (w : World) (h0 : (acc == 0) = false) :
    Calls Tryd.prog 25 #[.agg #[.int .i64 7, .int .i64 (n : Int)], .agg #[.int .i64 pc, .int .i64 acc, .int .i64 (m 0), .int .i64 (m 1), .int .i64 (m 2), .int .i64 (m 3), .int .i64 (m 4), .int .i64 (m 5), .int .i64 (m 6), .int .i64 (m 7), .int .i64 (m 8), .int .i64 (m 9), .int .i64 (m 10), .int .i64 (m 11), .int .i64 (m 12), .int .i64 (m 13), .int .i64 (m 14), .int .i64 (m 15)], .int .i64 inn, .int .i64 outs, gv] w fun e w' => e = .returned (.tuple #[.agg #[.int .i64 pc, .int .i64 acc, .int .i64 (m 0), .int .i64 (m 1), .int .i64 (m 2), .int .i64 (m 3), .int .i64 (m 4), .int .i64 (m 5), .int .i64 (m 6), .int .i64 (m 7), .int .i64 (m 8), .int .i64 (m 9), .int .i64 (m 10), .int .i64 (m 11), .int .i64 (m 12), .int .i64 (m 13), .int .i64 (m 14), .int .i64 (m 15)], .agg #[.bool false, .int .i64 (-1), .int .i64 (-1), .int .i64 0, .bool false]]) ∧ w.grownBy w' none := by
  go_enter Tryd.func25, Tryd.ntmps25
  go_upto_region 1 with fail
  obtain ⟨b1, b2, b3, b4, bg⟩ := four (w := w) (o1 := .cells #[.int .i64 (7 : Int), .int .i64 (n : Int)] 43) (o2 := .cells #[.int .i64 pc, .int .i64 acc, .int .i64 (m 0), .int .i64 (m 1), .int .i64 (m 2), .int .i64 (m 3), .int .i64 (m 4), .int .i64 (m 5), .int .i64 (m 6), .int .i64 (m 7), .int .i64 (m 8), .int .i64 (m 9), .int .i64 (m 10), .int .i64 (m 11), .int .i64 (m 12), .int .i64 (m 13), .int .i64 (m 14), .int .i64 (m 15)] 25) (o3 := .cells #[.int .i64 0, .int .i64 0, .int .i64 0, .int .i64 0, .int .i64 0, .int .i64 0, .int .i64 0, .int .i64 0, .int .i64 0, .int .i64 0, .int .i64 0, .int .i64 0, .int .i64 0, .int .i64 0, .int .i64 0, .int .i64 0, .int .i64 0, .int .i64 0] 25) (o4 := .cells #[.bool false, .int .i64 0, .int .i64 0, .int .i64 0, .bool false] 30)
  generalize hw1 : (((w.alloc (.cells #[.int .i64 (7 : Int), .int .i64 (n : Int)] 43)).alloc (.cells #[.int .i64 pc, .int .i64 acc, .int .i64 (m 0), .int .i64 (m 1), .int .i64 (m 2), .int .i64 (m 3), .int .i64 (m 4), .int .i64 (m 5), .int .i64 (m 6), .int .i64 (m 7), .int .i64 (m 8), .int .i64 (m 9), .int .i64 (m 10), .int .i64 (m 11), .int .i64 (m 12), .int .i64 (m 13), .int .i64 (m 14), .int .i64 (m 15)] 25)).alloc (.cells #[.int .i64 0, .int .i64 0, .int .i64 0, .int .i64 0, .int .i64 0, .int .i64 0, .int .i64 0, .int .i64 0, .int .i64 0, .int .i64 0, .int .i64 0, .int .i64 0, .int .i64 0, .int .i64 0, .int .i64 0, .int .i64 0, .int .i64 0, .int .i64 0] 25)).alloc (.cells #[.bool false, .int .i64 0, .int .i64 0, .int .i64 0, .bool false] 30) = w1 at *
  clear hw1
  have HL := hide (box_lt b4)
  obtain ⟨X, hX⟩ : ∃ X, X = w.heap.size := ⟨_, rfl⟩
  rw [← hX] at b1 b2 b3 b4 HL ⊢
  generalize hV : X + 1 = V at *
  generalize hR1 : V + 1 = R1 at *
  generalize hR2 : R1 + 1 = R2 at *
  have HO0 : Hid (w.heap.size ≤ X ∧ X < V ∧ V < R1 ∧ R1 < R2 ∧ R2 < w1.heap.size) := hide (by have := HL.out; omega)
  clear hR1 hR2 hV hX HL
  have HX := hide b1
  have HV := hide b2
  have H1 := hide b3
  have H2 := hide b4
  have HG := hide bg
  clear b1 b2 b3 b4 bg
  go_upto_region 2 with (first | ((with_reducible refine list_store 30 (.tmp 12) (.tmp 13) (w1.heap.size) #[.bool false, .int .i64 (-1), .int .i64 (-1), .int .i64 0, .bool false] 30 #[.bool false, .int .i64 0, .int .i64 0, .int .i64 0, .bool false] ?hx ?hy ?hg ?hi ?ho ?h1 ?_); (case hx => rfl); (case hy => rfl); (case hg => exact World.heap_alloc_new _ _); (case hi => exact sizeEf); (case ho => rfl); (case h1 => simp [Value.oneCell']); intro w2 h1 e1 g1; have hgN := grown_spoil (World.grownBy_alloc w1 _ none) (Nat.le_refl _) g1; have HF := hide h1; have HX := hide (box_grown HX.out hgN (by simp)); have HV := hide (box_grown HV.out hgN (by simp)); have H1 := hide (box_grown H1.out hgN (by simp)); have H2 := hide (box_grown H2.out hgN (by simp)); have HG := hide (grownBy_trans HG.out hgN); clear h1 e1 g1 hgN) | fail)
  have HO : Hid (w.heap.size ≤ X ∧ X < V ∧ V < R1 ∧ R1 < R2 ∧ R2 < w1.heap.size) := HO0
  generalize w1.heap.size = F at *
  clear HO0
  have x0 : w2.cell? ⟨X, 0, none⟩ = some (.int .i64 (7 : Int)) := blk_cell HX.out 0
  have v1 : w2.cell? ⟨V, 1, none⟩ = some (.int .i64 acc) := blk_cell HV.out 1
  go_upto_region 33 with (first | fail)
  refine wp_region_held_drew (S := fun W => W.heap[V]? = some (.cells #[.int .i64 pc, .int .i64 acc, .int .i64 (m 0), .int .i64 (m 1), .int .i64 (m 2), .int .i64 (m 3), .int .i64 (m 4), .int .i64 (m 5), .int .i64 (m 6), .int .i64 (m 7), .int .i64 (m 8), .int .i64 (m 9), .int .i64 (m 10), .int .i64 (m 11), .int .i64 (m 12), .int .i64 (m 13), .int .i64 (m 14), .int .i64 (m 15)] 25 (0, 0)) ∧ W.heap[F]? = some (.cells #[.bool false, .int .i64 (-1), .int .i64 (-1), .int .i64 0, .bool false] 30 (0, 0))) (by kernel_rfl) ⟨HV.out, HF.out⟩ (fun hHeld => ?_)
  refine take_put (i := 0) (v := .agg #[.int .i64 pc, .int .i64 acc, .int .i64 (m 0), .int .i64 (m 1), .int .i64 (m 2), .int .i64 (m 3), .int .i64 (m 4), .int .i64 (m 5), .int .i64 (m 6), .int .i64 (m 7), .int .i64 (m 8), .int .i64 (m 9), .int .i64 (m 10), .int .i64 (m 11), .int .i64 (m 12), .int .i64 (m 13), .int .i64 (m 14), .int .i64 (m 15)]) 129 rfl rfl (by kernel_rfl) (by kernel_rfl) (by kernel_rfl) (fun _ _ _ h => h) (yieldsIf_load_mid (by rfl) 25 (.tmp 6) rfl V 0 rfl [.int .i64 pc, .int .i64 acc, .int .i64 (m 0), .int .i64 (m 1), .int .i64 (m 2), .int .i64 (m 3), .int .i64 (m 4), .int .i64 (m 5), .int .i64 (m 6), .int .i64 (m 7), .int .i64 (m 8), .int .i64 (m 9), .int .i64 (m 10), .int .i64 (m 11), .int .i64 (m 12), .int .i64 (m 13), .int .i64 (m 14), .int .i64 (m 15)] _ (fun W h => range_of h.1) Tryd.underlying25 rfl sizeVm) (by assumption) ?_
  simp only [Act.put, List.setIfInBounds_toArray, List.set_cons_zero, List.set_cons_succ]
  refine take_put (i := 1) (v := .agg #[.bool false, .int .i64 (-1), .int .i64 (-1), .int .i64 0, .bool false]) 130 rfl rfl (by kernel_rfl) (by kernel_rfl) (by kernel_rfl) (fun _ _ _ h => h) (yieldsIf_load_mid (by rfl) 30 (.tmp 12) rfl F 0 rfl [.bool false, .int .i64 (-1), .int .i64 (-1), .int .i64 0, .bool false] _ (fun W h => range_of h.2) Tryd.underlying30 rfl sizeEf) (by assumption) ?_
  simp only [Act.put, List.setIfInBounds_toArray, List.set_cons_zero, List.set_cons_succ]
  refine wpAnyH_ready (rs := [2]) (by kernel_rfl) (by simp) ?_
  refine AllReadyH.cons rfl (fun K hK => ?_) AllReadyH.nil
  refine step_store 25 (.tmp 10) (.tmp 129) R1 #[.int .i64 pc, .int .i64 acc, .int .i64 (m 0), .int .i64 (m 1), .int .i64 (m 2), .int .i64 (m 3), .int .i64 (m 4), .int .i64 (m 5), .int .i64 (m 6), .int .i64 (m 7), .int .i64 (m 8), .int .i64 (m 9), .int .i64 (m 10), .int .i64 (m 11), .int .i64 (m 12), .int .i64 (m 13), .int .i64 (m 14), .int .i64 (m 15)] 25 #[.int .i64 0, .int .i64 0, .int .i64 0, .int .i64 0, .int .i64 0, .int .i64 0, .int .i64 0, .int .i64 0, .int .i64 0, .int .i64 0, .int .i64 0, .int .i64 0, .int .i64 0, .int .i64 0, .int .i64 0, .int .i64 0, .int .i64 0, .int .i64 0] rfl rfl H1.out sizeVm rfl (by simp [Value.oneCell']) ?_
  intro w5 h5 e5 g5
  have HF5 := hide ((e5 F (by have := HO.out; omega)).trans HF.out)
  refine hK.out _ _ ⟨(e5 V (by have := HO.out; omega)).trans HV.out, HF5.out⟩ (fun hHeld => ?_)
  simp only [Act.put]
  refine wpAnyH_ready (rs := [3]) (by kernel_rfl) (by simp) ?_
  refine AllReadyH.cons rfl (fun K hK => ?_) AllReadyH.nil
  refine step_store 30 (.tmp 11) (.tmp 130) R2 #[.bool false, .int .i64 (-1), .int .i64 (-1), .int .i64 0, .bool false] 30 #[.bool false, .int .i64 0, .int .i64 0, .int .i64 0, .bool false] rfl rfl ((e5 R2 (by have := HO.out; omega)).trans H2.out) sizeEf rfl (by simp [Value.oneCell']) ?_
  intro w6 h6 e6 g6
  refine hK.out _ _ ⟨(e6 V (by have := HO.out; omega)).trans hHeld.1, (e6 F (by have := HO.out; omega)).trans HF5.out⟩ (fun hHeld2 => ?_)
  simp only [Act.put]
  refine wpAnyH_done (by kernel_rfl) ?_ _
  have H5 := hide ((e6 R1 (by have := HO.out; omega)).trans h5)
  have H6 := hide h6
  have HGF := hide (grown_spoil (grown_spoil (grownBy_trans HG.out (grownBy_draws _ 1 none)) (by have := HO.out; omega) g5) (by have := HO.out; omega) g6)
  clear h5 h6 e5 e6 g5 g6 hHeld hHeld2 hK
  go_wp2
  refine bodyPost_ret (results_rr rfl _ _ R1 R2 25 30 #[.int .i64 pc, .int .i64 acc, .int .i64 (m 0), .int .i64 (m 1), .int .i64 (m 2), .int .i64 (m 3), .int .i64 (m 4), .int .i64 (m 5), .int .i64 (m 6), .int .i64 (m 7), .int .i64 (m 8), .int .i64 (m 9), .int .i64 (m 10), .int .i64 (m 11), .int .i64 (m 12), .int .i64 (m 13), .int .i64 (m 14), .int .i64 (m 15)] #[.bool false, .int .i64 (-1), .int .i64 (-1), .int .i64 0, .bool false] (0, 0) (0, 0) _ _ rfl H5.out Tryd.underlying25 rfl sizeVm rfl H6.out Tryd.underlying30 rfl sizeEf) rfl ?_
  exact ⟨rfl, HGF.out⟩

set_option maxRecDepth 100000 in
set_option maxHeartbeats 8000000 in
theorem does_8 (n : Nat) (pc acc : Int) (m : Nat → Int) (inn outs : Int) (gv : Value) (w : World) :
    Calls Tryd.prog 25 #[.agg #[.int .i64 8, .int .i64 (n : Int)], .agg #[.int .i64 pc, .int .i64 acc, .int .i64 (m 0), .int .i64 (m 1), .int .i64 (m 2), .int .i64 (m 3), .int .i64 (m 4), .int .i64 (m 5), .int .i64 (m 6), .int .i64 (m 7), .int .i64 (m 8), .int .i64 (m 9), .int .i64 (m 10), .int .i64 (m 11), .int .i64 (m 12), .int .i64 (m 13), .int .i64 (m 14), .int .i64 (m 15)], .int .i64 inn, .int .i64 outs, gv] w fun e w' => e = .returned (.tuple #[.agg #[.int .i64 pc, .int .i64 inn, .int .i64 (m 0), .int .i64 (m 1), .int .i64 (m 2), .int .i64 (m 3), .int .i64 (m 4), .int .i64 (m 5), .int .i64 (m 6), .int .i64 (m 7), .int .i64 (m 8), .int .i64 (m 9), .int .i64 (m 10), .int .i64 (m 11), .int .i64 (m 12), .int .i64 (m 13), .int .i64 (m 14), .int .i64 (m 15)], .agg #[.bool true, .int .i64 (-1), .int .i64 (-1), .int .i64 0, .bool false]]) ∧ w.grownBy w' none := by
  go_enter Tryd.func25, Tryd.ntmps25
  go_upto_region 1 with fail
  obtain ⟨b1, b2, b3, b4, bg⟩ := four (w := w) (o1 := .cells #[.int .i64 (8 : Int), .int .i64 (n : Int)] 43) (o2 := .cells #[.int .i64 pc, .int .i64 acc, .int .i64 (m 0), .int .i64 (m 1), .int .i64 (m 2), .int .i64 (m 3), .int .i64 (m 4), .int .i64 (m 5), .int .i64 (m 6), .int .i64 (m 7), .int .i64 (m 8), .int .i64 (m 9), .int .i64 (m 10), .int .i64 (m 11), .int .i64 (m 12), .int .i64 (m 13), .int .i64 (m 14), .int .i64 (m 15)] 25) (o3 := .cells #[.int .i64 0, .int .i64 0, .int .i64 0, .int .i64 0, .int .i64 0, .int .i64 0, .int .i64 0, .int .i64 0, .int .i64 0, .int .i64 0, .int .i64 0, .int .i64 0, .int .i64 0, .int .i64 0, .int .i64 0, .int .i64 0, .int .i64 0, .int .i64 0] 25) (o4 := .cells #[.bool false, .int .i64 0, .int .i64 0, .int .i64 0, .bool false] 30)
  generalize hw1 : (((w.alloc (.cells #[.int .i64 (8 : Int), .int .i64 (n : Int)] 43)).alloc (.cells #[.int .i64 pc, .int .i64 acc, .int .i64 (m 0), .int .i64 (m 1), .int .i64 (m 2), .int .i64 (m 3), .int .i64 (m 4), .int .i64 (m 5), .int .i64 (m 6), .int .i64 (m 7), .int .i64 (m 8), .int .i64 (m 9), .int .i64 (m 10), .int .i64 (m 11), .int .i64 (m 12), .int .i64 (m 13), .int .i64 (m 14), .int .i64 (m 15)] 25)).alloc (.cells #[.int .i64 0, .int .i64 0, .int .i64 0, .int .i64 0, .int .i64 0, .int .i64 0, .int .i64 0, .int .i64 0, .int .i64 0, .int .i64 0, .int .i64 0, .int .i64 0, .int .i64 0, .int .i64 0, .int .i64 0, .int .i64 0, .int .i64 0, .int .i64 0] 25)).alloc (.cells #[.bool false, .int .i64 0, .int .i64 0, .int .i64 0, .bool false] 30) = w1 at *
  clear hw1
  have HL := hide (box_lt b4)
  obtain ⟨X, hX⟩ : ∃ X, X = w.heap.size := ⟨_, rfl⟩
  rw [← hX] at b1 b2 b3 b4 HL ⊢
  generalize hV : X + 1 = V at *
  generalize hR1 : V + 1 = R1 at *
  generalize hR2 : R1 + 1 = R2 at *
  have HO0 : Hid (w.heap.size ≤ X ∧ X < V ∧ V < R1 ∧ R1 < R2 ∧ R2 < w1.heap.size) := hide (by have := HL.out; omega)
  clear hR1 hR2 hV hX HL
  have HX := hide b1
  have HV := hide b2
  have H1 := hide b3
  have H2 := hide b4
  have HG := hide bg
  clear b1 b2 b3 b4 bg
  go_upto_region 2 with (first | ((with_reducible refine list_store 30 (.tmp 12) (.tmp 13) (w1.heap.size) #[.bool false, .int .i64 (-1), .int .i64 (-1), .int .i64 0, .bool false] 30 #[.bool false, .int .i64 0, .int .i64 0, .int .i64 0, .bool false] ?hx ?hy ?hg ?hi ?ho ?h1 ?_); (case hx => rfl); (case hy => rfl); (case hg => exact World.heap_alloc_new _ _); (case hi => exact sizeEf); (case ho => rfl); (case h1 => simp [Value.oneCell']); intro w2 h1 e1 g1; have hgN := grown_spoil (World.grownBy_alloc w1 _ none) (Nat.le_refl _) g1; have HF := hide h1; have HX := hide (box_grown HX.out hgN (by simp)); have HV := hide (box_grown HV.out hgN (by simp)); have H1 := hide (box_grown H1.out hgN (by simp)); have H2 := hide (box_grown H2.out hgN (by simp)); have HG := hide (grownBy_trans HG.out hgN); clear h1 e1 g1 hgN) | fail)
  have HO : Hid (w.heap.size ≤ X ∧ X < V ∧ V < R1 ∧ R1 < R2 ∧ R2 < w1.heap.size) := HO0
  generalize w1.heap.size = F at *
  clear HO0
  have x0 : w2.cell? ⟨X, 0, none⟩ = some (.int .i64 (8 : Int)) := blk_cell HX.out 0
  have b0 : w2.cell? ⟨V, 1, none⟩ = some (.int .i64 acc) := blk_cell HV.out 1
  have b1 := blk_free HV.out (1)
  have HXX : Hid ((w2.setCell ⟨V, 1, none⟩ (.int .i64 inn)).heap[V]? = some (.cells #[.int .i64 pc, .int .i64 inn, .int .i64 (m 0), .int .i64 (m 1), .int .i64 (m 2), .int .i64 (m 3), .int .i64 (m 4), .int .i64 (m 5), .int .i64 (m 6), .int .i64 (m 7), .int .i64 (m 8), .int .i64 (m 9), .int .i64 (m 10), .int .i64 (m 11), .int .i64 (m 12), .int .i64 (m 13), .int .i64 (m 14), .int .i64 (m 15)] 25 (0, 0))) := hide (blk_set HV.out (by rfl))
  have HX := hide ((heap_else w2 (1) (.int .i64 inn) (show V ≠ X by have := HO.out; omega)).trans HX.out)
  have H1 := hide ((heap_else w2 (1) (.int .i64 inn) (show V ≠ R1 by have := HO.out; omega)).trans H1.out)
  have H2 := hide ((heap_else w2 (1) (.int .i64 inn) (show V ≠ R2 by have := HO.out; omega)).trans H2.out)
  have HF := hide ((heap_else w2 (1) (.int .i64 inn) (show V ≠ F by have := HO.out; omega)).trans HF.out)
  have HG := hide (grown_set_new (R := V) (j := 1) (u := .int .i64 inn) (by have := HO.out; omega) HG.out)
  go_upto_region 20 with (first | fail)
  generalize hwn : w2.setCell ⟨V, 1, none⟩ (.int .i64 inn) = w3 at *
  clear hwn b0 b1 HV
  have HV := HXX
  clear HXX
  have b0 : w3.cell? ⟨F, 0, none⟩ = some (.bool false) := blk_cell HF.out 0
  have b1 := blk_free HF.out (0)
  have HXX : Hid ((w3.setCell ⟨F, 0, none⟩ (.bool true)).heap[F]? = some (.cells #[.bool true, .int .i64 (-1), .int .i64 (-1), .int .i64 0, .bool false] 30 (0, 0))) := hide (blk_set HF.out (by rfl))
  have HX := hide ((heap_else w3 (0) (.bool true) (show F ≠ X by have := HO.out; omega)).trans HX.out)
  have HV := hide ((heap_else w3 (0) (.bool true) (show F ≠ V by have := HO.out; omega)).trans HV.out)
  have H1 := hide ((heap_else w3 (0) (.bool true) (show F ≠ R1 by have := HO.out; omega)).trans H1.out)
  have H2 := hide ((heap_else w3 (0) (.bool true) (show F ≠ R2 by have := HO.out; omega)).trans H2.out)
  have HG := hide (grown_set_new (R := F) (j := 0) (u := .bool true) (by have := HO.out; omega) HG.out)
  go_upto_region 33 with (first | fail)
  generalize hwn : w3.setCell ⟨F, 0, none⟩ (.bool true) = w4 at *
  clear hwn b0 b1 HF
  have HF := HXX
  clear HXX
  go_upto_region 33 with (first | fail)
  refine wp_region_held_drew (S := fun W => W.heap[V]? = some (.cells #[.int .i64 pc, .int .i64 inn, .int .i64 (m 0), .int .i64 (m 1), .int .i64 (m 2), .int .i64 (m 3), .int .i64 (m 4), .int .i64 (m 5), .int .i64 (m 6), .int .i64 (m 7), .int .i64 (m 8), .int .i64 (m 9), .int .i64 (m 10), .int .i64 (m 11), .int .i64 (m 12), .int .i64 (m 13), .int .i64 (m 14), .int .i64 (m 15)] 25 (0, 0)) ∧ W.heap[F]? = some (.cells #[.bool true, .int .i64 (-1), .int .i64 (-1), .int .i64 0, .bool false] 30 (0, 0))) (by kernel_rfl) ⟨HV.out, HF.out⟩ (fun hHeld => ?_)
  refine take_put (i := 0) (v := .agg #[.int .i64 pc, .int .i64 inn, .int .i64 (m 0), .int .i64 (m 1), .int .i64 (m 2), .int .i64 (m 3), .int .i64 (m 4), .int .i64 (m 5), .int .i64 (m 6), .int .i64 (m 7), .int .i64 (m 8), .int .i64 (m 9), .int .i64 (m 10), .int .i64 (m 11), .int .i64 (m 12), .int .i64 (m 13), .int .i64 (m 14), .int .i64 (m 15)]) 129 rfl rfl (by kernel_rfl) (by kernel_rfl) (by kernel_rfl) (fun _ _ _ h => h) (yieldsIf_load_mid (by rfl) 25 (.tmp 6) rfl V 0 rfl [.int .i64 pc, .int .i64 inn, .int .i64 (m 0), .int .i64 (m 1), .int .i64 (m 2), .int .i64 (m 3), .int .i64 (m 4), .int .i64 (m 5), .int .i64 (m 6), .int .i64 (m 7), .int .i64 (m 8), .int .i64 (m 9), .int .i64 (m 10), .int .i64 (m 11), .int .i64 (m 12), .int .i64 (m 13), .int .i64 (m 14), .int .i64 (m 15)] _ (fun W h => range_of h.1) Tryd.underlying25 rfl sizeVm) (by assumption) ?_
  simp only [Act.put, List.setIfInBounds_toArray, List.set_cons_zero, List.set_cons_succ]
  refine take_put (i := 1) (v := .agg #[.bool true, .int .i64 (-1), .int .i64 (-1), .int .i64 0, .bool false]) 130 rfl rfl (by kernel_rfl) (by kernel_rfl) (by kernel_rfl) (fun _ _ _ h => h) (yieldsIf_load_mid (by rfl) 30 (.tmp 12) rfl F 0 rfl [.bool true, .int .i64 (-1), .int .i64 (-1), .int .i64 0, .bool false] _ (fun W h => range_of h.2) Tryd.underlying30 rfl sizeEf) (by assumption) ?_
  simp only [Act.put, List.setIfInBounds_toArray, List.set_cons_zero, List.set_cons_succ]
  refine wpAnyH_ready (rs := [2]) (by kernel_rfl) (by simp) ?_
  refine AllReadyH.cons rfl (fun K hK => ?_) AllReadyH.nil
  refine step_store 25 (.tmp 10) (.tmp 129) R1 #[.int .i64 pc, .int .i64 inn, .int .i64 (m 0), .int .i64 (m 1), .int .i64 (m 2), .int .i64 (m 3), .int .i64 (m 4), .int .i64 (m 5), .int .i64 (m 6), .int .i64 (m 7), .int .i64 (m 8), .int .i64 (m 9), .int .i64 (m 10), .int .i64 (m 11), .int .i64 (m 12), .int .i64 (m 13), .int .i64 (m 14), .int .i64 (m 15)] 25 #[.int .i64 0, .int .i64 0, .int .i64 0, .int .i64 0, .int .i64 0, .int .i64 0, .int .i64 0, .int .i64 0, .int .i64 0, .int .i64 0, .int .i64 0, .int .i64 0, .int .i64 0, .int .i64 0, .int .i64 0, .int .i64 0, .int .i64 0, .int .i64 0] rfl rfl H1.out sizeVm rfl (by simp [Value.oneCell']) ?_
  intro w5 h5 e5 g5
  have HF5 := hide ((e5 F (by have := HO.out; omega)).trans HF.out)
  refine hK.out _ _ ⟨(e5 V (by have := HO.out; omega)).trans HV.out, HF5.out⟩ (fun hHeld => ?_)
  simp only [Act.put]
  refine wpAnyH_ready (rs := [3]) (by kernel_rfl) (by simp) ?_
  refine AllReadyH.cons rfl (fun K hK => ?_) AllReadyH.nil
  refine step_store 30 (.tmp 11) (.tmp 130) R2 #[.bool true, .int .i64 (-1), .int .i64 (-1), .int .i64 0, .bool false] 30 #[.bool false, .int .i64 0, .int .i64 0, .int .i64 0, .bool false] rfl rfl ((e5 R2 (by have := HO.out; omega)).trans H2.out) sizeEf rfl (by simp [Value.oneCell']) ?_
  intro w6 h6 e6 g6
  refine hK.out _ _ ⟨(e6 V (by have := HO.out; omega)).trans hHeld.1, (e6 F (by have := HO.out; omega)).trans HF5.out⟩ (fun hHeld2 => ?_)
  simp only [Act.put]
  refine wpAnyH_done (by kernel_rfl) ?_ _
  have H5 := hide ((e6 R1 (by have := HO.out; omega)).trans h5)
  have H6 := hide h6
  have HGF := hide (grown_spoil (grown_spoil (grownBy_trans HG.out (grownBy_draws _ 1 none)) (by have := HO.out; omega) g5) (by have := HO.out; omega) g6)
  clear h5 h6 e5 e6 g5 g6 hHeld hHeld2 hK
  go_wp2
  refine bodyPost_ret (results_rr rfl _ _ R1 R2 25 30 #[.int .i64 pc, .int .i64 inn, .int .i64 (m 0), .int .i64 (m 1), .int .i64 (m 2), .int .i64 (m 3), .int .i64 (m 4), .int .i64 (m 5), .int .i64 (m 6), .int .i64 (m 7), .int .i64 (m 8), .int .i64 (m 9), .int .i64 (m 10), .int .i64 (m 11), .int .i64 (m 12), .int .i64 (m 13), .int .i64 (m 14), .int .i64 (m 15)] #[.bool true, .int .i64 (-1), .int .i64 (-1), .int .i64 0, .bool false] (0, 0) (0, 0) _ _ rfl H5.out Tryd.underlying25 rfl sizeVm rfl H6.out Tryd.underlying30 rfl sizeEf) rfl ?_
  exact ⟨rfl, HGF.out⟩

set_option maxRecDepth 100000 in
set_option maxHeartbeats 8000000 in
theorem does_9y (n : Nat) (pc acc : Int) (m : Nat → Int) (inn outs : Int) (gv : Value) (w : World) (hn : n < 8) (h1 : outs / 2 ^ n % 2 = 1) :
    Calls Tryd.prog 25 #[.agg #[.int .i64 9, .int .i64 (n : Int)], .agg #[.int .i64 pc, .int .i64 acc, .int .i64 (m 0), .int .i64 (m 1), .int .i64 (m 2), .int .i64 (m 3), .int .i64 (m 4), .int .i64 (m 5), .int .i64 (m 6), .int .i64 (m 7), .int .i64 (m 8), .int .i64 (m 9), .int .i64 (m 10), .int .i64 (m 11), .int .i64 (m 12), .int .i64 (m 13), .int .i64 (m 14), .int .i64 (m 15)], .int .i64 inn, .int .i64 outs, gv] w fun e w' => e = .returned (.tuple #[.agg #[.int .i64 pc, .int .i64 acc, .int .i64 (m 0), .int .i64 (m 1), .int .i64 (m 2), .int .i64 (m 3), .int .i64 (m 4), .int .i64 (m 5), .int .i64 (m 6), .int .i64 (m 7), .int .i64 (m 8), .int .i64 (m 9), .int .i64 (m 10), .int .i64 (m 11), .int .i64 (m 12), .int .i64 (m 13), .int .i64 (m 14), .int .i64 (m 15)], .agg #[.bool false, .int .i64 (n : Int), .int .i64 (-1), .int .i64 acc, .bool false]]) ∧ w.grownBy w' none := by
  have hmin : min n 64 = n := by omega
  have hb := bit_low (outs / 2 ^ n)
  rw [h1] at hb
  clear h1
  generalize hq : outs / 2 ^ n = q at *
  go_enter Tryd.func25, Tryd.ntmps25
  go_upto_region 1 with fail
  obtain ⟨b1, b2, b3, b4, bg⟩ := four (w := w) (o1 := .cells #[.int .i64 (9 : Int), .int .i64 (n : Int)] 43) (o2 := .cells #[.int .i64 pc, .int .i64 acc, .int .i64 (m 0), .int .i64 (m 1), .int .i64 (m 2), .int .i64 (m 3), .int .i64 (m 4), .int .i64 (m 5), .int .i64 (m 6), .int .i64 (m 7), .int .i64 (m 8), .int .i64 (m 9), .int .i64 (m 10), .int .i64 (m 11), .int .i64 (m 12), .int .i64 (m 13), .int .i64 (m 14), .int .i64 (m 15)] 25) (o3 := .cells #[.int .i64 0, .int .i64 0, .int .i64 0, .int .i64 0, .int .i64 0, .int .i64 0, .int .i64 0, .int .i64 0, .int .i64 0, .int .i64 0, .int .i64 0, .int .i64 0, .int .i64 0, .int .i64 0, .int .i64 0, .int .i64 0, .int .i64 0, .int .i64 0] 25) (o4 := .cells #[.bool false, .int .i64 0, .int .i64 0, .int .i64 0, .bool false] 30)
  generalize hw1 : (((w.alloc (.cells #[.int .i64 (9 : Int), .int .i64 (n : Int)] 43)).alloc (.cells #[.int .i64 pc, .int .i64 acc, .int .i64 (m 0), .int .i64 (m 1), .int .i64 (m 2), .int .i64 (m 3), .int .i64 (m 4), .int .i64 (m 5), .int .i64 (m 6), .int .i64 (m 7), .int .i64 (m 8), .int .i64 (m 9), .int .i64 (m 10), .int .i64 (m 11), .int .i64 (m 12), .int .i64 (m 13), .int .i64 (m 14), .int .i64 (m 15)] 25)).alloc (.cells #[.int .i64 0, .int .i64 0, .int .i64 0, .int .i64 0, .int .i64 0, .int .i64 0, .int .i64 0, .int .i64 0, .int .i64 0, .int .i64 0, .int .i64 0, .int .i64 0, .int .i64 0, .int .i64 0, .int .i64 0, .int .i64 0, .int .i64 0, .int .i64 0] 25)).alloc (.cells #[.bool false, .int .i64 0, .int .i64 0, .int .i64 0, .bool false] 30) = w1 at *
  clear hw1
  have HL := hide (box_lt b4)
  obtain ⟨X, hX⟩ : ∃ X, X = w.heap.size := ⟨_, rfl⟩
  rw [← hX] at b1 b2 b3 b4 HL ⊢
  generalize hV : X + 1 = V at *
  generalize hR1 : V + 1 = R1 at *
  generalize hR2 : R1 + 1 = R2 at *
  have HO0 : Hid (w.heap.size ≤ X ∧ X < V ∧ V < R1 ∧ R1 < R2 ∧ R2 < w1.heap.size) := hide (by have := HL.out; omega)
  clear hR1 hR2 hV hX HL
  have HX := hide b1
  have HV := hide b2
  have H1 := hide b3
  have H2 := hide b4
  have HG := hide bg
  clear b1 b2 b3 b4 bg
  go_upto_region 2 with (first | ((with_reducible refine list_store 30 (.tmp 12) (.tmp 13) (w1.heap.size) #[.bool false, .int .i64 (-1), .int .i64 (-1), .int .i64 0, .bool false] 30 #[.bool false, .int .i64 0, .int .i64 0, .int .i64 0, .bool false] ?hx ?hy ?hg ?hi ?ho ?h1 ?_); (case hx => rfl); (case hy => rfl); (case hg => exact World.heap_alloc_new _ _); (case hi => exact sizeEf); (case ho => rfl); (case h1 => simp [Value.oneCell']); intro w2 h1 e1 g1; have hgN := grown_spoil (World.grownBy_alloc w1 _ none) (Nat.le_refl _) g1; have HF := hide h1; have HX := hide (box_grown HX.out hgN (by simp)); have HV := hide (box_grown HV.out hgN (by simp)); have H1 := hide (box_grown H1.out hgN (by simp)); have H2 := hide (box_grown H2.out hgN (by simp)); have HG := hide (grownBy_trans HG.out hgN); clear h1 e1 g1 hgN) | fail)
  have HO : Hid (w.heap.size ≤ X ∧ X < V ∧ V < R1 ∧ R1 < R2 ∧ R2 < w1.heap.size) := HO0
  generalize w1.heap.size = F at *
  clear HO0
  have x0 : w2.cell? ⟨X, 0, none⟩ = some (.int .i64 (9 : Int)) := blk_cell HX.out 0
  have x1 : w2.cell? ⟨X, 1, none⟩ = some (.int .i64 (n : Int)) := blk_cell HX.out 1
  go_upto_region 24 with (first | fail)
  have b0 : w2.cell? ⟨F, 1, none⟩ = some (.int .i64 (-1)) := blk_cell HF.out 1
  have b1 := blk_free HF.out (1)
  have HXX : Hid ((w2.setCell ⟨F, 1, none⟩ (.int .i64 (n : Int))).heap[F]? = some (.cells #[.bool false, .int .i64 (n : Int), .int .i64 (-1), .int .i64 0, .bool false] 30 (0, 0))) := hide (blk_set HF.out (by rfl))
  have HX := hide ((heap_else w2 (1) (.int .i64 (n : Int)) (show F ≠ X by have := HO.out; omega)).trans HX.out)
  have HV := hide ((heap_else w2 (1) (.int .i64 (n : Int)) (show F ≠ V by have := HO.out; omega)).trans HV.out)
  have H1 := hide ((heap_else w2 (1) (.int .i64 (n : Int)) (show F ≠ R1 by have := HO.out; omega)).trans H1.out)
  have H2 := hide ((heap_else w2 (1) (.int .i64 (n : Int)) (show F ≠ R2 by have := HO.out; omega)).trans H2.out)
  have HG := hide (grown_set_new (R := F) (j := 1) (u := .int .i64 (n : Int)) (by have := HO.out; omega) HG.out)
  go_upto_region 25 with (first | fail)
  generalize hwn : w2.setCell ⟨F, 1, none⟩ (.int .i64 (n : Int)) = w3 at *
  clear hwn b0 b1 HF
  have HF := HXX
  clear HXX
  have v1 : w3.cell? ⟨V, 1, none⟩ = some (.int .i64 acc) := blk_cell HV.out 1
  have b0 : w3.cell? ⟨F, 3, none⟩ = some (.int .i64 0) := blk_cell HF.out 3
  have b1 := blk_free HF.out (3)
  have HXX : Hid ((w3.setCell ⟨F, 3, none⟩ (.int .i64 acc)).heap[F]? = some (.cells #[.bool false, .int .i64 (n : Int), .int .i64 (-1), .int .i64 acc, .bool false] 30 (0, 0))) := hide (blk_set HF.out (by rfl))
  have HX := hide ((heap_else w3 (3) (.int .i64 acc) (show F ≠ X by have := HO.out; omega)).trans HX.out)
  have HV := hide ((heap_else w3 (3) (.int .i64 acc) (show F ≠ V by have := HO.out; omega)).trans HV.out)
  have H1 := hide ((heap_else w3 (3) (.int .i64 acc) (show F ≠ R1 by have := HO.out; omega)).trans H1.out)
  have H2 := hide ((heap_else w3 (3) (.int .i64 acc) (show F ≠ R2 by have := HO.out; omega)).trans H2.out)
  have HG := hide (grown_set_new (R := F) (j := 3) (u := .int .i64 acc) (by have := HO.out; omega) HG.out)
  go_upto_region 33 with (first | fail)
  generalize hwn : w3.setCell ⟨F, 3, none⟩ (.int .i64 acc) = w4 at *
  clear hwn b0 b1 HF
  have HF := HXX
  clear HXX
  go_upto_region 33 with (first | fail)
  refine wp_region_held_drew (S := fun W => W.heap[V]? = some (.cells #[.int .i64 pc, .int .i64 acc, .int .i64 (m 0), .int .i64 (m 1), .int .i64 (m 2), .int .i64 (m 3), .int .i64 (m 4), .int .i64 (m 5), .int .i64 (m 6), .int .i64 (m 7), .int .i64 (m 8), .int .i64 (m 9), .int .i64 (m 10), .int .i64 (m 11), .int .i64 (m 12), .int .i64 (m 13), .int .i64 (m 14), .int .i64 (m 15)] 25 (0, 0)) ∧ W.heap[F]? = some (.cells #[.bool false, .int .i64 (n : Int), .int .i64 (-1), .int .i64 acc, .bool false] 30 (0, 0))) (by kernel_rfl) ⟨HV.out, HF.out⟩ (fun hHeld => ?_)
  refine take_put (i := 0) (v := .agg #[.int .i64 pc, .int .i64 acc, .int .i64 (m 0), .int .i64 (m 1), .int .i64 (m 2), .int .i64 (m 3), .int .i64 (m 4), .int .i64 (m 5), .int .i64 (m 6), .int .i64 (m 7), .int .i64 (m 8), .int .i64 (m 9), .int .i64 (m 10), .int .i64 (m 11), .int .i64 (m 12), .int .i64 (m 13), .int .i64 (m 14), .int .i64 (m 15)]) 129 rfl rfl (by kernel_rfl) (by kernel_rfl) (by kernel_rfl) (fun _ _ _ h => h) (yieldsIf_load_mid (by rfl) 25 (.tmp 6) rfl V 0 rfl [.int .i64 pc, .int .i64 acc, .int .i64 (m 0), .int .i64 (m 1), .int .i64 (m 2), .int .i64 (m 3), .int .i64 (m 4), .int .i64 (m 5), .int .i64 (m 6), .int .i64 (m 7), .int .i64 (m 8), .int .i64 (m 9), .int .i64 (m 10), .int .i64 (m 11), .int .i64 (m 12), .int .i64 (m 13), .int .i64 (m 14), .int .i64 (m 15)] _ (fun W h => range_of h.1) Tryd.underlying25 rfl sizeVm) (by assumption) ?_
  simp only [Act.put, List.setIfInBounds_toArray, List.set_cons_zero, List.set_cons_succ]
  refine take_put (i := 1) (v := .agg #[.bool false, .int .i64 (n : Int), .int .i64 (-1), .int .i64 acc, .bool false]) 130 rfl rfl (by kernel_rfl) (by kernel_rfl) (by kernel_rfl) (fun _ _ _ h => h) (yieldsIf_load_mid (by rfl) 30 (.tmp 12) rfl F 0 rfl [.bool false, .int .i64 (n : Int), .int .i64 (-1), .int .i64 acc, .bool false] _ (fun W h => range_of h.2) Tryd.underlying30 rfl sizeEf) (by assumption) ?_
  simp only [Act.put, List.setIfInBounds_toArray, List.set_cons_zero, List.set_cons_succ]
  refine wpAnyH_ready (rs := [2]) (by kernel_rfl) (by simp) ?_
  refine AllReadyH.cons rfl (fun K hK => ?_) AllReadyH.nil
  refine step_store 25 (.tmp 10) (.tmp 129) R1 #[.int .i64 pc, .int .i64 acc, .int .i64 (m 0), .int .i64 (m 1), .int .i64 (m 2), .int .i64 (m 3), .int .i64 (m 4), .int .i64 (m 5), .int .i64 (m 6), .int .i64 (m 7), .int .i64 (m 8), .int .i64 (m 9), .int .i64 (m 10), .int .i64 (m 11), .int .i64 (m 12), .int .i64 (m 13), .int .i64 (m 14), .int .i64 (m 15)] 25 #[.int .i64 0, .int .i64 0, .int .i64 0, .int .i64 0, .int .i64 0, .int .i64 0, .int .i64 0, .int .i64 0, .int .i64 0, .int .i64 0, .int .i64 0, .int .i64 0, .int .i64 0, .int .i64 0, .int .i64 0, .int .i64 0, .int .i64 0, .int .i64 0] rfl rfl H1.out sizeVm rfl (by simp [Value.oneCell']) ?_
  intro w5 h5 e5 g5
  have HF5 := hide ((e5 F (by have := HO.out; omega)).trans HF.out)
  refine hK.out _ _ ⟨(e5 V (by have := HO.out; omega)).trans HV.out, HF5.out⟩ (fun hHeld => ?_)
  simp only [Act.put]
  refine wpAnyH_ready (rs := [3]) (by kernel_rfl) (by simp) ?_
  refine AllReadyH.cons rfl (fun K hK => ?_) AllReadyH.nil
  refine step_store 30 (.tmp 11) (.tmp 130) R2 #[.bool false, .int .i64 (n : Int), .int .i64 (-1), .int .i64 acc, .bool false] 30 #[.bool false, .int .i64 0, .int .i64 0, .int .i64 0, .bool false] rfl rfl ((e5 R2 (by have := HO.out; omega)).trans H2.out) sizeEf rfl (by simp [Value.oneCell']) ?_
  intro w6 h6 e6 g6
  refine hK.out _ _ ⟨(e6 V (by have := HO.out; omega)).trans hHeld.1, (e6 F (by have := HO.out; omega)).trans HF5.out⟩ (fun hHeld2 => ?_)
  simp only [Act.put]
  refine wpAnyH_done (by kernel_rfl) ?_ _
  have H5 := hide ((e6 R1 (by have := HO.out; omega)).trans h5)
  have H6 := hide h6
  have HGF := hide (grown_spoil (grown_spoil (grownBy_trans HG.out (grownBy_draws _ 1 none)) (by have := HO.out; omega) g5) (by have := HO.out; omega) g6)
  clear h5 h6 e5 e6 g5 g6 hHeld hHeld2 hK
  go_wp2
  refine bodyPost_ret (results_rr rfl _ _ R1 R2 25 30 #[.int .i64 pc, .int .i64 acc, .int .i64 (m 0), .int .i64 (m 1), .int .i64 (m 2), .int .i64 (m 3), .int .i64 (m 4), .int .i64 (m 5), .int .i64 (m 6), .int .i64 (m 7), .int .i64 (m 8), .int .i64 (m 9), .int .i64 (m 10), .int .i64 (m 11), .int .i64 (m 12), .int .i64 (m 13), .int .i64 (m 14), .int .i64 (m 15)] #[.bool false, .int .i64 (n : Int), .int .i64 (-1), .int .i64 acc, .bool false] (0, 0) (0, 0) _ _ rfl H5.out Tryd.underlying25 rfl sizeVm rfl H6.out Tryd.underlying30 rfl sizeEf) rfl ?_
  exact ⟨rfl, HGF.out⟩

set_option maxRecDepth 100000 in
set_option maxHeartbeats 8000000 in
theorem does_9n (n : Nat) (pc acc : Int) (m : Nat → Int) (inn outs : Int) (gv : Value) (w : World) (hn : n < 8) (h1 : outs / 2 ^ n % 2 = 0) :
    Calls Tryd.prog 25 #[.agg #[.int .i64 9, .int .i64 (n : Int)], .agg #[.int .i64 pc, .int .i64 acc, .int .i64 (m 0), .int .i64 (m 1), .int .i64 (m 2), .int .i64 (m 3), .int .i64 (m 4), .int .i64 (m 5), .int .i64 (m 6), .int .i64 (m 7), .int .i64 (m 8), .int .i64 (m 9), .int .i64 (m 10), .int .i64 (m 11), .int .i64 (m 12), .int .i64 (m 13), .int .i64 (m 14), .int .i64 (m 15)], .int .i64 inn, .int .i64 outs, gv] w fun e w' => e = .returned (.tuple #[.agg #[.int .i64 0, .int .i64 0, .int .i64 (m 0), .int .i64 (m 1), .int .i64 (m 2), .int .i64 (m 3), .int .i64 (m 4), .int .i64 (m 5), .int .i64 (m 6), .int .i64 (m 7), .int .i64 (m 8), .int .i64 (m 9), .int .i64 (m 10), .int .i64 (m 11), .int .i64 (m 12), .int .i64 (m 13), .int .i64 (m 14), .int .i64 (m 15)], .agg #[.bool false, .int .i64 (-1), .int .i64 (-1), .int .i64 0, .bool true]]) ∧ w.grownBy w' none := by
  have hmin : min n 64 = n := by omega
  have hb := bit_low (outs / 2 ^ n)
  rw [h1] at hb
  clear h1
  generalize hq : outs / 2 ^ n = q at *
  have CFA := hide (fun W => fault_any ⟨pc, acc, m⟩ W)
  dsimp only [vmV, efV, failS, faultE] at CFA
  go_enter Tryd.func25, Tryd.ntmps25
  go_upto_region 1 with fail
  obtain ⟨b1, b2, b3, b4, bg⟩ := four (w := w) (o1 := .cells #[.int .i64 (9 : Int), .int .i64 (n : Int)] 43) (o2 := .cells #[.int .i64 pc, .int .i64 acc, .int .i64 (m 0), .int .i64 (m 1), .int .i64 (m 2), .int .i64 (m 3), .int .i64 (m 4), .int .i64 (m 5), .int .i64 (m 6), .int .i64 (m 7), .int .i64 (m 8), .int .i64 (m 9), .int .i64 (m 10), .int .i64 (m 11), .int .i64 (m 12), .int .i64 (m 13), .int .i64 (m 14), .int .i64 (m 15)] 25) (o3 := .cells #[.int .i64 0, .int .i64 0, .int .i64 0, .int .i64 0, .int .i64 0, .int .i64 0, .int .i64 0, .int .i64 0, .int .i64 0, .int .i64 0, .int .i64 0, .int .i64 0, .int .i64 0, .int .i64 0, .int .i64 0, .int .i64 0, .int .i64 0, .int .i64 0] 25) (o4 := .cells #[.bool false, .int .i64 0, .int .i64 0, .int .i64 0, .bool false] 30)
  generalize hw1 : (((w.alloc (.cells #[.int .i64 (9 : Int), .int .i64 (n : Int)] 43)).alloc (.cells #[.int .i64 pc, .int .i64 acc, .int .i64 (m 0), .int .i64 (m 1), .int .i64 (m 2), .int .i64 (m 3), .int .i64 (m 4), .int .i64 (m 5), .int .i64 (m 6), .int .i64 (m 7), .int .i64 (m 8), .int .i64 (m 9), .int .i64 (m 10), .int .i64 (m 11), .int .i64 (m 12), .int .i64 (m 13), .int .i64 (m 14), .int .i64 (m 15)] 25)).alloc (.cells #[.int .i64 0, .int .i64 0, .int .i64 0, .int .i64 0, .int .i64 0, .int .i64 0, .int .i64 0, .int .i64 0, .int .i64 0, .int .i64 0, .int .i64 0, .int .i64 0, .int .i64 0, .int .i64 0, .int .i64 0, .int .i64 0, .int .i64 0, .int .i64 0] 25)).alloc (.cells #[.bool false, .int .i64 0, .int .i64 0, .int .i64 0, .bool false] 30) = w1 at *
  clear hw1
  have HL := hide (box_lt b4)
  obtain ⟨X, hX⟩ : ∃ X, X = w.heap.size := ⟨_, rfl⟩
  rw [← hX] at b1 b2 b3 b4 HL ⊢
  generalize hV : X + 1 = V at *
  generalize hR1 : V + 1 = R1 at *
  generalize hR2 : R1 + 1 = R2 at *
  have HO0 : Hid (w.heap.size ≤ X ∧ X < V ∧ V < R1 ∧ R1 < R2 ∧ R2 < w1.heap.size) := hide (by have := HL.out; omega)
  clear hR1 hR2 hV hX HL
  have HX := hide b1
  have HV := hide b2
  have H1 := hide b3
  have H2 := hide b4
  have HG := hide bg
  clear b1 b2 b3 b4 bg
  go_upto_region 2 with (first | ((with_reducible refine list_store 30 (.tmp 12) (.tmp 13) (w1.heap.size) #[.bool false, .int .i64 (-1), .int .i64 (-1), .int .i64 0, .bool false] 30 #[.bool false, .int .i64 0, .int .i64 0, .int .i64 0, .bool false] ?hx ?hy ?hg ?hi ?ho ?h1 ?_); (case hx => rfl); (case hy => rfl); (case hg => exact World.heap_alloc_new _ _); (case hi => exact sizeEf); (case ho => rfl); (case h1 => simp [Value.oneCell']); intro w2 h1 e1 g1; have hgN := grown_spoil (World.grownBy_alloc w1 _ none) (Nat.le_refl _) g1; have HF := hide h1; have HX := hide (box_grown HX.out hgN (by simp)); have HV := hide (box_grown HV.out hgN (by simp)); have H1 := hide (box_grown H1.out hgN (by simp)); have H2 := hide (box_grown H2.out hgN (by simp)); have HG := hide (grownBy_trans HG.out hgN); clear h1 e1 g1 hgN) | fail)
  have HO : Hid (w.heap.size ≤ X ∧ X < V ∧ V < R1 ∧ R1 < R2 ∧ R2 < w1.heap.size) := HO0
  generalize w1.heap.size = F at *
  clear HO0
  have x0 : w2.cell? ⟨X, 0, none⟩ = some (.int .i64 (9 : Int)) := blk_cell HX.out 0
  have x1 : w2.cell? ⟨X, 1, none⟩ = some (.int .i64 (n : Int)) := blk_cell HX.out 1
  go_upto_region 23 with (first | fail)
  go_wp2_with (first | ((with_reducible refine list_load 25 (.tmp 6) (V) 25 #[.int .i64 pc, .int .i64 acc, .int .i64 (m 0), .int .i64 (m 1), .int .i64 (m 2), .int .i64 (m 3), .int .i64 (m 4), .int .i64 (m 5), .int .i64 (m 6), .int .i64 (m 7), .int .i64 (m 8), .int .i64 (m 9), .int .i64 (m 10), .int .i64 (m 11), .int .i64 (m 12), .int .i64 (m 13), .int .i64 (m 14), .int .i64 (m 15)] (0, 0) _ ?hw ?hx ?hg Tryd.underlying25 ?hd ?hi ?_); (case hw => kernel_rfl); (case hx => rfl); (case hg => exact HV.out); (case hd => rfl); (case hi => exact sizeVm)) | fail)
  refine (CFA.out _).mono ?_; rintro e wf ⟨rfl, hg⟩
  have H1 := hide (box_grown H1.out hg (by simp))
  have H2 := hide (box_grown H2.out hg (by simp))
  have HG := hide (grownBy_trans HG.out hg)
  clear hg CFA
  go_wp2_with (first | ((with_reducible refine list_store 25 (.tmp 10) (.tmp 90) (R1) #[.int .i64 0, .int .i64 0, .int .i64 (m 0), .int .i64 (m 1), .int .i64 (m 2), .int .i64 (m 3), .int .i64 (m 4), .int .i64 (m 5), .int .i64 (m 6), .int .i64 (m 7), .int .i64 (m 8), .int .i64 (m 9), .int .i64 (m 10), .int .i64 (m 11), .int .i64 (m 12), .int .i64 (m 13), .int .i64 (m 14), .int .i64 (m 15)] 25 #[.int .i64 0, .int .i64 0, .int .i64 0, .int .i64 0, .int .i64 0, .int .i64 0, .int .i64 0, .int .i64 0, .int .i64 0, .int .i64 0, .int .i64 0, .int .i64 0, .int .i64 0, .int .i64 0, .int .i64 0, .int .i64 0, .int .i64 0, .int .i64 0] ?hx ?hy ?hg ?hi ?ho ?h1 ?_); (case hx => rfl); (case hy => rfl); (case hg => exact H1.out); (case hi => exact sizeVm); (case ho => rfl); (case h1 => simp [Value.oneCell']); intro w7 h1 e1 g1; have H1 := hide h1; have H2 := hide ((e1 R2 (by have := HO.out; omega)).trans H2.out); have HG := hide (grown_spoil HG.out (by have := HO.out; omega) g1); clear h1 e1 g1) | ((with_reducible refine list_store 30 (.tmp 11) (.tmp 91) (R2) #[.bool false, .int .i64 (-1), .int .i64 (-1), .int .i64 0, .bool true] 30 #[.bool false, .int .i64 0, .int .i64 0, .int .i64 0, .bool false] ?hx ?hy ?hg ?hi ?ho ?h1 ?_); (case hx => rfl); (case hy => rfl); (case hg => exact H2.out); (case hi => exact sizeEf); (case ho => rfl); (case h1 => simp [Value.oneCell']); intro w8 h1 e1 g1; have H2 := hide h1; have H1 := hide ((e1 R1 (by have := HO.out; omega)).trans H1.out); have HG := hide (grown_spoil HG.out (by have := HO.out; omega) g1); clear h1 e1 g1) | fail)
  refine bodyPost_ret (results_rr rfl _ _ R1 R2 25 30 #[.int .i64 0, .int .i64 0, .int .i64 (m 0), .int .i64 (m 1), .int .i64 (m 2), .int .i64 (m 3), .int .i64 (m 4), .int .i64 (m 5), .int .i64 (m 6), .int .i64 (m 7), .int .i64 (m 8), .int .i64 (m 9), .int .i64 (m 10), .int .i64 (m 11), .int .i64 (m 12), .int .i64 (m 13), .int .i64 (m 14), .int .i64 (m 15)] #[.bool false, .int .i64 (-1), .int .i64 (-1), .int .i64 0, .bool true] (0, 0) (0, 0) _ _ rfl H1.out Tryd.underlying25 rfl sizeVm rfl H2.out Tryd.underlying30 rfl sizeEf) rfl ?_
  exact ⟨rfl, HG.out⟩

set_option maxRecDepth 100000 in
set_option maxHeartbeats 8000000 in
theorem does_10l (n : Nat) (pc acc : Int) (m : Nat → Int) (inn outs : Int) (ga : Option Addr) (M gcap : Nat) (w : World) (hn : M ≤ n) :
    Calls Tryd.prog 25 #[.agg #[.int .i64 10, .int .i64 (n : Int)], .agg #[.int .i64 pc, .int .i64 acc, .int .i64 (m 0), .int .i64 (m 1), .int .i64 (m 2), .int .i64 (m 3), .int .i64 (m 4), .int .i64 (m 5), .int .i64 (m 6), .int .i64 (m 7), .int .i64 (m 8), .int .i64 (m 9), .int .i64 (m 10), .int .i64 (m 11), .int .i64 (m 12), .int .i64 (m 13), .int .i64 (m 14), .int .i64 (m 15)], .int .i64 inn, .int .i64 outs, .slice ga M gcap] w fun e w' => e = .returned (.tuple #[.agg #[.int .i64 0, .int .i64 0, .int .i64 (m 0), .int .i64 (m 1), .int .i64 (m 2), .int .i64 (m 3), .int .i64 (m 4), .int .i64 (m 5), .int .i64 (m 6), .int .i64 (m 7), .int .i64 (m 8), .int .i64 (m 9), .int .i64 (m 10), .int .i64 (m 11), .int .i64 (m 12), .int .i64 (m 13), .int .i64 (m 14), .int .i64 (m 15)], .agg #[.bool false, .int .i64 (-1), .int .i64 (-1), .int .i64 0, .bool true]]) ∧ w.grownBy w' none := by
  have CFA := hide (fun W => fault_any ⟨pc, acc, m⟩ W)
  dsimp only [vmV, efV, failS, faultE] at CFA
  go_enter Tryd.func25, Tryd.ntmps25
  go_upto_region 1 with fail
  obtain ⟨b1, b2, b3, b4, bg⟩ := four (w := w) (o1 := .cells #[.int .i64 (10 : Int), .int .i64 (n : Int)] 43) (o2 := .cells #[.int .i64 pc, .int .i64 acc, .int .i64 (m 0), .int .i64 (m 1), .int .i64 (m 2), .int .i64 (m 3), .int .i64 (m 4), .int .i64 (m 5), .int .i64 (m 6), .int .i64 (m 7), .int .i64 (m 8), .int .i64 (m 9), .int .i64 (m 10), .int .i64 (m 11), .int .i64 (m 12), .int .i64 (m 13), .int .i64 (m 14), .int .i64 (m 15)] 25) (o3 := .cells #[.int .i64 0, .int .i64 0, .int .i64 0, .int .i64 0, .int .i64 0, .int .i64 0, .int .i64 0, .int .i64 0, .int .i64 0, .int .i64 0, .int .i64 0, .int .i64 0, .int .i64 0, .int .i64 0, .int .i64 0, .int .i64 0, .int .i64 0, .int .i64 0] 25) (o4 := .cells #[.bool false, .int .i64 0, .int .i64 0, .int .i64 0, .bool false] 30)
  generalize hw1 : (((w.alloc (.cells #[.int .i64 (10 : Int), .int .i64 (n : Int)] 43)).alloc (.cells #[.int .i64 pc, .int .i64 acc, .int .i64 (m 0), .int .i64 (m 1), .int .i64 (m 2), .int .i64 (m 3), .int .i64 (m 4), .int .i64 (m 5), .int .i64 (m 6), .int .i64 (m 7), .int .i64 (m 8), .int .i64 (m 9), .int .i64 (m 10), .int .i64 (m 11), .int .i64 (m 12), .int .i64 (m 13), .int .i64 (m 14), .int .i64 (m 15)] 25)).alloc (.cells #[.int .i64 0, .int .i64 0, .int .i64 0, .int .i64 0, .int .i64 0, .int .i64 0, .int .i64 0, .int .i64 0, .int .i64 0, .int .i64 0, .int .i64 0, .int .i64 0, .int .i64 0, .int .i64 0, .int .i64 0, .int .i64 0, .int .i64 0, .int .i64 0] 25)).alloc (.cells #[.bool false, .int .i64 0, .int .i64 0, .int .i64 0, .bool false] 30) = w1 at *
  clear hw1
  have HL := hide (box_lt b4)
  obtain ⟨X, hX⟩ : ∃ X, X = w.heap.size := ⟨_, rfl⟩
  rw [← hX] at b1 b2 b3 b4 HL ⊢
  generalize hV : X + 1 = V at *
  generalize hR1 : V + 1 = R1 at *
  generalize hR2 : R1 + 1 = R2 at *
  have HO0 : Hid (w.heap.size ≤ X ∧ X < V ∧ V < R1 ∧ R1 < R2 ∧ R2 < w1.heap.size) := hide (by have := HL.out; omega)
  clear hR1 hR2 hV hX HL
  have HX := hide b1
  have HV := hide b2
  have H1 := hide b3
  have H2 := hide b4
  have HG := hide bg
  clear b1 b2 b3 b4 bg
  go_upto_region 2 with (first | ((with_reducible refine list_store 30 (.tmp 12) (.tmp 13) (w1.heap.size) #[.bool false, .int .i64 (-1), .int .i64 (-1), .int .i64 0, .bool false] 30 #[.bool false, .int .i64 0, .int .i64 0, .int .i64 0, .bool false] ?hx ?hy ?hg ?hi ?ho ?h1 ?_); (case hx => rfl); (case hy => rfl); (case hg => exact World.heap_alloc_new _ _); (case hi => exact sizeEf); (case ho => rfl); (case h1 => simp [Value.oneCell']); intro w2 h1 e1 g1; have hgN := grown_spoil (World.grownBy_alloc w1 _ none) (Nat.le_refl _) g1; have HF := hide h1; have HX := hide (box_grown HX.out hgN (by simp)); have HV := hide (box_grown HV.out hgN (by simp)); have H1 := hide (box_grown H1.out hgN (by simp)); have H2 := hide (box_grown H2.out hgN (by simp)); have HG := hide (grownBy_trans HG.out hgN); clear h1 e1 g1 hgN) | fail)
  have HO : Hid (w.heap.size ≤ X ∧ X < V ∧ V < R1 ∧ R1 < R2 ∧ R2 < w1.heap.size) := HO0
  generalize w1.heap.size = F at *
  clear HO0
  have x0 : w2.cell? ⟨X, 0, none⟩ = some (.int .i64 (10 : Int)) := blk_cell HX.out 0
  have x1 : w2.cell? ⟨X, 1, none⟩ = some (.int .i64 (n : Int)) := blk_cell HX.out 1
  go_upto_region 28 with (first | fail)
  go_wp2_with (first | ((with_reducible refine list_load 25 (.tmp 6) (V) 25 #[.int .i64 pc, .int .i64 acc, .int .i64 (m 0), .int .i64 (m 1), .int .i64 (m 2), .int .i64 (m 3), .int .i64 (m 4), .int .i64 (m 5), .int .i64 (m 6), .int .i64 (m 7), .int .i64 (m 8), .int .i64 (m 9), .int .i64 (m 10), .int .i64 (m 11), .int .i64 (m 12), .int .i64 (m 13), .int .i64 (m 14), .int .i64 (m 15)] (0, 0) _ ?hw ?hx ?hg Tryd.underlying25 ?hd ?hi ?_); (case hw => kernel_rfl); (case hx => rfl); (case hg => exact HV.out); (case hd => rfl); (case hi => exact sizeVm)) | fail)
  refine (CFA.out _).mono ?_; rintro e wf ⟨rfl, hg⟩
  have H1 := hide (box_grown H1.out hg (by simp))
  have H2 := hide (box_grown H2.out hg (by simp))
  have HG := hide (grownBy_trans HG.out hg)
  clear hg CFA
  go_wp2_with (first | ((with_reducible refine list_store 25 (.tmp 10) (.tmp 115) (R1) #[.int .i64 0, .int .i64 0, .int .i64 (m 0), .int .i64 (m 1), .int .i64 (m 2), .int .i64 (m 3), .int .i64 (m 4), .int .i64 (m 5), .int .i64 (m 6), .int .i64 (m 7), .int .i64 (m 8), .int .i64 (m 9), .int .i64 (m 10), .int .i64 (m 11), .int .i64 (m 12), .int .i64 (m 13), .int .i64 (m 14), .int .i64 (m 15)] 25 #[.int .i64 0, .int .i64 0, .int .i64 0, .int .i64 0, .int .i64 0, .int .i64 0, .int .i64 0, .int .i64 0, .int .i64 0, .int .i64 0, .int .i64 0, .int .i64 0, .int .i64 0, .int .i64 0, .int .i64 0, .int .i64 0, .int .i64 0, .int .i64 0] ?hx ?hy ?hg ?hi ?ho ?h1 ?_); (case hx => rfl); (case hy => rfl); (case hg => exact H1.out); (case hi => exact sizeVm); (case ho => rfl); (case h1 => simp [Value.oneCell']); intro w7 h1 e1 g1; have H1 := hide h1; have H2 := hide ((e1 R2 (by have := HO.out; omega)).trans H2.out); have HG := hide (grown_spoil HG.out (by have := HO.out; omega) g1); clear h1 e1 g1) | ((with_reducible refine list_store 30 (.tmp 11) (.tmp 116) (R2) #[.bool false, .int .i64 (-1), .int .i64 (-1), .int .i64 0, .bool true] 30 #[.bool false, .int .i64 0, .int .i64 0, .int .i64 0, .bool false] ?hx ?hy ?hg ?hi ?ho ?h1 ?_); (case hx => rfl); (case hy => rfl); (case hg => exact H2.out); (case hi => exact sizeEf); (case ho => rfl); (case h1 => simp [Value.oneCell']); intro w8 h1 e1 g1; have H2 := hide h1; have H1 := hide ((e1 R1 (by have := HO.out; omega)).trans H1.out); have HG := hide (grown_spoil HG.out (by have := HO.out; omega) g1); clear h1 e1 g1) | fail)
  refine bodyPost_ret (results_rr rfl _ _ R1 R2 25 30 #[.int .i64 0, .int .i64 0, .int .i64 (m 0), .int .i64 (m 1), .int .i64 (m 2), .int .i64 (m 3), .int .i64 (m 4), .int .i64 (m 5), .int .i64 (m 6), .int .i64 (m 7), .int .i64 (m 8), .int .i64 (m 9), .int .i64 (m 10), .int .i64 (m 11), .int .i64 (m 12), .int .i64 (m 13), .int .i64 (m 14), .int .i64 (m 15)] #[.bool false, .int .i64 (-1), .int .i64 (-1), .int .i64 0, .bool true] (0, 0) (0, 0) _ _ rfl H1.out Tryd.underlying25 rfl sizeVm rfl H2.out Tryd.underlying30 rfl sizeEf) rfl ?_
  exact ⟨rfl, HG.out⟩

set_option maxRecDepth 100000 in
set_option maxHeartbeats 8000000 in
theorem does_10m (n : Nat) (pc acc : Int) (m : Nat → Int) (inn outs : Int) (g o M gcap : Nat) (w : World) (hn : n < M) (gs0 : w.cell? ⟨g, o + n, none⟩ = some (.int .i64 (-1))) :
    Calls Tryd.prog 25 #[.agg #[.int .i64 10, .int .i64 (n : Int)], .agg #[.int .i64 pc, .int .i64 acc, .int .i64 (m 0), .int .i64 (m 1), .int .i64 (m 2), .int .i64 (m 3), .int .i64 (m 4), .int .i64 (m 5), .int .i64 (m 6), .int .i64 (m 7), .int .i64 (m 8), .int .i64 (m 9), .int .i64 (m 10), .int .i64 (m 11), .int .i64 (m 12), .int .i64 (m 13), .int .i64 (m 14), .int .i64 (m 15)], .int .i64 inn, .int .i64 outs, .slice (some ⟨g, o, none⟩) M gcap] w fun e w' => e = .returned (.tuple #[.agg #[.int .i64 0, .int .i64 0, .int .i64 (m 0), .int .i64 (m 1), .int .i64 (m 2), .int .i64 (m 3), .int .i64 (m 4), .int .i64 (m 5), .int .i64 (m 6), .int .i64 (m 7), .int .i64 (m 8), .int .i64 (m 9), .int .i64 (m 10), .int .i64 (m 11), .int .i64 (m 12), .int .i64 (m 13), .int .i64 (m 14), .int .i64 (m 15)], .agg #[.bool false, .int .i64 (-1), .int .i64 (-1), .int .i64 0, .bool true]]) ∧ w.grownBy w' none := by
  have CFA := hide (fun W => fault_any ⟨pc, acc, m⟩ W)
  dsimp only [vmV, efV, failS, faultE] at CFA
  have HGS := hide (fun W (hg : w.grownBy W none) => (cell_grown hg gs0 : W.cell? ⟨g, o + n, none⟩ = some (.int .i64 (-1))))
  clear gs0
  go_enter Tryd.func25, Tryd.ntmps25
  go_upto_region 1 with fail
  obtain ⟨b1, b2, b3, b4, bg⟩ := four (w := w) (o1 := .cells #[.int .i64 (10 : Int), .int .i64 (n : Int)] 43) (o2 := .cells #[.int .i64 pc, .int .i64 acc, .int .i64 (m 0), .int .i64 (m 1), .int .i64 (m 2), .int .i64 (m 3), .int .i64 (m 4), .int .i64 (m 5), .int .i64 (m 6), .int .i64 (m 7), .int .i64 (m 8), .int .i64 (m 9), .int .i64 (m 10), .int .i64 (m 11), .int .i64 (m 12), .int .i64 (m 13), .int .i64 (m 14), .int .i64 (m 15)] 25) (o3 := .cells #[.int .i64 0, .int .i64 0, .int .i64 0, .int .i64 0, .int .i64 0, .int .i64 0, .int .i64 0, .int .i64 0, .int .i64 0, .int .i64 0, .int .i64 0, .int .i64 0, .int .i64 0, .int .i64 0, .int .i64 0, .int .i64 0, .int .i64 0, .int .i64 0] 25) (o4 := .cells #[.bool false, .int .i64 0, .int .i64 0, .int .i64 0, .bool false] 30)
  generalize hw1 : (((w.alloc (.cells #[.int .i64 (10 : Int), .int .i64 (n : Int)] 43)).alloc (.cells #[.int .i64 pc, .int .i64 acc, .int .i64 (m 0), .int .i64 (m 1), .int .i64 (m 2), .int .i64 (m 3), .int .i64 (m 4), .int .i64 (m 5), .int .i64 (m 6), .int .i64 (m 7), .int .i64 (m 8), .int .i64 (m 9), .int .i64 (m 10), .int .i64 (m 11), .int .i64 (m 12), .int .i64 (m 13), .int .i64 (m 14), .int .i64 (m 15)] 25)).alloc (.cells #[.int .i64 0, .int .i64 0, .int .i64 0, .int .i64 0, .int .i64 0, .int .i64 0, .int .i64 0, .int .i64 0, .int .i64 0, .int .i64 0, .int .i64 0, .int .i64 0, .int .i64 0, .int .i64 0, .int .i64 0, .int .i64 0, .int .i64 0, .int .i64 0] 25)).alloc (.cells #[.bool false, .int .i64 0, .int .i64 0, .int .i64 0, .bool false] 30) = w1 at *
  clear hw1
  have HL := hide (box_lt b4)
  obtain ⟨X, hX⟩ : ∃ X, X = w.heap.size := ⟨_, rfl⟩
  rw [← hX] at b1 b2 b3 b4 HL ⊢
  generalize hV : X + 1 = V at *
  generalize hR1 : V + 1 = R1 at *
  generalize hR2 : R1 + 1 = R2 at *
  have HO0 : Hid (w.heap.size ≤ X ∧ X < V ∧ V < R1 ∧ R1 < R2 ∧ R2 < w1.heap.size) := hide (by have := HL.out; omega)
  clear hR1 hR2 hV hX HL
  have HX := hide b1
  have HV := hide b2
  have H1 := hide b3
  have H2 := hide b4
  have HG := hide bg
  clear b1 b2 b3 b4 bg
  go_upto_region 2 with (first | ((with_reducible refine list_store 30 (.tmp 12) (.tmp 13) (w1.heap.size) #[.bool false, .int .i64 (-1), .int .i64 (-1), .int .i64 0, .bool false] 30 #[.bool false, .int .i64 0, .int .i64 0, .int .i64 0, .bool false] ?hx ?hy ?hg ?hi ?ho ?h1 ?_); (case hx => rfl); (case hy => rfl); (case hg => exact World.heap_alloc_new _ _); (case hi => exact sizeEf); (case ho => rfl); (case h1 => simp [Value.oneCell']); intro w2 h1 e1 g1; have hgN := grown_spoil (World.grownBy_alloc w1 _ none) (Nat.le_refl _) g1; have HF := hide h1; have HX := hide (box_grown HX.out hgN (by simp)); have HV := hide (box_grown HV.out hgN (by simp)); have H1 := hide (box_grown H1.out hgN (by simp)); have H2 := hide (box_grown H2.out hgN (by simp)); have HG := hide (grownBy_trans HG.out hgN); clear h1 e1 g1 hgN) | fail)
  have HO : Hid (w.heap.size ≤ X ∧ X < V ∧ V < R1 ∧ R1 < R2 ∧ R2 < w1.heap.size) := HO0
  generalize w1.heap.size = F at *
  clear HO0
  have x0 : w2.cell? ⟨X, 0, none⟩ = some (.int .i64 (10 : Int)) := blk_cell HX.out 0
  have x1 : w2.cell? ⟨X, 1, none⟩ = some (.int .i64 (n : Int)) := blk_cell HX.out 1
  have q0 := HGS.out w2 HG.out
  go_upto_region 28 with (first | fail)
  go_wp2_with (first | ((with_reducible refine list_load 25 (.tmp 6) (V) 25 #[.int .i64 pc, .int .i64 acc, .int .i64 (m 0), .int .i64 (m 1), .int .i64 (m 2), .int .i64 (m 3), .int .i64 (m 4), .int .i64 (m 5), .int .i64 (m 6), .int .i64 (m 7), .int .i64 (m 8), .int .i64 (m 9), .int .i64 (m 10), .int .i64 (m 11), .int .i64 (m 12), .int .i64 (m 13), .int .i64 (m 14), .int .i64 (m 15)] (0, 0) _ ?hw ?hx ?hg Tryd.underlying25 ?hd ?hi ?_); (case hw => kernel_rfl); (case hx => rfl); (case hg => exact HV.out); (case hd => rfl); (case hi => exact sizeVm)) | fail)
  refine (CFA.out _).mono ?_; rintro e wf ⟨rfl, hg⟩
  have H1 := hide (box_grown H1.out hg (by simp))
  have H2 := hide (box_grown H2.out hg (by simp))
  have HG := hide (grownBy_trans HG.out hg)
  clear hg CFA
  go_wp2_with (first | ((with_reducible refine list_store 25 (.tmp 10) (.tmp 115) (R1) #[.int .i64 0, .int .i64 0, .int .i64 (m 0), .int .i64 (m 1), .int .i64 (m 2), .int .i64 (m 3), .int .i64 (m 4), .int .i64 (m 5), .int .i64 (m 6), .int .i64 (m 7), .int .i64 (m 8), .int .i64 (m 9), .int .i64 (m 10), .int .i64 (m 11), .int .i64 (m 12), .int .i64 (m 13), .int .i64 (m 14), .int .i64 (m 15)] 25 #[.int .i64 0, .int .i64 0, .int .i64 0, .int .i64 0, .int .i64 0, .int .i64 0, .int .i64 0, .int .i64 0, .int .i64 0, .int .i64 0, .int .i64 0, .int .i64 0, .int .i64 0, .int .i64 0, .int .i64 0, .int .i64 0, .int .i64 0, .int .i64 0] ?hx ?hy ?hg ?hi ?ho ?h1 ?_); (case hx => rfl); (case hy => rfl); (case hg => exact H1.out); (case hi => exact sizeVm); (case ho => rfl); (case h1 => simp [Value.oneCell']); intro w7 h1 e1 g1; have H1 := hide h1; have H2 := hide ((e1 R2 (by have := HO.out; omega)).trans H2.out); have HG := hide (grown_spoil HG.out (by have := HO.out; omega) g1); clear h1 e1 g1) | ((with_reducible refine list_store 30 (.tmp 11) (.tmp 116) (R2) #[.bool false, .int .i64 (-1), .int .i64 (-1), .int .i64 0, .bool true] 30 #[.bool false, .int .i64 0, .int .i64 0, .int .i64 0, .bool false] ?hx ?hy ?hg ?hi ?ho ?h1 ?_); (case hx => rfl); (case hy => rfl); (case hg => exact H2.out); (case hi => exact sizeEf); (case ho => rfl); (case h1 => simp [Value.oneCell']); intro w8 h1 e1 g1; have H2 := hide h1; have H1 := hide ((e1 R1 (by have := HO.out; omega)).trans H1.out); have HG := hide (grown_spoil HG.out (by have := HO.out; omega) g1); clear h1 e1 g1) | fail)
  refine bodyPost_ret (results_rr rfl _ _ R1 R2 25 30 #[.int .i64 0, .int .i64 0, .int .i64 (m 0), .int .i64 (m 1), .int .i64 (m 2), .int .i64 (m 3), .int .i64 (m 4), .int .i64 (m 5), .int .i64 (m 6), .int .i64 (m 7), .int .i64 (m 8), .int .i64 (m 9), .int .i64 (m 10), .int .i64 (m 11), .int .i64 (m 12), .int .i64 (m 13), .int .i64 (m 14), .int .i64 (m 15)] #[.bool false, .int .i64 (-1), .int .i64 (-1), .int .i64 0, .bool true] (0, 0) (0, 0) _ _ rfl H1.out Tryd.underlying25 rfl sizeVm rfl H2.out Tryd.underlying30 rfl sizeEf) rfl ?_
  exact ⟨rfl, HG.out⟩

set_option maxRecDepth 100000 in
set_option maxHeartbeats 8000000 in
theorem does_10y (n : Nat) (pc acc : Int) (m : Nat → Int) (inn outs : Int) (g o M gcap : Nat) (x : Int) (w : World) (hn : n < M) (gs0 : w.cell? ⟨g, o + n, none⟩ = some (.int .i64 x)) (hx : (x == -1) = false) :
    Calls Tryd.prog 25 #[.agg #[.int .i64 10, .int .i64 (n : Int)], .agg #[.int .i64 pc, .int .i64 acc, .int .i64 (m 0), .int .i64 (m 1), .int .i64 (m 2), .int .i64 (m 3), .int .i64 (m 4), .int .i64 (m 5), .int .i64 (m 6), .int .i64 (m 7), .int .i64 (m 8), .int .i64 (m 9), .int .i64 (m 10), .int .i64 (m 11), .int .i64 (m 12), .int .i64 (m 13), .int .i64 (m 14), .int .i64 (m 15)], .int .i64 inn, .int .i64 outs, .slice (some ⟨g, o, none⟩) M gcap] w fun e w' => e = .returned (.tuple #[.agg #[.int .i64 pc, .int .i64 x, .int .i64 (m 0), .int .i64 (m 1), .int .i64 (m 2), .int .i64 (m 3), .int .i64 (m 4), .int .i64 (m 5), .int .i64 (m 6), .int .i64 (m 7), .int .i64 (m 8), .int .i64 (m 9), .int .i64 (m 10), .int .i64 (m 11), .int .i64 (m 12), .int .i64 (m 13), .int .i64 (m 14), .int .i64 (m 15)], .agg #[.bool false, .int .i64 (-1), .int .i64 (n : Int), .int .i64 0, .bool false]]) ∧ w.grownBy w' none := by
  have HGS := hide (fun W (hg : w.grownBy W none) => (cell_grown hg gs0 : W.cell? ⟨g, o + n, none⟩ = some (.int .i64 x)))
  clear gs0
  go_enter Tryd.func25, Tryd.ntmps25
  go_upto_region 1 with fail
  obtain ⟨b1, b2, b3, b4, bg⟩ := four (w := w) (o1 := .cells #[.int .i64 (10 : Int), .int .i64 (n : Int)] 43) (o2 := .cells #[.int .i64 pc, .int .i64 acc, .int .i64 (m 0), .int .i64 (m 1), .int .i64 (m 2), .int .i64 (m 3), .int .i64 (m 4), .int .i64 (m 5), .int .i64 (m 6), .int .i64 (m 7), .int .i64 (m 8), .int .i64 (m 9), .int .i64 (m 10), .int .i64 (m 11), .int .i64 (m 12), .int .i64 (m 13), .int .i64 (m 14), .int .i64 (m 15)] 25) (o3 := .cells #[.int .i64 0, .int .i64 0, .int .i64 0, .int .i64 0, .int .i64 0, .int .i64 0, .int .i64 0, .int .i64 0, .int .i64 0, .int .i64 0, .int .i64 0, .int .i64 0, .int .i64 0, .int .i64 0, .int .i64 0, .int .i64 0, .int .i64 0, .int .i64 0] 25) (o4 := .cells #[.bool false, .int .i64 0, .int .i64 0, .int .i64 0, .bool false] 30)
  generalize hw1 : (((w.alloc (.cells #[.int .i64 (10 : Int), .int .i64 (n : Int)] 43)).alloc (.cells #[.int .i64 pc, .int .i64 acc, .int .i64 (m 0), .int .i64 (m 1), .int .i64 (m 2), .int .i64 (m 3), .int .i64 (m 4), .int .i64 (m 5), .int .i64 (m 6), .int .i64 (m 7), .int .i64 (m 8), .int .i64 (m 9), .int .i64 (m 10), .int .i64 (m 11), .int .i64 (m 12), .int .i64 (m 13), .int .i64 (m 14), .int .i64 (m 15)] 25)).alloc (.cells #[.int .i64 0, .int .i64 0, .int .i64 0, .int .i64 0, .int .i64 0, .int .i64 0, .int .i64 0, .int .i64 0, .int .i64 0, .int .i64 0, .int .i64 0, .int .i64 0, .int .i64 0, .int .i64 0, .int .i64 0, .int .i64 0, .int .i64 0, .int .i64 0] 25)).alloc (.cells #[.bool false, .int .i64 0, .int .i64 0, .int .i64 0, .bool false] 30) = w1 at *
  clear hw1
  have HL := hide (box_lt b4)
  obtain ⟨X, hX⟩ : ∃ X, X = w.heap.size := ⟨_, rfl⟩
  rw [← hX] at b1 b2 b3 b4 HL ⊢
  generalize hV : X + 1 = V at *
  generalize hR1 : V + 1 = R1 at *
  generalize hR2 : R1 + 1 = R2 at *
  have HO0 : Hid (w.heap.size ≤ X ∧ X < V ∧ V < R1 ∧ R1 < R2 ∧ R2 < w1.heap.size) := hide (by have := HL.out; omega)
  clear hR1 hR2 hV hX HL
  have HX := hide b1
  have HV := hide b2
  have H1 := hide b3
  have H2 := hide b4
  have HG := hide bg
  clear b1 b2 b3 b4 bg
  go_upto_region 2 with (first | ((with_reducible refine list_store 30 (.tmp 12) (.tmp 13) (w1.heap.size) #[.bool false, .int .i64 (-1), .int .i64 (-1), .int .i64 0, .bool false] 30 #[.bool false, .int .i64 0, .int .i64 0, .int .i64 0, .bool false] ?hx ?hy ?hg ?hi ?ho ?h1 ?_); (case hx => rfl); (case hy => rfl); (case hg => exact World.heap_alloc_new _ _); (case hi => exact sizeEf); (case ho => rfl); (case h1 => simp [Value.oneCell']); intro w2 h1 e1 g1; have hgN := grown_spoil (World.grownBy_alloc w1 _ none) (Nat.le_refl _) g1; have HF := hide h1; have HX := hide (box_grown HX.out hgN (by simp)); have HV := hide (box_grown HV.out hgN (by simp)); have H1 := hide (box_grown H1.out hgN (by simp)); have H2 := hide (box_grown H2.out hgN (by simp)); have HG := hide (grownBy_trans HG.out hgN); clear h1 e1 g1 hgN) | fail)
  have HO : Hid (w.heap.size ≤ X ∧ X < V ∧ V < R1 ∧ R1 < R2 ∧ R2 < w1.heap.size) := HO0
  generalize w1.heap.size = F at *
  clear HO0
  have x0 : w2.cell? ⟨X, 0, none⟩ = some (.int .i64 (10 : Int)) := blk_cell HX.out 0
  have x1 : w2.cell? ⟨X, 1, none⟩ = some (.int .i64 (n : Int)) := blk_cell HX.out 1
  have q0 := HGS.out w2 HG.out
  go_upto_region 29 with (first | fail)
  have b0 : w2.cell? ⟨V, 1, none⟩ = some (.int .i64 acc) := blk_cell HV.out 1
  have b1 := blk_free HV.out (1)
  have HXX : Hid ((w2.setCell ⟨V, 1, none⟩ (.int .i64 x)).heap[V]? = some (.cells #[.int .i64 pc, .int .i64 x, .int .i64 (m 0), .int .i64 (m 1), .int .i64 (m 2), .int .i64 (m 3), .int .i64 (m 4), .int .i64 (m 5), .int .i64 (m 6), .int .i64 (m 7), .int .i64 (m 8), .int .i64 (m 9), .int .i64 (m 10), .int .i64 (m 11), .int .i64 (m 12), .int .i64 (m 13), .int .i64 (m 14), .int .i64 (m 15)] 25 (0, 0))) := hide (blk_set HV.out (by rfl))
  have HX := hide ((heap_else w2 (1) (.int .i64 x) (show V ≠ X by have := HO.out; omega)).trans HX.out)
  have H1 := hide ((heap_else w2 (1) (.int .i64 x) (show V ≠ R1 by have := HO.out; omega)).trans H1.out)
  have H2 := hide ((heap_else w2 (1) (.int .i64 x) (show V ≠ R2 by have := HO.out; omega)).trans H2.out)
  have HF := hide ((heap_else w2 (1) (.int .i64 x) (show V ≠ F by have := HO.out; omega)).trans HF.out)
  have HG := hide (grown_set_new (R := V) (j := 1) (u := .int .i64 x) (by have := HO.out; omega) HG.out)
  go_upto_region 30 with (first | fail)
  generalize hwn : w2.setCell ⟨V, 1, none⟩ (.int .i64 x) = w3 at *
  clear hwn b0 b1 HV
  have HV := HXX
  clear HXX
  have x1 : w3.cell? ⟨X, 1, none⟩ = some (.int .i64 (n : Int)) := blk_cell HX.out 1
  have b0 : w3.cell? ⟨F, 2, none⟩ = some (.int .i64 (-1)) := blk_cell HF.out 2
  have b1 := blk_free HF.out (2)
  have HXX : Hid ((w3.setCell ⟨F, 2, none⟩ (.int .i64 (n : Int))).heap[F]? = some (.cells #[.bool false, .int .i64 (-1), .int .i64 (n : Int), .int .i64 0, .bool false] 30 (0, 0))) := hide (blk_set HF.out (by rfl))
  have HX := hide ((heap_else w3 (2) (.int .i64 (n : Int)) (show F ≠ X by have := HO.out; omega)).trans HX.out)
  have HV := hide ((heap_else w3 (2) (.int .i64 (n : Int)) (show F ≠ V by have := HO.out; omega)).trans HV.out)
  have H1 := hide ((heap_else w3 (2) (.int .i64 (n : Int)) (show F ≠ R1 by have := HO.out; omega)).trans H1.out)
  have H2 := hide ((heap_else w3 (2) (.int .i64 (n : Int)) (show F ≠ R2 by have := HO.out; omega)).trans H2.out)
  have HG := hide (grown_set_new (R := F) (j := 2) (u := .int .i64 (n : Int)) (by have := HO.out; omega) HG.out)
  go_upto_region 33 with (first | fail)
  generalize hwn : w3.setCell ⟨F, 2, none⟩ (.int .i64 (n : Int)) = w4 at *
  clear hwn b0 b1 HF
  have HF := HXX
  clear HXX
  go_upto_region 33 with (first | fail)
  refine wp_region_held_drew (S := fun W => W.heap[V]? = some (.cells #[.int .i64 pc, .int .i64 x, .int .i64 (m 0), .int .i64 (m 1), .int .i64 (m 2), .int .i64 (m 3), .int .i64 (m 4), .int .i64 (m 5), .int .i64 (m 6), .int .i64 (m 7), .int .i64 (m 8), .int .i64 (m 9), .int .i64 (m 10), .int .i64 (m 11), .int .i64 (m 12), .int .i64 (m 13), .int .i64 (m 14), .int .i64 (m 15)] 25 (0, 0)) ∧ W.heap[F]? = some (.cells #[.bool false, .int .i64 (-1), .int .i64 (n : Int), .int .i64 0, .bool false] 30 (0, 0))) (by kernel_rfl) ⟨HV.out, HF.out⟩ (fun hHeld => ?_)
  refine take_put (i := 0) (v := .agg #[.int .i64 pc, .int .i64 x, .int .i64 (m 0), .int .i64 (m 1), .int .i64 (m 2), .int .i64 (m 3), .int .i64 (m 4), .int .i64 (m 5), .int .i64 (m 6), .int .i64 (m 7), .int .i64 (m 8), .int .i64 (m 9), .int .i64 (m 10), .int .i64 (m 11), .int .i64 (m 12), .int .i64 (m 13), .int .i64 (m 14), .int .i64 (m 15)]) 129 rfl rfl (by kernel_rfl) (by kernel_rfl) (by kernel_rfl) (fun _ _ _ h => h) (yieldsIf_load_mid (by rfl) 25 (.tmp 6) rfl V 0 rfl [.int .i64 pc, .int .i64 x, .int .i64 (m 0), .int .i64 (m 1), .int .i64 (m 2), .int .i64 (m 3), .int .i64 (m 4), .int .i64 (m 5), .int .i64 (m 6), .int .i64 (m 7), .int .i64 (m 8), .int .i64 (m 9), .int .i64 (m 10), .int .i64 (m 11), .int .i64 (m 12), .int .i64 (m 13), .int .i64 (m 14), .int .i64 (m 15)] _ (fun W h => range_of h.1) Tryd.underlying25 rfl sizeVm) (by assumption) ?_
  simp only [Act.put, List.setIfInBounds_toArray, List.set_cons_zero, List.set_cons_succ]
  refine take_put (i := 1) (v := .agg #[.bool false, .int .i64 (-1), .int .i64 (n : Int), .int .i64 0, .bool false]) 130 rfl rfl (by kernel_rfl) (by kernel_rfl) (by kernel_rfl) (fun _ _ _ h => h) (yieldsIf_load_mid (by rfl) 30 (.tmp 12) rfl F 0 rfl [.bool false, .int .i64 (-1), .int .i64 (n : Int), .int .i64 0, .bool false] _ (fun W h => range_of h.2) Tryd.underlying30 rfl sizeEf) (by assumption) ?_
  simp only [Act.put, List.setIfInBounds_toArray, List.set_cons_zero, List.set_cons_succ]
  refine wpAnyH_ready (rs := [2]) (by kernel_rfl) (by simp) ?_
  refine AllReadyH.cons rfl (fun K hK => ?_) AllReadyH.nil
  refine step_store 25 (.tmp 10) (.tmp 129) R1 #[.int .i64 pc, .int .i64 x, .int .i64 (m 0), .int .i64 (m 1), .int .i64 (m 2), .int .i64 (m 3), .int .i64 (m 4), .int .i64 (m 5), .int .i64 (m 6), .int .i64 (m 7), .int .i64 (m 8), .int .i64 (m 9), .int .i64 (m 10), .int .i64 (m 11), .int .i64 (m 12), .int .i64 (m 13), .int .i64 (m 14), .int .i64 (m 15)] 25 #[.int .i64 0, .int .i64 0, .int .i64 0, .int .i64 0, .int .i64 0, .int .i64 0, .int .i64 0, .int .i64 0, .int .i64 0, .int .i64 0, .int .i64 0, .int .i64 0, .int .i64 0, .int .i64 0, .int .i64 0, .int .i64 0, .int .i64 0, .int .i64 0] rfl rfl H1.out sizeVm rfl (by simp [Value.oneCell']) ?_
  intro w5 h5 e5 g5
  have HF5 := hide ((e5 F (by have := HO.out; omega)).trans HF.out)
  refine hK.out _ _ ⟨(e5 V (by have := HO.out; omega)).trans HV.out, HF5.out⟩ (fun hHeld => ?_)
  simp only [Act.put]
  refine wpAnyH_ready (rs := [3]) (by kernel_rfl) (by simp) ?_
  refine AllReadyH.cons rfl (fun K hK => ?_) AllReadyH.nil
  refine step_store 30 (.tmp 11) (.tmp 130) R2 #[.bool false, .int .i64 (-1), .int .i64 (n : Int), .int .i64 0, .bool false] 30 #[.bool false, .int .i64 0, .int .i64 0, .int .i64 0, .bool false] rfl rfl ((e5 R2 (by have := HO.out; omega)).trans H2.out) sizeEf rfl (by simp [Value.oneCell']) ?_
  intro w6 h6 e6 g6
  refine hK.out _ _ ⟨(e6 V (by have := HO.out; omega)).trans hHeld.1, (e6 F (by have := HO.out; omega)).trans HF5.out⟩ (fun hHeld2 => ?_)
  simp only [Act.put]
  refine wpAnyH_done (by kernel_rfl) ?_ _
  have H5 := hide ((e6 R1 (by have := HO.out; omega)).trans h5)
  have H6 := hide h6
  have HGF := hide (grown_spoil (grown_spoil (grownBy_trans HG.out (grownBy_draws _ 1 none)) (by have := HO.out; omega) g5) (by have := HO.out; omega) g6)
  clear h5 h6 e5 e6 g5 g6 hHeld hHeld2 hK
  go_wp2
  refine bodyPost_ret (results_rr rfl _ _ R1 R2 25 30 #[.int .i64 pc, .int .i64 x, .int .i64 (m 0), .int .i64 (m 1), .int .i64 (m 2), .int .i64 (m 3), .int .i64 (m 4), .int .i64 (m 5), .int .i64 (m 6), .int .i64 (m 7), .int .i64 (m 8), .int .i64 (m 9), .int .i64 (m 10), .int .i64 (m 11), .int .i64 (m 12), .int .i64 (m 13), .int .i64 (m 14), .int .i64 (m 15)] #[.bool false, .int .i64 (-1), .int .i64 (n : Int), .int .i64 0, .bool false] (0, 0) (0, 0) _ _ rfl H5.out Tryd.underlying25 rfl sizeVm rfl H6.out Tryd.underlying30 rfl sizeEf) rfl ?_
  exact ⟨rfl, HGF.out⟩

set_option maxRecDepth 100000 in
set_option maxHeartbeats 8000000 in
theorem does_11 (n : Nat) (pc acc : Int) (m : Nat → Int) (inn outs : Int) (gv : Value) (w : World) :
    Calls Tryd.prog 25 #[.agg #[.int .i64 11, .int .i64 (n : Int)], .agg #[.int .i64 pc, .int .i64 acc, .int .i64 (m 0), .int .i64 (m 1), .int .i64 (m 2), .int .i64 (m 3), .int .i64 (m 4), .int .i64 (m 5), .int .i64 (m 6), .int .i64 (m 7), .int .i64 (m 8), .int .i64 (m 9), .int .i64 (m 10), .int .i64 (m 11), .int .i64 (m 12), .int .i64 (m 13), .int .i64 (m 14), .int .i64 (m 15)], .int .i64 inn, .int .i64 outs, gv] w fun e w' => e = .returned (.tuple #[.agg #[.int .i64 0, .int .i64 acc, .int .i64 (m 0), .int .i64 (m 1), .int .i64 (m 2), .int .i64 (m 3), .int .i64 (m 4), .int .i64 (m 5), .int .i64 (m 6), .int .i64 (m 7), .int .i64 (m 8), .int .i64 (m 9), .int .i64 (m 10), .int .i64 (m 11), .int .i64 (m 12), .int .i64 (m 13), .int .i64 (m 14), .int .i64 (m 15)], .agg #[.bool false, .int .i64 (-1), .int .i64 (-1), .int .i64 0, .bool false]]) ∧ w.grownBy w' none := by
  go_enter Tryd.func25, Tryd.ntmps25
  go_upto_region 1 with fail
  obtain ⟨b1, b2, b3, b4, bg⟩ := four (w := w) (o1 := .cells #[.int .i64 (11 : Int), .int .i64 (n : Int)] 43) (o2 := .cells #[.int .i64 pc, .int .i64 acc, .int .i64 (m 0), .int .i64 (m 1), .int .i64 (m 2), .int .i64 (m 3), .int .i64 (m 4), .int .i64 (m 5), .int .i64 (m 6), .int .i64 (m 7), .int .i64 (m 8), .int .i64 (m 9), .int .i64 (m 10), .int .i64 (m 11), .int .i64 (m 12), .int .i64 (m 13), .int .i64 (m 14), .int .i64 (m 15)] 25) (o3 := .cells #[.int .i64 0, .int .i64 0, .int .i64 0, .int .i64 0, .int .i64 0, .int .i64 0, .int .i64 0, .int .i64 0, .int .i64 0, .int .i64 0, .int .i64 0, .int .i64 0, .int .i64 0, .int .i64 0, .int .i64 0, .int .i64 0, .int .i64 0, .int .i64 0] 25) (o4 := .cells #[.bool false, .int .i64 0, .int .i64 0, .int .i64 0, .bool false] 30)
  generalize hw1 : (((w.alloc (.cells #[.int .i64 (11 : Int), .int .i64 (n : Int)] 43)).alloc (.cells #[.int .i64 pc, .int .i64 acc, .int .i64 (m 0), .int .i64 (m 1), .int .i64 (m 2), .int .i64 (m 3), .int .i64 (m 4), .int .i64 (m 5), .int .i64 (m 6), .int .i64 (m 7), .int .i64 (m 8), .int .i64 (m 9), .int .i64 (m 10), .int .i64 (m 11), .int .i64 (m 12), .int .i64 (m 13), .int .i64 (m 14), .int .i64 (m 15)] 25)).alloc (.cells #[.int .i64 0, .int .i64 0, .int .i64 0, .int .i64 0, .int .i64 0, .int .i64 0, .int .i64 0, .int .i64 0, .int .i64 0, .int .i64 0, .int .i64 0, .int .i64 0, .int .i64 0, .int .i64 0, .int .i64 0, .int .i64 0, .int .i64 0, .int .i64 0] 25)).alloc (.cells #[.bool false, .int .i64 0, .int .i64 0, .int .i64 0, .bool false] 30) = w1 at *
  clear hw1
  have HL := hide (box_lt b4)
  obtain ⟨X, hX⟩ : ∃ X, X = w.heap.size := ⟨_, rfl⟩
  rw [← hX] at b1 b2 b3 b4 HL ⊢
  generalize hV : X + 1 = V at *
  generalize hR1 : V + 1 = R1 at *
  generalize hR2 : R1 + 1 = R2 at *
  have HO0 : Hid (w.heap.size ≤ X ∧ X < V ∧ V < R1 ∧ R1 < R2 ∧ R2 < w1.heap.size) := hide (by have := HL.out; omega)
  clear hR1 hR2 hV hX HL
  have HX := hide b1
  have HV := hide b2
  have H1 := hide b3
  have H2 := hide b4
  have HG := hide bg
  clear b1 b2 b3 b4 bg
  go_upto_region 2 with (first | ((with_reducible refine list_store 30 (.tmp 12) (.tmp 13) (w1.heap.size) #[.bool false, .int .i64 (-1), .int .i64 (-1), .int .i64 0, .bool false] 30 #[.bool false, .int .i64 0, .int .i64 0, .int .i64 0, .bool false] ?hx ?hy ?hg ?hi ?ho ?h1 ?_); (case hx => rfl); (case hy => rfl); (case hg => exact World.heap_alloc_new _ _); (case hi => exact sizeEf); (case ho => rfl); (case h1 => simp [Value.oneCell']); intro w2 h1 e1 g1; have hgN := grown_spoil (World.grownBy_alloc w1 _ none) (Nat.le_refl _) g1; have HF := hide h1; have HX := hide (box_grown HX.out hgN (by simp)); have HV := hide (box_grown HV.out hgN (by simp)); have H1 := hide (box_grown H1.out hgN (by simp)); have H2 := hide (box_grown H2.out hgN (by simp)); have HG := hide (grownBy_trans HG.out hgN); clear h1 e1 g1 hgN) | fail)
  have HO : Hid (w.heap.size ≤ X ∧ X < V ∧ V < R1 ∧ R1 < R2 ∧ R2 < w1.heap.size) := HO0
  generalize w1.heap.size = F at *
  clear HO0
  have x0 : w2.cell? ⟨X, 0, none⟩ = some (.int .i64 (11 : Int)) := blk_cell HX.out 0
  have b0 : w2.cell? ⟨V, 0, none⟩ = some (.int .i64 pc) := blk_cell HV.out 0
  have b1 := blk_free HV.out (0)
  have HXX : Hid ((w2.setCell ⟨V, 0, none⟩ (.int .i64 0)).heap[V]? = some (.cells #[.int .i64 0, .int .i64 acc, .int .i64 (m 0), .int .i64 (m 1), .int .i64 (m 2), .int .i64 (m 3), .int .i64 (m 4), .int .i64 (m 5), .int .i64 (m 6), .int .i64 (m 7), .int .i64 (m 8), .int .i64 (m 9), .int .i64 (m 10), .int .i64 (m 11), .int .i64 (m 12), .int .i64 (m 13), .int .i64 (m 14), .int .i64 (m 15)] 25 (0, 0))) := hide (blk_set HV.out (by rfl))
  have HX := hide ((heap_else w2 (0) (.int .i64 0) (show V ≠ X by have := HO.out; omega)).trans HX.out)
  have H1 := hide ((heap_else w2 (0) (.int .i64 0) (show V ≠ R1 by have := HO.out; omega)).trans H1.out)
  have H2 := hide ((heap_else w2 (0) (.int .i64 0) (show V ≠ R2 by have := HO.out; omega)).trans H2.out)
  have HF := hide ((heap_else w2 (0) (.int .i64 0) (show V ≠ F by have := HO.out; omega)).trans HF.out)
  have HG := hide (grown_set_new (R := V) (j := 0) (u := .int .i64 0) (by have := HO.out; omega) HG.out)
  go_upto_region 33 with (first | fail)
  generalize hwn : w2.setCell ⟨V, 0, none⟩ (.int .i64 0) = w3 at *
  clear hwn b0 b1 HV
  have HV := HXX
  clear HXX
  go_upto_region 33 with (first | fail)
  refine wp_region_held_drew (S := fun W => W.heap[V]? = some (.cells #[.int .i64 0, .int .i64 acc, .int .i64 (m 0), .int .i64 (m 1), .int .i64 (m 2), .int .i64 (m 3), .int .i64 (m 4), .int .i64 (m 5), .int .i64 (m 6), .int .i64 (m 7), .int .i64 (m 8), .int .i64 (m 9), .int .i64 (m 10), .int .i64 (m 11), .int .i64 (m 12), .int .i64 (m 13), .int .i64 (m 14), .int .i64 (m 15)] 25 (0, 0)) ∧ W.heap[F]? = some (.cells #[.bool false, .int .i64 (-1), .int .i64 (-1), .int .i64 0, .bool false] 30 (0, 0))) (by kernel_rfl) ⟨HV.out, HF.out⟩ (fun hHeld => ?_)
  refine take_put (i := 0) (v := .agg #[.int .i64 0, .int .i64 acc, .int .i64 (m 0), .int .i64 (m 1), .int .i64 (m 2), .int .i64 (m 3), .int .i64 (m 4), .int .i64 (m 5), .int .i64 (m 6), .int .i64 (m 7), .int .i64 (m 8), .int .i64 (m 9), .int .i64 (m 10), .int .i64 (m 11), .int .i64 (m 12), .int .i64 (m 13), .int .i64 (m 14), .int .i64 (m 15)]) 129 rfl rfl (by kernel_rfl) (by kernel_rfl) (by kernel_rfl) (fun _ _ _ h => h) (yieldsIf_load_mid (by rfl) 25 (.tmp 6) rfl V 0 rfl [.int .i64 0, .int .i64 acc, .int .i64 (m 0), .int .i64 (m 1), .int .i64 (m 2), .int .i64 (m 3), .int .i64 (m 4), .int .i64 (m 5), .int .i64 (m 6), .int .i64 (m 7), .int .i64 (m 8), .int .i64 (m 9), .int .i64 (m 10), .int .i64 (m 11), .int .i64 (m 12), .int .i64 (m 13), .int .i64 (m 14), .int .i64 (m 15)] _ (fun W h => range_of h.1) Tryd.underlying25 rfl sizeVm) (by assumption) ?_
  simp only [Act.put, List.setIfInBounds_toArray, List.set_cons_zero, List.set_cons_succ]
  refine take_put (i := 1) (v := .agg #[.bool false, .int .i64 (-1), .int .i64 (-1), .int .i64 0, .bool false]) 130 rfl rfl (by kernel_rfl) (by kernel_rfl) (by kernel_rfl) (fun _ _ _ h => h) (yieldsIf_load_mid (by rfl) 30 (.tmp 12) rfl F 0 rfl [.bool false, .int .i64 (-1), .int .i64 (-1), .int .i64 0, .bool false] _ (fun W h => range_of h.2) Tryd.underlying30 rfl sizeEf) (by assumption) ?_
  simp only [Act.put, List.setIfInBounds_toArray, List.set_cons_zero, List.set_cons_succ]
  refine wpAnyH_ready (rs := [2]) (by kernel_rfl) (by simp) ?_
  refine AllReadyH.cons rfl (fun K hK => ?_) AllReadyH.nil
  refine step_store 25 (.tmp 10) (.tmp 129) R1 #[.int .i64 0, .int .i64 acc, .int .i64 (m 0), .int .i64 (m 1), .int .i64 (m 2), .int .i64 (m 3), .int .i64 (m 4), .int .i64 (m 5), .int .i64 (m 6), .int .i64 (m 7), .int .i64 (m 8), .int .i64 (m 9), .int .i64 (m 10), .int .i64 (m 11), .int .i64 (m 12), .int .i64 (m 13), .int .i64 (m 14), .int .i64 (m 15)] 25 #[.int .i64 0, .int .i64 0, .int .i64 0, .int .i64 0, .int .i64 0, .int .i64 0, .int .i64 0, .int .i64 0, .int .i64 0, .int .i64 0, .int .i64 0, .int .i64 0, .int .i64 0, .int .i64 0, .int .i64 0, .int .i64 0, .int .i64 0, .int .i64 0] rfl rfl H1.out sizeVm rfl (by simp [Value.oneCell']) ?_
  intro w5 h5 e5 g5
  have HF5 := hide ((e5 F (by have := HO.out; omega)).trans HF.out)
  refine hK.out _ _ ⟨(e5 V (by have := HO.out; omega)).trans HV.out, HF5.out⟩ (fun hHeld => ?_)
  simp only [Act.put]
  refine wpAnyH_ready (rs := [3]) (by kernel_rfl) (by simp) ?_
  refine AllReadyH.cons rfl (fun K hK => ?_) AllReadyH.nil
  refine step_store 30 (.tmp 11) (.tmp 130) R2 #[.bool false, .int .i64 (-1), .int .i64 (-1), .int .i64 0, .bool false] 30 #[.bool false, .int .i64 0, .int .i64 0, .int .i64 0, .bool false] rfl rfl ((e5 R2 (by have := HO.out; omega)).trans H2.out) sizeEf rfl (by simp [Value.oneCell']) ?_
  intro w6 h6 e6 g6
  refine hK.out _ _ ⟨(e6 V (by have := HO.out; omega)).trans hHeld.1, (e6 F (by have := HO.out; omega)).trans HF5.out⟩ (fun hHeld2 => ?_)
  simp only [Act.put]
  refine wpAnyH_done (by kernel_rfl) ?_ _
  have H5 := hide ((e6 R1 (by have := HO.out; omega)).trans h5)
  have H6 := hide h6
  have HGF := hide (grown_spoil (grown_spoil (grownBy_trans HG.out (grownBy_draws _ 1 none)) (by have := HO.out; omega) g5) (by have := HO.out; omega) g6)
  clear h5 h6 e5 e6 g5 g6 hHeld hHeld2 hK
  go_wp2
  refine bodyPost_ret (results_rr rfl _ _ R1 R2 25 30 #[.int .i64 0, .int .i64 acc, .int .i64 (m 0), .int .i64 (m 1), .int .i64 (m 2), .int .i64 (m 3), .int .i64 (m 4), .int .i64 (m 5), .int .i64 (m 6), .int .i64 (m 7), .int .i64 (m 8), .int .i64 (m 9), .int .i64 (m 10), .int .i64 (m 11), .int .i64 (m 12), .int .i64 (m 13), .int .i64 (m 14), .int .i64 (m 15)] #[.bool false, .int .i64 (-1), .int .i64 (-1), .int .i64 0, .bool false] (0, 0) (0, 0) _ _ rfl H5.out Tryd.underlying25 rfl sizeVm rfl H6.out Tryd.underlying30 rfl sizeEf) rfl ?_
  exact ⟨rfl, HGF.out⟩

end Go.Proofs.YthdpdnibgmjdaaaDoor
