/- The walk of the statement StepJumps: where a program goes on; proved over the translation. -/
import Derived.Test.YthdpdnibgmjdaaaDoorJmath
namespace Go.Proofs.YthdpdnibgmjdaaaDoor
open Go.RowKit
attribute [local go_sem] alloc_drewN setCell_drewN

theorem conv_u (x : Int) : ∃ U : Nat, IntKind.u64.wrap x = (U : Int) ∧ U < 18446744073709551616 := ⟨(IntKind.u64.wrap x).toNat, by rw [IntKind.wrap_u64]; omega, by rw [IntKind.wrap_u64]; omega⟩

set_option maxRecDepth 100000 in
set_option maxHeartbeats 80000000 in
theorem stepJumps_any (x acc many : Int) (w : World) (hT : Tab w) :
    Calls Tryd.prog 7 #[.int .i64 x, .int .i64 acc, .int .i64 many] w fun e w' => e = .returned (.bool true) ∧ w.grownBy w' none := by
  obtain ⟨c, hc, hm⟩ := and4 many
  obtain ⟨U, hU, hU1⟩ := conv_u x
  obtain ⟨a8, h8⟩ : ∃ a, bits .and .i64 acc 255 = a := ⟨_, rfl⟩
  have h8' := and_low acc 8 (by decide) 255 (by decide)
  have ha0 : 0 ≤ a8 := by omega
  have ha1 : a8 < 4294967296 := by omega
  have h1' := bit_low acc
  obtain ⟨t, ht'⟩ : ∃ t, U % (2 + c) = t := ⟨_, rfl⟩
  have ht : t < 2 + c := by rw [← ht']; exact Nat.mod_lt _ (by omega)
  have hr : ((U : Int)).tmod (2 + (c : Int)) = (t : Int) := by
    rw [Int.tmod_eq_emod_of_nonneg (by omega), ← ht']; simp
  have hk1 : 2 + (c : Int) - 1 = 1 + (c : Int) := by omega
  have NUM := hide num_to
  have HT := hide (fun W (hg : w.grownBy W none) => hT.grown hg)
  have HT0 := hide hT
  have hmk := make_ins c hc
  clear hT h8' ht'
  go_enter Tryd.func7, Tryd.ntmps7
  go_wp2_with (first | fail)
  refine (awake_any w HT0.out).mono ?_; rintro e w1 ⟨rfl, hg⟩
  have HW1 := hide hg
  clear hg HT0
  go_upto_region 6 with fail
  have HB := hide (World.heap_alloc_new w1 (.cells (jC 0 0 0 c) 43))
  have HG := hide (grownBy_trans HW1.out (World.grownBy_alloc w1 (.cells (jC 0 0 0 c) 43) none))
  generalize hw2 : w1.alloc (.cells (jC 0 0 0 c) 43) = w2 at *
  have HPw := hide HW1.out.size
  generalize hP : w1.heap.size = P at *
  clear hw2 hP hmk
  obtain ⟨pj0, pj1, pj2⟩ := jC_at HB.out
  have pf0 := blk_free HB.out 0
  have pf1 := blk_free HB.out 1
  have HB3 := hide (jC_set1 (jC_set0 HB.out 6) (t : Int))
  have HG3 := hide (grown_set_new (R := P) (j := 1) (u := .int .i64 t) HPw.out (grown_set_new (R := P) (j := 0) (u := .int .i64 6) HPw.out HG.out))
  go_upto_region 7 with fail
  generalize hw3 : (w2.setCell ⟨P, 0, none⟩ (.int .i64 6)).setCell ⟨P, 1, none⟩ (.int .i64 t) = w3 at *
  clear hw3 pj0 pj1 pj2 pf0 pf1 HB HG HW1
  have HB := HB3
  have HG := HG3
  clear HB3 HG3
  rcases (show acc % 2 = 0 ∨ acc % 2 = 1 by omega) with h2 | h2
  · rw [h2] at h1'
    clear h2
    have C1 : Hid (∀ W, w.grownBy W none → W.heap[P]? = some (.cells (jC 6 t 0 c) 43 (0, 0)) → Calls Tryd.prog 11 #[.slice (some ⟨P, 0, none⟩) (2 + c) (2 + c), .agg #[.int .i64 0, .int .i64 a8, .int .i64 0, .int .i64 0, .int .i64 0, .int .i64 0, .int .i64 0, .int .i64 0, .int .i64 0, .int .i64 0, .int .i64 0, .int .i64 0, .int .i64 0, .int .i64 0, .int .i64 0, .int .i64 0, .int .i64 0, .int .i64 0], .int .i64 0, .int .i64 0, .slice none 0 0] W fun e w' => e = .returned (.tuple #[.agg #[.int .i64 (t : Int), .int .i64 a8, .int .i64 0, .int .i64 0, .int .i64 0, .int .i64 0, .int .i64 0, .int .i64 0, .int .i64 0, .int .i64 0, .int .i64 0, .int .i64 0, .int .i64 0, .int .i64 0, .int .i64 0, .int .i64 0, .int .i64 0, .int .i64 0], .agg #[.bool false, .int .i64 (-1), .int .i64 (-1), .int .i64 0, .bool false], .int .i64 0]) ∧ W.grownBy w' none) := hide (fun W hg hb => by
      have hr := rowAt_blk (S := shI) hb (by rw [jP_len]; omega)
      rw [jP_len] at hr
      exact step_at (lo := 0) (.slice (some ⟨P, 0, none⟩) (2 + c) (2 + c)) (jP 6 t 0 c) ⟨0, a8, fun _ => 0⟩ 0 0 (.slice none 0 0) [] (j_step1 ht hc ha0 ha1) W (by rw [jP_len]; omega) (HT.out W hg) (preads_row hr) (rowAt_nil _ _ _ _))
    have C2 : Hid (∀ W, w.grownBy W none → W.heap[P]? = some (.cells (jC 7 t 0 c) 43 (0, 0)) → Calls Tryd.prog 11 #[.slice (some ⟨P, 0, none⟩) (2 + c) (2 + c), .agg #[.int .i64 0, .int .i64 0, .int .i64 0, .int .i64 0, .int .i64 0, .int .i64 0, .int .i64 0, .int .i64 0, .int .i64 0, .int .i64 0, .int .i64 0, .int .i64 0, .int .i64 0, .int .i64 0, .int .i64 0, .int .i64 0, .int .i64 0, .int .i64 0], .int .i64 0, .int .i64 0, .slice none 0 0] W fun e w' => e = .returned (.tuple #[.agg #[.int .i64 (t : Int), .int .i64 0, .int .i64 0, .int .i64 0, .int .i64 0, .int .i64 0, .int .i64 0, .int .i64 0, .int .i64 0, .int .i64 0, .int .i64 0, .int .i64 0, .int .i64 0, .int .i64 0, .int .i64 0, .int .i64 0, .int .i64 0, .int .i64 0], .agg #[.bool false, .int .i64 (-1), .int .i64 (-1), .int .i64 0, .bool false], .int .i64 0]) ∧ W.grownBy w' none) := hide (fun W hg hb => by
      have hr := rowAt_blk (S := shI) hb (by rw [jP_len]; omega)
      rw [jP_len] at hr
      exact step_at (lo := 0) (.slice (some ⟨P, 0, none⟩) (2 + c) (2 + c)) (jP 7 t 0 c) ⟨0, 0, fun _ => 0⟩ 0 0 (.slice none 0 0) [] (j_step2 ht hc) W (by rw [jP_len]; omega) (HT.out W hg) (preads_row hr) (rowAt_nil _ _ _ _))
    have C3 : Hid (∀ W, w.grownBy W none → W.heap[P]? = some (.cells (jC 7 t 0 c) 43 (0, 0)) → Calls Tryd.prog 11 #[.slice (some ⟨P, 0, none⟩) (2 + c) (2 + c), .agg #[.int .i64 (1 + (c : Int)), .int .i64 3, .int .i64 0, .int .i64 0, .int .i64 0, .int .i64 0, .int .i64 0, .int .i64 0, .int .i64 0, .int .i64 0, .int .i64 0, .int .i64 0, .int .i64 0, .int .i64 0, .int .i64 0, .int .i64 0, .int .i64 0, .int .i64 0], .int .i64 0, .int .i64 0, .slice none 0 0] W fun e w' => e = .returned (.tuple #[.agg #[.int .i64 0, .int .i64 3, .int .i64 0, .int .i64 0, .int .i64 0, .int .i64 0, .int .i64 0, .int .i64 0, .int .i64 0, .int .i64 0, .int .i64 0, .int .i64 0, .int .i64 0, .int .i64 0, .int .i64 0, .int .i64 0, .int .i64 0, .int .i64 0], .agg #[.bool false, .int .i64 (-1), .int .i64 (-1), .int .i64 0, .bool false], .int .i64 0]) ∧ W.grownBy w' none) := hide (fun W hg hb => by
      have hr := rowAt_blk (S := shI) hb (by rw [jP_len]; omega)
      rw [jP_len] at hr
      exact step_at (lo := 0) (.slice (some ⟨P, 0, none⟩) (2 + c) (2 + c)) (jP 7 t 0 c) ⟨1 + (c : Int), 3, fun _ => 0⟩ 0 0 (.slice none 0 0) [] (j_step4b ht hc) W (by rw [jP_len]; omega) (HT.out W hg) (preads_row hr) (rowAt_nil _ _ _ _))
    have C4 : Hid (∀ W, w.grownBy W none → W.heap[P]? = some (.cells (jC 7 t 11 c) 43 (0, 0)) → Calls Tryd.prog 11 #[.slice (some ⟨P, 0, none⟩) (2 + c) (2 + c), .agg #[.int .i64 1, .int .i64 4, .int .i64 0, .int .i64 0, .int .i64 0, .int .i64 0, .int .i64 0, .int .i64 0, .int .i64 0, .int .i64 0, .int .i64 0, .int .i64 0, .int .i64 0, .int .i64 0, .int .i64 0, .int .i64 0, .int .i64 0, .int .i64 0], .int .i64 0, .int .i64 0, .slice none 0 0] W fun e w' => e = .returned (.tuple #[.agg #[.int .i64 0, .int .i64 4, .int .i64 0, .int .i64 0, .int .i64 0, .int .i64 0, .int .i64 0, .int .i64 0, .int .i64 0, .int .i64 0, .int .i64 0, .int .i64 0, .int .i64 0, .int .i64 0, .int .i64 0, .int .i64 0, .int .i64 0, .int .i64 0], .agg #[.bool false, .int .i64 (-1), .int .i64 (-1), .int .i64 0, .bool false], .int .i64 0]) ∧ W.grownBy w' none) := hide (fun W hg hb => by
      have hr := rowAt_blk (S := shI) hb (by rw [jP_len]; omega)
      rw [jP_len] at hr
      exact step_at (lo := 0) (.slice (some ⟨P, 0, none⟩) (2 + c) (2 + c)) (jP 7 t 11 c) ⟨1, 4, fun _ => 0⟩ 0 0 (.slice none 0 0) [] (j_step5 ht hc) W (by rw [jP_len]; omega) (HT.out W hg) (preads_row hr) (rowAt_nil _ _ _ _))
    go_wp2_with (first | fail)
    refine (C1.out _ HG.out HB.out).mono ?_; rintro e w4 ⟨rfl, hg⟩
    have HB := hide (box_grown HB.out hg (by simp))
    have HG := hide (grownBy_trans HG.out hg)
    have HPw4 := hide (box_lt HB.out)
    clear hg C1
    go_upto_region 8 with (first | ((with_reducible refine list_store 25 (.tmp 10) (.tmp 48) (w4.heap.size) #[.int .i64 (t : Int), .int .i64 a8, .int .i64 0, .int .i64 0, .int .i64 0, .int .i64 0, .int .i64 0, .int .i64 0, .int .i64 0, .int .i64 0, .int .i64 0, .int .i64 0, .int .i64 0, .int .i64 0, .int .i64 0, .int .i64 0, .int .i64 0, .int .i64 0] 25 #[.int .i64 0, .int .i64 0, .int .i64 0, .int .i64 0, .int .i64 0, .int .i64 0, .int .i64 0, .int .i64 0, .int .i64 0, .int .i64 0, .int .i64 0, .int .i64 0, .int .i64 0, .int .i64 0, .int .i64 0, .int .i64 0, .int .i64 0, .int .i64 0] ?hx ?hy ?hg ?hi ?ho ?h1 ?_); (case hx => rfl); (case hy => rfl); (case hg => exact box_grown (World.heap_alloc_new _ _) (World.grownBy_alloc _ _ none) (by simp)); (case hi => exact sizeVm); (case ho => rfl); (case h1 => simp [Value.oneCell']); intro w5a h1 e1 g1; have HA := hide h1; have HE := hide ((e1 (w4.heap.size + 1) (by omega)).trans (alloc_next _ _ _)); have HN := hide (grown_spoil (grownBy_trans (World.grownBy_alloc w4 _ none) (World.grownBy_alloc _ _ none)) (Nat.le_refl _) g1); clear h1 e1 g1) | ((with_reducible refine list_store 30 (.tmp 11) (.tmp 49) (w4.heap.size + 1) #[.bool false, .int .i64 (-1), .int .i64 (-1), .int .i64 0, .bool false] 30 #[.bool false, .int .i64 0, .int .i64 0, .int .i64 0, .bool false] ?hx ?hy ?hg ?hi ?ho ?h1 ?_); (case hx => rfl); (case hy => rfl); (case hg => exact HE.out); (case hi => exact sizeEf); (case ho => rfl); (case h1 => simp [Value.oneCell']); intro w5 h1 e1 g1; have Hav := hide ((e1 (w4.heap.size) (by omega)).trans HA.out); have Hae := hide h1; have hgN := grown_spoil HN.out (Nat.le_succ _) g1; have HB := hide (box_grown HB.out hgN (by simp)); have HG := hide (grownBy_trans HG.out hgN); clear h1 e1 g1 hgN HA HE HN) | fail)
    obtain ⟨pj0, pj1, pj2⟩ := jC_at HB.out
    have pf0 := blk_free HB.out 0
    have pf2 := blk_free HB.out 2
    have HBn := hide (jC_set0 HB.out 7)
    have Hav := hide ((heap_else w5 0 (.int .i64 7) (show P ≠ w4.heap.size by have := HPw4.out; omega)).trans Hav.out)
    have Hae := hide ((heap_else w5 0 (.int .i64 7) (show P ≠ w4.heap.size + 1 by have := HPw4.out; omega)).trans Hae.out)
    have HG := hide (grown_set_new (R := P) (j := 0) (u := .int .i64 7) HPw.out HG.out)
    go_upto_region 9 with fail
    generalize hwn : w5.setCell ⟨P, 0, none⟩ (.int .i64 7) = w6 at *
    clear hwn pj0 pj1 pj2 pf0 pf2 HB
    have HB := HBn
    clear HBn
    go_wp2_with (first | fail)
    refine (C2.out _ HG.out HB.out).mono ?_; rintro e w7 ⟨rfl, hg⟩
    have HB := hide (box_grown HB.out hg (by simp))
    have Hav := hide (box_grown Hav.out hg (by simp))
    have Hae := hide (box_grown Hae.out hg (by simp))
    have HG := hide (grownBy_trans HG.out hg)
    have HPw7 := hide (box_lt HB.out)
    clear hg C2
    go_wp2_with (first | ((with_reducible refine list_store 25 (.tmp 13) (.tmp 60) (w7.heap.size) #[.int .i64 (t : Int), .int .i64 0, .int .i64 0, .int .i64 0, .int .i64 0, .int .i64 0, .int .i64 0, .int .i64 0, .int .i64 0, .int .i64 0, .int .i64 0, .int .i64 0, .int .i64 0, .int .i64 0, .int .i64 0, .int .i64 0, .int .i64 0, .int .i64 0] 25 #[.int .i64 0, .int .i64 0, .int .i64 0, .int .i64 0, .int .i64 0, .int .i64 0, .int .i64 0, .int .i64 0, .int .i64 0, .int .i64 0, .int .i64 0, .int .i64 0, .int .i64 0, .int .i64 0, .int .i64 0, .int .i64 0, .int .i64 0, .int .i64 0] ?hx ?hy ?hg ?hi ?ho ?h1 ?_); (case hx => rfl); (case hy => rfl); (case hg => exact box_grown (World.heap_alloc_new _ _) (World.grownBy_alloc _ _ none) (by simp)); (case hi => exact sizeVm); (case ho => rfl); (case h1 => simp [Value.oneCell']); intro w8a h1 e1 g1; have HA := hide h1; have HE := hide ((e1 (w7.heap.size + 1) (by omega)).trans (alloc_next _ _ _)); have HN := hide (grown_spoil (grownBy_trans (World.grownBy_alloc w7 _ none) (World.grownBy_alloc _ _ none)) (Nat.le_refl _) g1); clear h1 e1 g1) | ((with_reducible refine list_store 30 (.tmp 14) (.tmp 61) (w7.heap.size + 1) #[.bool false, .int .i64 (-1), .int .i64 (-1), .int .i64 0, .bool false] 30 #[.bool false, .int .i64 0, .int .i64 0, .int .i64 0, .bool false] ?hx ?hy ?hg ?hi ?ho ?h1 ?_); (case hx => rfl); (case hy => rfl); (case hg => exact HE.out); (case hi => exact sizeEf); (case ho => rfl); (case h1 => simp [Value.oneCell']); intro w8 h1 e1 g1; have Hbv := hide ((e1 (w7.heap.size) (by omega)).trans HA.out); have Hbe := hide h1; have hgN := grown_spoil HN.out (Nat.le_succ _) g1; have Hav := hide (box_grown Hav.out hgN (by simp)); have Hae := hide (box_grown Hae.out hgN (by simp)); have HB := hide (box_grown HB.out hgN (by simp)); have HG := hide (grownBy_trans HG.out hgN); clear h1 e1 g1 hgN HA HE HN) | fail)
    refine (C3.out _ HG.out HB.out).mono ?_; rintro e w9 ⟨rfl, hg⟩
    have HB := hide (box_grown HB.out hg (by simp))
    have Hav := hide (box_grown Hav.out hg (by simp))
    have Hae := hide (box_grown Hae.out hg (by simp))
    have Hbv := hide (box_grown Hbv.out hg (by simp))
    have Hbe := hide (box_grown Hbe.out hg (by simp))
    have HG := hide (grownBy_trans HG.out hg)
    have HPw9 := hide (box_lt HB.out)
    clear hg C3
    go_upto_region 11 with (first | ((with_reducible refine list_store 25 (.tmp 16) (.tmp 69) (w9.heap.size) #[.int .i64 0, .int .i64 3, .int .i64 0, .int .i64 0, .int .i64 0, .int .i64 0, .int .i64 0, .int .i64 0, .int .i64 0, .int .i64 0, .int .i64 0, .int .i64 0, .int .i64 0, .int .i64 0, .int .i64 0, .int .i64 0, .int .i64 0, .int .i64 0] 25 #[.int .i64 0, .int .i64 0, .int .i64 0, .int .i64 0, .int .i64 0, .int .i64 0, .int .i64 0, .int .i64 0, .int .i64 0, .int .i64 0, .int .i64 0, .int .i64 0, .int .i64 0, .int .i64 0, .int .i64 0, .int .i64 0, .int .i64 0, .int .i64 0] ?hx ?hy ?hg ?hi ?ho ?h1 ?_); (case hx => rfl); (case hy => rfl); (case hg => exact box_grown (World.heap_alloc_new _ _) (World.grownBy_alloc _ _ none) (by simp)); (case hi => exact sizeVm); (case ho => rfl); (case h1 => simp [Value.oneCell']); intro w10a h1 e1 g1; have HA := hide h1; have HE := hide ((e1 (w9.heap.size + 1) (by omega)).trans (alloc_next _ _ _)); have HN := hide (grown_spoil (grownBy_trans (World.grownBy_alloc w9 _ none) (World.grownBy_alloc _ _ none)) (Nat.le_refl _) g1); clear h1 e1 g1) | ((with_reducible refine list_store 30 (.tmp 17) (.tmp 70) (w9.heap.size + 1) #[.bool false, .int .i64 (-1), .int .i64 (-1), .int .i64 0, .bool false] 30 #[.bool false, .int .i64 0, .int .i64 0, .int .i64 0, .bool false] ?hx ?hy ?hg ?hi ?ho ?h1 ?_); (case hx => rfl); (case hy => rfl); (case hg => exact HE.out); (case hi => exact sizeEf); (case ho => rfl); (case h1 => simp [Value.oneCell']); intro w10 h1 e1 g1; have Hcv := hide ((e1 (w9.heap.size) (by omega)).trans HA.out); have Hce := hide h1; have hgN := grown_spoil HN.out (Nat.le_succ _) g1; have Hav := hide (box_grown Hav.out hgN (by simp)); have Hae := hide (box_grown Hae.out hgN (by simp)); have Hbv := hide (box_grown Hbv.out hgN (by simp)); have Hbe := hide (box_grown Hbe.out hgN (by simp)); have HB := hide (box_grown HB.out hgN (by simp)); have HG := hide (grownBy_trans HG.out hgN); clear h1 e1 g1 hgN HA HE HN) | fail)
    obtain ⟨pj0, pj1, pj2⟩ := jC_at HB.out
    have pf0 := blk_free HB.out 0
    have pf2 := blk_free HB.out 2
    have HBn := hide (jC_set2 HB.out 11)
    have Hav := hide ((heap_else w10 2 (.int .i64 11) (show P ≠ w4.heap.size by have := HPw4.out; omega)).trans Hav.out)
    have Hae := hide ((heap_else w10 2 (.int .i64 11) (show P ≠ w4.heap.size + 1 by have := HPw4.out; omega)).trans Hae.out)
    have Hbv := hide ((heap_else w10 2 (.int .i64 11) (show P ≠ w7.heap.size by have := HPw7.out; omega)).trans Hbv.out)
    have Hbe := hide ((heap_else w10 2 (.int .i64 11) (show P ≠ w7.heap.size + 1 by have := HPw7.out; omega)).trans Hbe.out)
    have Hcv := hide ((heap_else w10 2 (.int .i64 11) (show P ≠ w9.heap.size by have := HPw9.out; omega)).trans Hcv.out)
    have Hce := hide ((heap_else w10 2 (.int .i64 11) (show P ≠ w9.heap.size + 1 by have := HPw9.out; omega)).trans Hce.out)
    have HG := hide (grown_set_new (R := P) (j := 2) (u := .int .i64 11) HPw.out HG.out)
    go_upto_region 12 with fail
    generalize hwn : w10.setCell ⟨P, 2, none⟩ (.int .i64 11) = w11 at *
    clear hwn pj0 pj1 pj2 pf0 pf2 HB
    have HB := HBn
    clear HBn
    go_wp2_with (first | fail)
    refine (C4.out _ HG.out HB.out).mono ?_; rintro e w12 ⟨rfl, hg⟩
    have HB := hide (box_grown HB.out hg (by simp))
    have Hav := hide (box_grown Hav.out hg (by simp))
    have Hae := hide (box_grown Hae.out hg (by simp))
    have Hbv := hide (box_grown Hbv.out hg (by simp))
    have Hbe := hide (box_grown Hbe.out hg (by simp))
    have Hcv := hide (box_grown Hcv.out hg (by simp))
    have Hce := hide (box_grown Hce.out hg (by simp))
    have HG := hide (grownBy_trans HG.out hg)
    have HPw12 := hide (box_lt HB.out)
    clear hg C4
    go_upto_region 13 with (first | ((with_reducible refine list_store 25 (.tmp 19) (.tmp 79) (w12.heap.size) #[.int .i64 0, .int .i64 4, .int .i64 0, .int .i64 0, .int .i64 0, .int .i64 0, .int .i64 0, .int .i64 0, .int .i64 0, .int .i64 0, .int .i64 0, .int .i64 0, .int .i64 0, .int .i64 0, .int .i64 0, .int .i64 0, .int .i64 0, .int .i64 0] 25 #[.int .i64 0, .int .i64 0, .int .i64 0, .int .i64 0, .int .i64 0, .int .i64 0, .int .i64 0, .int .i64 0, .int .i64 0, .int .i64 0, .int .i64 0, .int .i64 0, .int .i64 0, .int .i64 0, .int .i64 0, .int .i64 0, .int .i64 0, .int .i64 0] ?hx ?hy ?hg ?hi ?ho ?h1 ?_); (case hx => rfl); (case hy => rfl); (case hg => exact box_grown (World.heap_alloc_new _ _) (World.grownBy_alloc _ _ none) (by simp)); (case hi => exact sizeVm); (case ho => rfl); (case h1 => simp [Value.oneCell']); intro w13a h1 e1 g1; have HA := hide h1; have HE := hide ((e1 (w12.heap.size + 1) (by omega)).trans (alloc_next _ _ _)); have HN := hide (grown_spoil (grownBy_trans (World.grownBy_alloc w12 _ none) (World.grownBy_alloc _ _ none)) (Nat.le_refl _) g1); clear h1 e1 g1) | ((with_reducible refine list_store 30 (.tmp 20) (.tmp 80) (w12.heap.size + 1) #[.bool false, .int .i64 (-1), .int .i64 (-1), .int .i64 0, .bool false] 30 #[.bool false, .int .i64 0, .int .i64 0, .int .i64 0, .bool false] ?hx ?hy ?hg ?hi ?ho ?h1 ?_); (case hx => rfl); (case hy => rfl); (case hg => exact HE.out); (case hi => exact sizeEf); (case ho => rfl); (case h1 => simp [Value.oneCell']); intro w13 h1 e1 g1; have Hdv := hide ((e1 (w12.heap.size) (by omega)).trans HA.out); have Hde := hide h1; have hgN := grown_spoil HN.out (Nat.le_succ _) g1; have Hav := hide (box_grown Hav.out hgN (by simp)); have Hae := hide (box_grown Hae.out hgN (by simp)); have Hbv := hide (box_grown Hbv.out hgN (by simp)); have Hbe := hide (box_grown Hbe.out hgN (by simp)); have Hcv := hide (box_grown Hcv.out hgN (by simp)); have Hce := hide (box_grown Hce.out hgN (by simp)); have HB := hide (box_grown HB.out hgN (by simp)); have HG := hide (grownBy_trans HG.out hgN); clear h1 e1 g1 hgN HA HE HN) | fail)
    go_upto_region 14 with (first | ((with_reducible refine list_store 30 (.tmp 22) (.tmp 82) (w13.heap.size) #[.bool false, .int .i64 (-1), .int .i64 (-1), .int .i64 0, .bool false] 30 #[.bool false, .int .i64 0, .int .i64 0, .int .i64 0, .bool false] ?hx ?hy ?hg ?hi ?ho ?h1 ?_); (case hx => rfl); (case hy => rfl); (case hg => exact World.heap_alloc_new _ _); (case hi => exact sizeEf); (case ho => rfl); (case h1 => simp [Value.oneCell']); intro wz h1 e1 g1; have Hz := hide h1; have hgN := grown_spoil (World.grownBy_alloc w13 _ none) (Nat.le_refl _) g1; have Hav := hide (box_grown Hav.out hgN (by simp)); have Hae := hide (box_grown Hae.out hgN (by simp)); have Hbv := hide (box_grown Hbv.out hgN (by simp)); have Hbe := hide (box_grown Hbe.out hgN (by simp)); have Hcv := hide (box_grown Hcv.out hgN (by simp)); have Hce := hide (box_grown Hce.out hgN (by simp)); have Hdv := hide (box_grown Hdv.out hgN (by simp)); have Hde := hide (box_grown Hde.out hgN (by simp)); have HG := hide (grownBy_trans HG.out hgN); clear h1 e1 g1 hgN HB) | fail)
    have hARR := arr_self
    have kb : wz.cell? ⟨w7.heap.size, 0, none⟩ = some (.int .i64 (t : Int)) := blk_cell Hbv.out 0
    have y0_0 : wz.cell? ⟨w4.heap.size + 1, 0, none⟩ = some (.bool false) := blk_cell Hae.out 0
    have y0_1 : wz.cell? ⟨w4.heap.size + 1, 1, none⟩ = some (.int .i64 (-1)) := blk_cell Hae.out 1
    have y0_2 : wz.cell? ⟨w4.heap.size + 1, 2, none⟩ = some (.int .i64 (-1)) := blk_cell Hae.out 2
    have y0_3 : wz.cell? ⟨w4.heap.size + 1, 3, none⟩ = some (.int .i64 0) := blk_cell Hae.out 3
    have y0_4 : wz.cell? ⟨w4.heap.size + 1, 4, none⟩ = some (.bool false) := blk_cell Hae.out 4
    have y1_0 : wz.cell? ⟨w7.heap.size + 1, 0, none⟩ = some (.bool false) := blk_cell Hbe.out 0
    have y1_1 : wz.cell? ⟨w7.heap.size + 1, 1, none⟩ = some (.int .i64 (-1)) := blk_cell Hbe.out 1
    have y1_2 : wz.cell? ⟨w7.heap.size + 1, 2, none⟩ = some (.int .i64 (-1)) := blk_cell Hbe.out 2
    have y1_3 : wz.cell? ⟨w7.heap.size + 1, 3, none⟩ = some (.int .i64 0) := blk_cell Hbe.out 3
    have y1_4 : wz.cell? ⟨w7.heap.size + 1, 4, none⟩ = some (.bool false) := blk_cell Hbe.out 4
    have y2_0 : wz.cell? ⟨w9.heap.size + 1, 0, none⟩ = some (.bool false) := blk_cell Hce.out 0
    have y2_1 : wz.cell? ⟨w9.heap.size + 1, 1, none⟩ = some (.int .i64 (-1)) := blk_cell Hce.out 1
    have y2_2 : wz.cell? ⟨w9.heap.size + 1, 2, none⟩ = some (.int .i64 (-1)) := blk_cell Hce.out 2
    have y2_3 : wz.cell? ⟨w9.heap.size + 1, 3, none⟩ = some (.int .i64 0) := blk_cell Hce.out 3
    have y2_4 : wz.cell? ⟨w9.heap.size + 1, 4, none⟩ = some (.bool false) := blk_cell Hce.out 4
    have y3_0 : wz.cell? ⟨w12.heap.size + 1, 0, none⟩ = some (.bool false) := blk_cell Hde.out 0
    have y3_1 : wz.cell? ⟨w12.heap.size + 1, 1, none⟩ = some (.int .i64 (-1)) := blk_cell Hde.out 1
    have y3_2 : wz.cell? ⟨w12.heap.size + 1, 2, none⟩ = some (.int .i64 (-1)) := blk_cell Hde.out 2
    have y3_3 : wz.cell? ⟨w12.heap.size + 1, 3, none⟩ = some (.int .i64 0) := blk_cell Hde.out 3
    have y3_4 : wz.cell? ⟨w12.heap.size + 1, 4, none⟩ = some (.bool false) := blk_cell Hde.out 4
    have y9_0 : wz.cell? ⟨w13.heap.size, 0, none⟩ = some (.bool false) := blk_cell Hz.out 0
    have y9_1 : wz.cell? ⟨w13.heap.size, 1, none⟩ = some (.int .i64 (-1)) := blk_cell Hz.out 1
    have y9_2 : wz.cell? ⟨w13.heap.size, 2, none⟩ = some (.int .i64 (-1)) := blk_cell Hz.out 2
    have y9_3 : wz.cell? ⟨w13.heap.size, 3, none⟩ = some (.int .i64 0) := blk_cell Hz.out 3
    have y9_4 : wz.cell? ⟨w13.heap.size, 4, none⟩ = some (.bool false) := blk_cell Hz.out 4
    go_wp2_with (first | (go_at_call 13; refine (NUM.out _ _).mono ?_; rintro e wn ⟨rfl, rfl⟩) | ((with_reducible refine list_load 25 (.tmp 10) (w4.heap.size) 25 #[.int .i64 (t : Int), .int .i64 a8, .int .i64 0, .int .i64 0, .int .i64 0, .int .i64 0, .int .i64 0, .int .i64 0, .int .i64 0, .int .i64 0, .int .i64 0, .int .i64 0, .int .i64 0, .int .i64 0, .int .i64 0, .int .i64 0, .int .i64 0, .int .i64 0] (0, 0) _ ?hw ?hx ?hg Tryd.underlying25 ?hd ?hi ?_); (case hw => kernel_rfl); (case hx => rfl); (case hg => exact Hav.out); (case hd => rfl); (case hi => exact sizeVm)) | ((with_reducible refine list_load 25 (.tmp 16) (w9.heap.size) 25 #[.int .i64 0, .int .i64 3, .int .i64 0, .int .i64 0, .int .i64 0, .int .i64 0, .int .i64 0, .int .i64 0, .int .i64 0, .int .i64 0, .int .i64 0, .int .i64 0, .int .i64 0, .int .i64 0, .int .i64 0, .int .i64 0, .int .i64 0, .int .i64 0] (0, 0) _ ?hw ?hx ?hg Tryd.underlying25 ?hd ?hi ?_); (case hw => kernel_rfl); (case hx => rfl); (case hg => exact Hcv.out); (case hd => rfl); (case hi => exact sizeVm)) | ((with_reducible refine list_load 25 (.tmp 19) (w12.heap.size) 25 #[.int .i64 0, .int .i64 4, .int .i64 0, .int .i64 0, .int .i64 0, .int .i64 0, .int .i64 0, .int .i64 0, .int .i64 0, .int .i64 0, .int .i64 0, .int .i64 0, .int .i64 0, .int .i64 0, .int .i64 0, .int .i64 0, .int .i64 0, .int .i64 0] (0, 0) _ ?hw ?hx ?hg Tryd.underlying25 ?hd ?hi ?_); (case hw => kernel_rfl); (case hx => rfl); (case hg => exact Hdv.out); (case hd => rfl); (case hi => exact sizeVm)) | fail)
    go_ret
    exact ⟨by first | rfl | simp, HG.out⟩
  · rw [h2] at h1'
    clear h2
    have C1 : Hid (∀ W, w.grownBy W none → W.heap[P]? = some (.cells (jC 6 t 0 c) 43 (0, 0)) → Calls Tryd.prog 11 #[.slice (some ⟨P, 0, none⟩) (2 + c) (2 + c), .agg #[.int .i64 0, .int .i64 a8, .int .i64 0, .int .i64 0, .int .i64 0, .int .i64 0, .int .i64 0, .int .i64 0, .int .i64 0, .int .i64 0, .int .i64 0, .int .i64 0, .int .i64 0, .int .i64 0, .int .i64 0, .int .i64 0, .int .i64 0, .int .i64 0], .int .i64 0, .int .i64 0, .slice none 0 0] W fun e w' => e = .returned (.tuple #[.agg #[.int .i64 (t : Int), .int .i64 a8, .int .i64 0, .int .i64 0, .int .i64 0, .int .i64 0, .int .i64 0, .int .i64 0, .int .i64 0, .int .i64 0, .int .i64 0, .int .i64 0, .int .i64 0, .int .i64 0, .int .i64 0, .int .i64 0, .int .i64 0, .int .i64 0], .agg #[.bool false, .int .i64 (-1), .int .i64 (-1), .int .i64 0, .bool false], .int .i64 0]) ∧ W.grownBy w' none) := hide (fun W hg hb => by
      have hr := rowAt_blk (S := shI) hb (by rw [jP_len]; omega)
      rw [jP_len] at hr
      exact step_at (lo := 0) (.slice (some ⟨P, 0, none⟩) (2 + c) (2 + c)) (jP 6 t 0 c) ⟨0, a8, fun _ => 0⟩ 0 0 (.slice none 0 0) [] (j_step1 ht hc ha0 ha1) W (by rw [jP_len]; omega) (HT.out W hg) (preads_row hr) (rowAt_nil _ _ _ _))
    have C2 : Hid (∀ W, w.grownBy W none → W.heap[P]? = some (.cells (jC 7 t 0 c) 43 (0, 0)) → Calls Tryd.prog 11 #[.slice (some ⟨P, 0, none⟩) (2 + c) (2 + c), .agg #[.int .i64 0, .int .i64 1, .int .i64 0, .int .i64 0, .int .i64 0, .int .i64 0, .int .i64 0, .int .i64 0, .int .i64 0, .int .i64 0, .int .i64 0, .int .i64 0, .int .i64 0, .int .i64 0, .int .i64 0, .int .i64 0, .int .i64 0, .int .i64 0], .int .i64 0, .int .i64 0, .slice none 0 0] W fun e w' => e = .returned (.tuple #[.agg #[.int .i64 1, .int .i64 1, .int .i64 0, .int .i64 0, .int .i64 0, .int .i64 0, .int .i64 0, .int .i64 0, .int .i64 0, .int .i64 0, .int .i64 0, .int .i64 0, .int .i64 0, .int .i64 0, .int .i64 0, .int .i64 0, .int .i64 0, .int .i64 0], .agg #[.bool false, .int .i64 (-1), .int .i64 (-1), .int .i64 0, .bool false], .int .i64 0]) ∧ W.grownBy w' none) := hide (fun W hg hb => by
      have hr := rowAt_blk (S := shI) hb (by rw [jP_len]; omega)
      rw [jP_len] at hr
      exact step_at (lo := 0) (.slice (some ⟨P, 0, none⟩) (2 + c) (2 + c)) (jP 7 t 0 c) ⟨0, 1, fun _ => 0⟩ 0 0 (.slice none 0 0) [] (j_step3 ht hc) W (by rw [jP_len]; omega) (HT.out W hg) (preads_row hr) (rowAt_nil _ _ _ _))
    have C3 : Hid (∀ W, w.grownBy W none → W.heap[P]? = some (.cells (jC 7 t 0 c) 43 (0, 0)) → Calls Tryd.prog 11 #[.slice (some ⟨P, 0, none⟩) (2 + c) (2 + c), .agg #[.int .i64 (1 + (c : Int)), .int .i64 3, .int .i64 0, .int .i64 0, .int .i64 0, .int .i64 0, .int .i64 0, .int .i64 0, .int .i64 0, .int .i64 0, .int .i64 0, .int .i64 0, .int .i64 0, .int .i64 0, .int .i64 0, .int .i64 0, .int .i64 0, .int .i64 0], .int .i64 0, .int .i64 0, .slice none 0 0] W fun e w' => e = .returned (.tuple #[.agg #[.int .i64 0, .int .i64 3, .int .i64 0, .int .i64 0, .int .i64 0, .int .i64 0, .int .i64 0, .int .i64 0, .int .i64 0, .int .i64 0, .int .i64 0, .int .i64 0, .int .i64 0, .int .i64 0, .int .i64 0, .int .i64 0, .int .i64 0, .int .i64 0], .agg #[.bool false, .int .i64 (-1), .int .i64 (-1), .int .i64 0, .bool false], .int .i64 0]) ∧ W.grownBy w' none) := hide (fun W hg hb => by
      have hr := rowAt_blk (S := shI) hb (by rw [jP_len]; omega)
      rw [jP_len] at hr
      exact step_at (lo := 0) (.slice (some ⟨P, 0, none⟩) (2 + c) (2 + c)) (jP 7 t 0 c) ⟨1 + (c : Int), 3, fun _ => 0⟩ 0 0 (.slice none 0 0) [] (j_step4b ht hc) W (by rw [jP_len]; omega) (HT.out W hg) (preads_row hr) (rowAt_nil _ _ _ _))
    have C4 : Hid (∀ W, w.grownBy W none → W.heap[P]? = some (.cells (jC 7 t 11 c) 43 (0, 0)) → Calls Tryd.prog 11 #[.slice (some ⟨P, 0, none⟩) (2 + c) (2 + c), .agg #[.int .i64 1, .int .i64 4, .int .i64 0, .int .i64 0, .int .i64 0, .int .i64 0, .int .i64 0, .int .i64 0, .int .i64 0, .int .i64 0, .int .i64 0, .int .i64 0, .int .i64 0, .int .i64 0, .int .i64 0, .int .i64 0, .int .i64 0, .int .i64 0], .int .i64 0, .int .i64 0, .slice none 0 0] W fun e w' => e = .returned (.tuple #[.agg #[.int .i64 0, .int .i64 4, .int .i64 0, .int .i64 0, .int .i64 0, .int .i64 0, .int .i64 0, .int .i64 0, .int .i64 0, .int .i64 0, .int .i64 0, .int .i64 0, .int .i64 0, .int .i64 0, .int .i64 0, .int .i64 0, .int .i64 0, .int .i64 0], .agg #[.bool false, .int .i64 (-1), .int .i64 (-1), .int .i64 0, .bool false], .int .i64 0]) ∧ W.grownBy w' none) := hide (fun W hg hb => by
      have hr := rowAt_blk (S := shI) hb (by rw [jP_len]; omega)
      rw [jP_len] at hr
      exact step_at (lo := 0) (.slice (some ⟨P, 0, none⟩) (2 + c) (2 + c)) (jP 7 t 11 c) ⟨1, 4, fun _ => 0⟩ 0 0 (.slice none 0 0) [] (j_step5 ht hc) W (by rw [jP_len]; omega) (HT.out W hg) (preads_row hr) (rowAt_nil _ _ _ _))
    go_wp2_with (first | fail)
    refine (C1.out _ HG.out HB.out).mono ?_; rintro e w4 ⟨rfl, hg⟩
    have HB := hide (box_grown HB.out hg (by simp))
    have HG := hide (grownBy_trans HG.out hg)
    have HPw4 := hide (box_lt HB.out)
    clear hg C1
    go_upto_region 8 with (first | ((with_reducible refine list_store 25 (.tmp 10) (.tmp 48) (w4.heap.size) #[.int .i64 (t : Int), .int .i64 a8, .int .i64 0, .int .i64 0, .int .i64 0, .int .i64 0, .int .i64 0, .int .i64 0, .int .i64 0, .int .i64 0, .int .i64 0, .int .i64 0, .int .i64 0, .int .i64 0, .int .i64 0, .int .i64 0, .int .i64 0, .int .i64 0] 25 #[.int .i64 0, .int .i64 0, .int .i64 0, .int .i64 0, .int .i64 0, .int .i64 0, .int .i64 0, .int .i64 0, .int .i64 0, .int .i64 0, .int .i64 0, .int .i64 0, .int .i64 0, .int .i64 0, .int .i64 0, .int .i64 0, .int .i64 0, .int .i64 0] ?hx ?hy ?hg ?hi ?ho ?h1 ?_); (case hx => rfl); (case hy => rfl); (case hg => exact box_grown (World.heap_alloc_new _ _) (World.grownBy_alloc _ _ none) (by simp)); (case hi => exact sizeVm); (case ho => rfl); (case h1 => simp [Value.oneCell']); intro w5a h1 e1 g1; have HA := hide h1; have HE := hide ((e1 (w4.heap.size + 1) (by omega)).trans (alloc_next _ _ _)); have HN := hide (grown_spoil (grownBy_trans (World.grownBy_alloc w4 _ none) (World.grownBy_alloc _ _ none)) (Nat.le_refl _) g1); clear h1 e1 g1) | ((with_reducible refine list_store 30 (.tmp 11) (.tmp 49) (w4.heap.size + 1) #[.bool false, .int .i64 (-1), .int .i64 (-1), .int .i64 0, .bool false] 30 #[.bool false, .int .i64 0, .int .i64 0, .int .i64 0, .bool false] ?hx ?hy ?hg ?hi ?ho ?h1 ?_); (case hx => rfl); (case hy => rfl); (case hg => exact HE.out); (case hi => exact sizeEf); (case ho => rfl); (case h1 => simp [Value.oneCell']); intro w5 h1 e1 g1; have Hav := hide ((e1 (w4.heap.size) (by omega)).trans HA.out); have Hae := hide h1; have hgN := grown_spoil HN.out (Nat.le_succ _) g1; have HB := hide (box_grown HB.out hgN (by simp)); have HG := hide (grownBy_trans HG.out hgN); clear h1 e1 g1 hgN HA HE HN) | fail)
    obtain ⟨pj0, pj1, pj2⟩ := jC_at HB.out
    have pf0 := blk_free HB.out 0
    have pf2 := blk_free HB.out 2
    have HBn := hide (jC_set0 HB.out 7)
    have Hav := hide ((heap_else w5 0 (.int .i64 7) (show P ≠ w4.heap.size by have := HPw4.out; omega)).trans Hav.out)
    have Hae := hide ((heap_else w5 0 (.int .i64 7) (show P ≠ w4.heap.size + 1 by have := HPw4.out; omega)).trans Hae.out)
    have HG := hide (grown_set_new (R := P) (j := 0) (u := .int .i64 7) HPw.out HG.out)
    go_upto_region 9 with fail
    generalize hwn : w5.setCell ⟨P, 0, none⟩ (.int .i64 7) = w6 at *
    clear hwn pj0 pj1 pj2 pf0 pf2 HB
    have HB := HBn
    clear HBn
    go_wp2_with (first | fail)
    refine (C2.out _ HG.out HB.out).mono ?_; rintro e w7 ⟨rfl, hg⟩
    have HB := hide (box_grown HB.out hg (by simp))
    have Hav := hide (box_grown Hav.out hg (by simp))
    have Hae := hide (box_grown Hae.out hg (by simp))
    have HG := hide (grownBy_trans HG.out hg)
    have HPw7 := hide (box_lt HB.out)
    clear hg C2
    go_wp2_with (first | ((with_reducible refine list_store 25 (.tmp 13) (.tmp 60) (w7.heap.size) #[.int .i64 1, .int .i64 1, .int .i64 0, .int .i64 0, .int .i64 0, .int .i64 0, .int .i64 0, .int .i64 0, .int .i64 0, .int .i64 0, .int .i64 0, .int .i64 0, .int .i64 0, .int .i64 0, .int .i64 0, .int .i64 0, .int .i64 0, .int .i64 0] 25 #[.int .i64 0, .int .i64 0, .int .i64 0, .int .i64 0, .int .i64 0, .int .i64 0, .int .i64 0, .int .i64 0, .int .i64 0, .int .i64 0, .int .i64 0, .int .i64 0, .int .i64 0, .int .i64 0, .int .i64 0, .int .i64 0, .int .i64 0, .int .i64 0] ?hx ?hy ?hg ?hi ?ho ?h1 ?_); (case hx => rfl); (case hy => rfl); (case hg => exact box_grown (World.heap_alloc_new _ _) (World.grownBy_alloc _ _ none) (by simp)); (case hi => exact sizeVm); (case ho => rfl); (case h1 => simp [Value.oneCell']); intro w8a h1 e1 g1; have HA := hide h1; have HE := hide ((e1 (w7.heap.size + 1) (by omega)).trans (alloc_next _ _ _)); have HN := hide (grown_spoil (grownBy_trans (World.grownBy_alloc w7 _ none) (World.grownBy_alloc _ _ none)) (Nat.le_refl _) g1); clear h1 e1 g1) | ((with_reducible refine list_store 30 (.tmp 14) (.tmp 61) (w7.heap.size + 1) #[.bool false, .int .i64 (-1), .int .i64 (-1), .int .i64 0, .bool false] 30 #[.bool false, .int .i64 0, .int .i64 0, .int .i64 0, .bool false] ?hx ?hy ?hg ?hi ?ho ?h1 ?_); (case hx => rfl); (case hy => rfl); (case hg => exact HE.out); (case hi => exact sizeEf); (case ho => rfl); (case h1 => simp [Value.oneCell']); intro w8 h1 e1 g1; have Hbv := hide ((e1 (w7.heap.size) (by omega)).trans HA.out); have Hbe := hide h1; have hgN := grown_spoil HN.out (Nat.le_succ _) g1; have Hav := hide (box_grown Hav.out hgN (by simp)); have Hae := hide (box_grown Hae.out hgN (by simp)); have HB := hide (box_grown HB.out hgN (by simp)); have HG := hide (grownBy_trans HG.out hgN); clear h1 e1 g1 hgN HA HE HN) | fail)
    refine (C3.out _ HG.out HB.out).mono ?_; rintro e w9 ⟨rfl, hg⟩
    have HB := hide (box_grown HB.out hg (by simp))
    have Hav := hide (box_grown Hav.out hg (by simp))
    have Hae := hide (box_grown Hae.out hg (by simp))
    have Hbv := hide (box_grown Hbv.out hg (by simp))
    have Hbe := hide (box_grown Hbe.out hg (by simp))
    have HG := hide (grownBy_trans HG.out hg)
    have HPw9 := hide (box_lt HB.out)
    clear hg C3
    go_upto_region 11 with (first | ((with_reducible refine list_store 25 (.tmp 16) (.tmp 69) (w9.heap.size) #[.int .i64 0, .int .i64 3, .int .i64 0, .int .i64 0, .int .i64 0, .int .i64 0, .int .i64 0, .int .i64 0, .int .i64 0, .int .i64 0, .int .i64 0, .int .i64 0, .int .i64 0, .int .i64 0, .int .i64 0, .int .i64 0, .int .i64 0, .int .i64 0] 25 #[.int .i64 0, .int .i64 0, .int .i64 0, .int .i64 0, .int .i64 0, .int .i64 0, .int .i64 0, .int .i64 0, .int .i64 0, .int .i64 0, .int .i64 0, .int .i64 0, .int .i64 0, .int .i64 0, .int .i64 0, .int .i64 0, .int .i64 0, .int .i64 0] ?hx ?hy ?hg ?hi ?ho ?h1 ?_); (case hx => rfl); (case hy => rfl); (case hg => exact box_grown (World.heap_alloc_new _ _) (World.grownBy_alloc _ _ none) (by simp)); (case hi => exact sizeVm); (case ho => rfl); (case h1 => simp [Value.oneCell']); intro w10a h1 e1 g1; have HA := hide h1; have HE := hide ((e1 (w9.heap.size + 1) (by omega)).trans (alloc_next _ _ _)); have HN := hide (grown_spoil (grownBy_trans (World.grownBy_alloc w9 _ none) (World.grownBy_alloc _ _ none)) (Nat.le_refl _) g1); clear h1 e1 g1) | ((with_reducible refine list_store 30 (.tmp 17) (.tmp 70) (w9.heap.size + 1) #[.bool false, .int .i64 (-1), .int .i64 (-1), .int .i64 0, .bool false] 30 #[.bool false, .int .i64 0, .int .i64 0, .int .i64 0, .bool false] ?hx ?hy ?hg ?hi ?ho ?h1 ?_); (case hx => rfl); (case hy => rfl); (case hg => exact HE.out); (case hi => exact sizeEf); (case ho => rfl); (case h1 => simp [Value.oneCell']); intro w10 h1 e1 g1; have Hcv := hide ((e1 (w9.heap.size) (by omega)).trans HA.out); have Hce := hide h1; have hgN := grown_spoil HN.out (Nat.le_succ _) g1; have Hav := hide (box_grown Hav.out hgN (by simp)); have Hae := hide (box_grown Hae.out hgN (by simp)); have Hbv := hide (box_grown Hbv.out hgN (by simp)); have Hbe := hide (box_grown Hbe.out hgN (by simp)); have HB := hide (box_grown HB.out hgN (by simp)); have HG := hide (grownBy_trans HG.out hgN); clear h1 e1 g1 hgN HA HE HN) | fail)
    obtain ⟨pj0, pj1, pj2⟩ := jC_at HB.out
    have pf0 := blk_free HB.out 0
    have pf2 := blk_free HB.out 2
    have HBn := hide (jC_set2 HB.out 11)
    have Hav := hide ((heap_else w10 2 (.int .i64 11) (show P ≠ w4.heap.size by have := HPw4.out; omega)).trans Hav.out)
    have Hae := hide ((heap_else w10 2 (.int .i64 11) (show P ≠ w4.heap.size + 1 by have := HPw4.out; omega)).trans Hae.out)
    have Hbv := hide ((heap_else w10 2 (.int .i64 11) (show P ≠ w7.heap.size by have := HPw7.out; omega)).trans Hbv.out)
    have Hbe := hide ((heap_else w10 2 (.int .i64 11) (show P ≠ w7.heap.size + 1 by have := HPw7.out; omega)).trans Hbe.out)
    have Hcv := hide ((heap_else w10 2 (.int .i64 11) (show P ≠ w9.heap.size by have := HPw9.out; omega)).trans Hcv.out)
    have Hce := hide ((heap_else w10 2 (.int .i64 11) (show P ≠ w9.heap.size + 1 by have := HPw9.out; omega)).trans Hce.out)
    have HG := hide (grown_set_new (R := P) (j := 2) (u := .int .i64 11) HPw.out HG.out)
    go_upto_region 12 with fail
    generalize hwn : w10.setCell ⟨P, 2, none⟩ (.int .i64 11) = w11 at *
    clear hwn pj0 pj1 pj2 pf0 pf2 HB
    have HB := HBn
    clear HBn
    go_wp2_with (first | fail)
    refine (C4.out _ HG.out HB.out).mono ?_; rintro e w12 ⟨rfl, hg⟩
    have HB := hide (box_grown HB.out hg (by simp))
    have Hav := hide (box_grown Hav.out hg (by simp))
    have Hae := hide (box_grown Hae.out hg (by simp))
    have Hbv := hide (box_grown Hbv.out hg (by simp))
    have Hbe := hide (box_grown Hbe.out hg (by simp))
    have Hcv := hide (box_grown Hcv.out hg (by simp))
    have Hce := hide (box_grown Hce.out hg (by simp))
    have HG := hide (grownBy_trans HG.out hg)
    have HPw12 := hide (box_lt HB.out)
    clear hg C4
    go_upto_region 13 with (first | ((with_reducible refine list_store 25 (.tmp 19) (.tmp 79) (w12.heap.size) #[.int .i64 0, .int .i64 4, .int .i64 0, .int .i64 0, .int .i64 0, .int .i64 0, .int .i64 0, .int .i64 0, .int .i64 0, .int .i64 0, .int .i64 0, .int .i64 0, .int .i64 0, .int .i64 0, .int .i64 0, .int .i64 0, .int .i64 0, .int .i64 0] 25 #[.int .i64 0, .int .i64 0, .int .i64 0, .int .i64 0, .int .i64 0, .int .i64 0, .int .i64 0, .int .i64 0, .int .i64 0, .int .i64 0, .int .i64 0, .int .i64 0, .int .i64 0, .int .i64 0, .int .i64 0, .int .i64 0, .int .i64 0, .int .i64 0] ?hx ?hy ?hg ?hi ?ho ?h1 ?_); (case hx => rfl); (case hy => rfl); (case hg => exact box_grown (World.heap_alloc_new _ _) (World.grownBy_alloc _ _ none) (by simp)); (case hi => exact sizeVm); (case ho => rfl); (case h1 => simp [Value.oneCell']); intro w13a h1 e1 g1; have HA := hide h1; have HE := hide ((e1 (w12.heap.size + 1) (by omega)).trans (alloc_next _ _ _)); have HN := hide (grown_spoil (grownBy_trans (World.grownBy_alloc w12 _ none) (World.grownBy_alloc _ _ none)) (Nat.le_refl _) g1); clear h1 e1 g1) | ((with_reducible refine list_store 30 (.tmp 20) (.tmp 80) (w12.heap.size + 1) #[.bool false, .int .i64 (-1), .int .i64 (-1), .int .i64 0, .bool false] 30 #[.bool false, .int .i64 0, .int .i64 0, .int .i64 0, .bool false] ?hx ?hy ?hg ?hi ?ho ?h1 ?_); (case hx => rfl); (case hy => rfl); (case hg => exact HE.out); (case hi => exact sizeEf); (case ho => rfl); (case h1 => simp [Value.oneCell']); intro w13 h1 e1 g1; have Hdv := hide ((e1 (w12.heap.size) (by omega)).trans HA.out); have Hde := hide h1; have hgN := grown_spoil HN.out (Nat.le_succ _) g1; have Hav := hide (box_grown Hav.out hgN (by simp)); have Hae := hide (box_grown Hae.out hgN (by simp)); have Hbv := hide (box_grown Hbv.out hgN (by simp)); have Hbe := hide (box_grown Hbe.out hgN (by simp)); have Hcv := hide (box_grown Hcv.out hgN (by simp)); have Hce := hide (box_grown Hce.out hgN (by simp)); have HB := hide (box_grown HB.out hgN (by simp)); have HG := hide (grownBy_trans HG.out hgN); clear h1 e1 g1 hgN HA HE HN) | fail)
    go_upto_region 14 with (first | ((with_reducible refine list_store 30 (.tmp 22) (.tmp 82) (w13.heap.size) #[.bool false, .int .i64 (-1), .int .i64 (-1), .int .i64 0, .bool false] 30 #[.bool false, .int .i64 0, .int .i64 0, .int .i64 0, .bool false] ?hx ?hy ?hg ?hi ?ho ?h1 ?_); (case hx => rfl); (case hy => rfl); (case hg => exact World.heap_alloc_new _ _); (case hi => exact sizeEf); (case ho => rfl); (case h1 => simp [Value.oneCell']); intro wz h1 e1 g1; have Hz := hide h1; have hgN := grown_spoil (World.grownBy_alloc w13 _ none) (Nat.le_refl _) g1; have Hav := hide (box_grown Hav.out hgN (by simp)); have Hae := hide (box_grown Hae.out hgN (by simp)); have Hbv := hide (box_grown Hbv.out hgN (by simp)); have Hbe := hide (box_grown Hbe.out hgN (by simp)); have Hcv := hide (box_grown Hcv.out hgN (by simp)); have Hce := hide (box_grown Hce.out hgN (by simp)); have Hdv := hide (box_grown Hdv.out hgN (by simp)); have Hde := hide (box_grown Hde.out hgN (by simp)); have HG := hide (grownBy_trans HG.out hgN); clear h1 e1 g1 hgN HB) | fail)
    have hARR := arr_self
    have kb : wz.cell? ⟨w7.heap.size, 0, none⟩ = some (.int .i64 1) := blk_cell Hbv.out 0
    have y0_0 : wz.cell? ⟨w4.heap.size + 1, 0, none⟩ = some (.bool false) := blk_cell Hae.out 0
    have y0_1 : wz.cell? ⟨w4.heap.size + 1, 1, none⟩ = some (.int .i64 (-1)) := blk_cell Hae.out 1
    have y0_2 : wz.cell? ⟨w4.heap.size + 1, 2, none⟩ = some (.int .i64 (-1)) := blk_cell Hae.out 2
    have y0_3 : wz.cell? ⟨w4.heap.size + 1, 3, none⟩ = some (.int .i64 0) := blk_cell Hae.out 3
    have y0_4 : wz.cell? ⟨w4.heap.size + 1, 4, none⟩ = some (.bool false) := blk_cell Hae.out 4
    have y1_0 : wz.cell? ⟨w7.heap.size + 1, 0, none⟩ = some (.bool false) := blk_cell Hbe.out 0
    have y1_1 : wz.cell? ⟨w7.heap.size + 1, 1, none⟩ = some (.int .i64 (-1)) := blk_cell Hbe.out 1
    have y1_2 : wz.cell? ⟨w7.heap.size + 1, 2, none⟩ = some (.int .i64 (-1)) := blk_cell Hbe.out 2
    have y1_3 : wz.cell? ⟨w7.heap.size + 1, 3, none⟩ = some (.int .i64 0) := blk_cell Hbe.out 3
    have y1_4 : wz.cell? ⟨w7.heap.size + 1, 4, none⟩ = some (.bool false) := blk_cell Hbe.out 4
    have y2_0 : wz.cell? ⟨w9.heap.size + 1, 0, none⟩ = some (.bool false) := blk_cell Hce.out 0
    have y2_1 : wz.cell? ⟨w9.heap.size + 1, 1, none⟩ = some (.int .i64 (-1)) := blk_cell Hce.out 1
    have y2_2 : wz.cell? ⟨w9.heap.size + 1, 2, none⟩ = some (.int .i64 (-1)) := blk_cell Hce.out 2
    have y2_3 : wz.cell? ⟨w9.heap.size + 1, 3, none⟩ = some (.int .i64 0) := blk_cell Hce.out 3
    have y2_4 : wz.cell? ⟨w9.heap.size + 1, 4, none⟩ = some (.bool false) := blk_cell Hce.out 4
    have y3_0 : wz.cell? ⟨w12.heap.size + 1, 0, none⟩ = some (.bool false) := blk_cell Hde.out 0
    have y3_1 : wz.cell? ⟨w12.heap.size + 1, 1, none⟩ = some (.int .i64 (-1)) := blk_cell Hde.out 1
    have y3_2 : wz.cell? ⟨w12.heap.size + 1, 2, none⟩ = some (.int .i64 (-1)) := blk_cell Hde.out 2
    have y3_3 : wz.cell? ⟨w12.heap.size + 1, 3, none⟩ = some (.int .i64 0) := blk_cell Hde.out 3
    have y3_4 : wz.cell? ⟨w12.heap.size + 1, 4, none⟩ = some (.bool false) := blk_cell Hde.out 4
    have y9_0 : wz.cell? ⟨w13.heap.size, 0, none⟩ = some (.bool false) := blk_cell Hz.out 0
    have y9_1 : wz.cell? ⟨w13.heap.size, 1, none⟩ = some (.int .i64 (-1)) := blk_cell Hz.out 1
    have y9_2 : wz.cell? ⟨w13.heap.size, 2, none⟩ = some (.int .i64 (-1)) := blk_cell Hz.out 2
    have y9_3 : wz.cell? ⟨w13.heap.size, 3, none⟩ = some (.int .i64 0) := blk_cell Hz.out 3
    have y9_4 : wz.cell? ⟨w13.heap.size, 4, none⟩ = some (.bool false) := blk_cell Hz.out 4
    go_wp2_with (first | (go_at_call 13; refine (NUM.out _ _).mono ?_; rintro e wn ⟨rfl, rfl⟩) | ((with_reducible refine list_load 25 (.tmp 10) (w4.heap.size) 25 #[.int .i64 (t : Int), .int .i64 a8, .int .i64 0, .int .i64 0, .int .i64 0, .int .i64 0, .int .i64 0, .int .i64 0, .int .i64 0, .int .i64 0, .int .i64 0, .int .i64 0, .int .i64 0, .int .i64 0, .int .i64 0, .int .i64 0, .int .i64 0, .int .i64 0] (0, 0) _ ?hw ?hx ?hg Tryd.underlying25 ?hd ?hi ?_); (case hw => kernel_rfl); (case hx => rfl); (case hg => exact Hav.out); (case hd => rfl); (case hi => exact sizeVm)) | ((with_reducible refine list_load 25 (.tmp 16) (w9.heap.size) 25 #[.int .i64 0, .int .i64 3, .int .i64 0, .int .i64 0, .int .i64 0, .int .i64 0, .int .i64 0, .int .i64 0, .int .i64 0, .int .i64 0, .int .i64 0, .int .i64 0, .int .i64 0, .int .i64 0, .int .i64 0, .int .i64 0, .int .i64 0, .int .i64 0] (0, 0) _ ?hw ?hx ?hg Tryd.underlying25 ?hd ?hi ?_); (case hw => kernel_rfl); (case hx => rfl); (case hg => exact Hcv.out); (case hd => rfl); (case hi => exact sizeVm)) | ((with_reducible refine list_load 25 (.tmp 19) (w12.heap.size) 25 #[.int .i64 0, .int .i64 4, .int .i64 0, .int .i64 0, .int .i64 0, .int .i64 0, .int .i64 0, .int .i64 0, .int .i64 0, .int .i64 0, .int .i64 0, .int .i64 0, .int .i64 0, .int .i64 0, .int .i64 0, .int .i64 0, .int .i64 0, .int .i64 0] (0, 0) _ ?hw ?hx ?hg Tryd.underlying25 ?hd ?hi ?_); (case hw => kernel_rfl); (case hx => rfl); (case hg => exact Hdv.out); (case hd => rfl); (case hi => exact sizeVm)) | fail)
    go_ret
    exact ⟨by first | rfl | simp, HG.out⟩
#print axioms stepJumps_any
end Go.Proofs.YthdpdnibgmjdaaaDoor
