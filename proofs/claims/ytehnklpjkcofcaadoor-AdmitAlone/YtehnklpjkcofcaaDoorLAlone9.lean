/- The walk of the statement AdmitAlone: a part that has all ticks; proved over the translation. -/
import Derived.Test.YtehnklpjkcofcaaDoorAw9
import Derived.Test.YtehnklpjkcofcaaDoorAlmath
import Derived.Test.YtehnklpjkcofcaaDoorBits
namespace Go.Proofs.YtehnklpjkcofcaaDoor.P9
open Go.RowKit R6
attribute [local go_sem] alloc_drewN setCell_drewN


set_option maxRecDepth 100000 in
set_option maxHeartbeats 4000000 in
theorem admitAlone_any (a b p : Int) (w : World) (hT : Tab w) :
    Calls Tryd.prog 5 #[.int .i64 a, .int .i64 b, .int .i64 p] w fun e w' => e = .returned (.bool true) ∧ w.grownBy w' none := by
  have HT := hide hT
  clear hT
  have NUM : Hid (∀ (e : Int) (W : World), Calls Tryd.prog 13 #[.int .i64 e] W fun r w' => r = .returned (.int .i64 e) ∧ W = w') := fun e W => (num_any e W).mono fun _ _ h => ⟨h.1, h.2.symm⟩
  obtain ⟨xa, hxa, ea⟩ := and4 a
  obtain ⟨yb, hyb, eb⟩ := and4 b
  obtain ⟨fp, hfp, ef⟩ := and6 p
  obtain ⟨pp, hpp, ep⟩ := and9 p
  have HR := hide (alone_resp (F := 1 + fp) (x := 1 + xa) (y := 1 + yb) (p := 32 + pp) (by omega) (by omega) (by omega) (by omega) (by omega) (by omega) (by omega) (by omega))
  go_enter Tryd.func5, Tryd.ntmps5
  go_wp2_with (first | fail)
  refine (awake_any w HT.out).mono ?_; rintro e w0 ⟨rfl, hg⟩
  have G0 := hide hg
  clear hg
  go_upto_region 7 with fail
  generalize hw1 : (((w0.alloc (.cells #[.int .i64 0, .int .i64 (32 + pp), .int .i64 (32 + pp), .int .i64 1, .int .i64 (1 + yb), .int .i64 7, .int .i64 0, .int .i64 (32 + pp), .int .i64 (32 + pp), .int .i64 1, .int .i64 (1 + xa), .int .i64 3] 44)).alloc (.cells #[.int .i64 1, .slice (some ⟨w0.heap.size, 0, none⟩) 2 2, .slice none 0 0] 42)).alloc (.cells #[.int .i64 (1 + fp), .int .i64 1, .slice (some ⟨w0.heap.size + 1, 0, none⟩) 1 1, .slice (some ⟨w0.heap.size + 1 + 1 + 1, 0, none⟩) 1 1, .slice none 0 0] 26)).alloc (.cells #[.int .i64 0, .int .i64 (1 + fp), .int .i64 0] 47) = w1
  have bT : Hid (w1.heap[w0.heap.size]? = some (.cells #[.int .i64 0, .int .i64 (32 + pp), .int .i64 (32 + pp), .int .i64 1, .int .i64 (1 + yb), .int .i64 7, .int .i64 0, .int .i64 (32 + pp), .int .i64 (32 + pp), .int .i64 1, .int .i64 (1 + xa), .int .i64 3] 44 (0, 0))) := by
    rw [← hw1]
    repeat (first | exact heap_at _ _ _ (by simp) | refine heap_up _ _ _ _ ?_)
  have bP : Hid (w1.heap[w0.heap.size + 1]? = some (.cells #[.int .i64 1, .slice (some ⟨w0.heap.size, 0, none⟩) 2 2, .slice none 0 0] 42 (0, 0))) := by
    rw [← hw1]
    repeat (first | exact heap_at _ _ _ (by simp) | refine heap_up _ _ _ _ ?_)
  have bB : Hid (w1.heap[w0.heap.size + 1 + 1]? = some (.cells #[.int .i64 (1 + fp), .int .i64 1, .slice (some ⟨w0.heap.size + 1, 0, none⟩) 1 1, .slice (some ⟨w0.heap.size + 1 + 1 + 1, 0, none⟩) 1 1, .slice none 0 0] 26 (0, 0))) := by
    rw [← hw1]
    repeat (first | exact heap_at _ _ _ (by simp) | refine heap_up _ _ _ _ ?_)
  have bW : Hid (w1.heap[w0.heap.size + 1 + 1 + 1]? = some (.cells #[.int .i64 0, .int .i64 (1 + fp), .int .i64 0] 47 (0, 0))) := by
    rw [← hw1]
    repeat (first | exact heap_at _ _ _ (by simp) | refine heap_up _ _ _ _ ?_)
  have G1 : Hid (w.grownBy w1 none) := by
    refine grownBy_trans G0.out ?_
    rw [← hw1]
    repeat (first | exact World.grownBy_alloc _ _ _ | refine grownBy_trans ?_ (World.grownBy_alloc _ _ _))
  clear hw1
  generalize w0.heap.size = t at *
  have CF0 : Hid (ConfAt 0 w1 (.agg #[.int .i64 (1 + fp), .int .i64 1, .slice (some ⟨t + 1, 0, none⟩) 1 1, .slice (some ⟨t + 1 + 1 + 1, 0, none⟩) 1 1, .slice none 0 0]) (aloneC (1 + fp) (1 + xa) (1 + yb) (32 + pp))) := by
    refine ⟨_, _, _, rfl, ⟨[⟨1, some ⟨t, 0, none⟩, 2, 2, none, 0, 0⟩], rfl, row_blk (S := shP) [_] rfl (by simp) bP.out 0 (by omega), ?_⟩, row_blk (S := shW) [_] rfl (by simp) bW.out 0 (by omega), rowAt_nil _ _ _ _⟩
    intro i q r hq hr
    match i, hq, hr with
    | 0, hq, hr =>
      simp only [aloneC, List.getElem?_cons_zero, Option.some.injEq] at hq hr
      subst hq hr
      exact ⟨rfl, row_blk (S := shT) [_, _] rfl (by simp) bT.out 0 (by omega), rowAt_nil _ _ _ _⟩
    | k + 1, hq, _ => simp at hq
  have KEEP : Hid (∀ V, w1.grownBy V none → V.cell? ⟨t + 1 + 1, 0, none⟩ = some (.int .i64 (1 + fp)) ∧ V.cell? ⟨t + 1 + 1, 1, none⟩ = some (.int .i64 1) ∧ V.cell? ⟨t + 1 + 1, 2, none⟩ = some (.slice (some ⟨t + 1, 0, none⟩) 1 1) ∧ V.cell? ⟨t + 1 + 1, 3, none⟩ = some (.slice (some ⟨t + 1 + 1 + 1, 0, none⟩) 1 1) ∧ V.cell? ⟨t + 1 + 1, 4, none⟩ = some (.slice none 0 0)) := fun V hV => by
    have b := box_grown bB.out hV (by simp)
    exact ⟨blk_cell b 0, blk_cell b 1, blk_cell b 2, blk_cell b 3, blk_cell b 4⟩
  clear bT bP bB bW
  have I1 := hide (grownBy_refl w1 none)
  obtain ⟨r1, r2, r3, r4, r5⟩ := HR.out
  have CR := hide (fun (i : Int) V (hV : w1.grownBy V none) => resp_any _ _ 0 i V (HT.out.grown (grownBy_trans G1.out hV)) (CF0.out.grown hV))
  have CA := hide (fun V (hV : w1.grownBy V none) => admit_any _ _ V (HT.out.grown (grownBy_trans G1.out hV)) (CF0.out.grown hV))
  rw [r5] at CA
  have CR1 := hide (CR.out 1)
  rw [r1, r2] at CR1
  have CR0 := hide (CR.out 0)
  rw [r3, r4] at CR0
  clear CR r1 r2 r3 r4 r5 HR CF0
  obtain ⟨k0, k1, k2, k3, k4⟩ := KEEP.out _ I1.out
  go_wp2_with (first | fail)
  refine (CR1.out _ I1.out).mono ?_; rintro e w2 ⟨rfl, hg⟩
  have I2 := hide (grownBy_trans I1.out hg)
  clear hg k0 k1 k2 k3 k4
  obtain ⟨k0, k1, k2, k3, k4⟩ := KEEP.out _ I2.out
  go_wp2_with (first | fail)
  refine (CR0.out _ I2.out).mono ?_; rintro e w3 ⟨rfl, hg⟩
  have I3 := hide (grownBy_trans I2.out hg)
  clear hg k0 k1 k2 k3 k4
  obtain ⟨k0, k1, k2, k3, k4⟩ := KEEP.out _ I3.out
  go_wp2_with (first | fail)
  refine (CA.out _ I3.out).mono ?_; rintro e w4 ⟨rfl, hg⟩
  have I4 := hide (grownBy_trans I3.out hg)
  clear hg k0 k1 k2 k3 k4
  go_wp2_with (go_at_call 13; refine (NUM.out _ _).mono ?_; rintro e w' ⟨rfl, rfl⟩)
  go_ret
  exact ⟨rfl, grownBy_trans G1.out I4.out⟩
#print axioms admitAlone_any
end Go.Proofs.YtehnklpjkcofcaaDoor.P9
