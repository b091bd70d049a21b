/- The contract of package ready's compare, proved over the translation. A region that draws its order, whose operations only read and whose callees make new memory alone: one walk in the order of the text, over the class of the worlds that have grown from the first one. -/
import Derived.Test.YtlppfocoonnpjaaGreatDoorJJobs

namespace Go.Proofs.YtlppfocoonnpjaaGreatDoor.J
open Go.RowKit
attribute [local go_sem] alloc_drewN setCell_drewN

set_option maxRecDepth 100000 in
set_option maxHeartbeats 4000000 in
theorem cmp_any (j k : JobV) (w : World) : Calls Tryz.prog 131 #[jobVal j, jobVal k] w fun e w' => e = .returned (.int .i64 (cmpJ j k)) ∧ w.grownBy w' none := by
  obtain ⟨x0, x1, x2, x3, x4, x5, x6⟩ := j
  obtain ⟨y0, y1, y2, y3, y4, y5, y6⟩ := k
  unfold cmpJ
  dsimp only
  have C2 := hide (fun W => cmpI_any x2 y2 W)
  have C3 := hide (fun W => cmpI_any x3 y3 W)
  have C0 := hide (fun W => cmpI_any x0 y0 W)
  generalize cmpI x2 y2 = a at *
  generalize cmpI x3 y3 = b at *
  generalize cmpI x0 y0 = c at *
  have CO := hide (fun (g : Nat) (W : World) => or_any a b c g W)
  generalize orI a b c = d at *
  go_enter Tryz.func131, Tryz.ntmps131
  go_upto_region 1 with (first | fail)
  have HG := hide (grownBy_trans (World.grownBy_alloc w (.cells #[.int .i64 x0, .int .i64 x1, .int .i64 x2, .int .i64 x3, .int .i64 x4, .int .i64 x5, .int .i64 x6] 70) none) (World.grownBy_alloc _ (.cells #[.int .i64 y0, .int .i64 y1, .int .i64 y2, .int .i64 y3, .int .i64 y4, .int .i64 y5, .int .i64 y6] 70) none))
  have HB : Hid ((fun W => W.heap[w.heap.size]? = some (.cells #[.int .i64 x0, .int .i64 x1, .int .i64 x2, .int .i64 x3, .int .i64 x4, .int .i64 x5, .int .i64 x6] 70 (0, 0)) ∧ W.heap[w.heap.size + 1]? = some (.cells #[.int .i64 y0, .int .i64 y1, .int .i64 y2, .int .i64 y3, .int .i64 y4, .int .i64 y5, .int .i64 y6] 70 (0, 0))) ((w.alloc (.cells #[.int .i64 x0, .int .i64 x1, .int .i64 x2, .int .i64 x3, .int .i64 x4, .int .i64 x5, .int .i64 x6] 70)).alloc (.cells #[.int .i64 y0, .int .i64 y1, .int .i64 y2, .int .i64 y3, .int .i64 y4, .int .i64 y5, .int .i64 y6] 70))) := hide ⟨hp_up (heap_alloc_new w _) _, alloc_next w _ _⟩
  generalize (w.alloc (.cells #[.int .i64 x0, .int .i64 x1, .int .i64 x2, .int .i64 x3, .int .i64 x4, .int .i64 x5, .int .i64 x6] 70)).alloc (.cells #[.int .i64 y0, .int .i64 y1, .int .i64 y2, .int .i64 y3, .int .i64 y4, .int .i64 y5, .int .i64 y6] 70) = wr at *
  refine wp_region_held_drew (S := fun W => W.heap[w.heap.size]? = some (.cells #[.int .i64 x0, .int .i64 x1, .int .i64 x2, .int .i64 x3, .int .i64 x4, .int .i64 x5, .int .i64 x6] 70 (0, 0)) ∧ W.heap[w.heap.size + 1]? = some (.cells #[.int .i64 y0, .int .i64 y1, .int .i64 y2, .int .i64 y3, .int .i64 y4, .int .i64 y5, .int .i64 y6] 70 (0, 0))) (by kernel_rfl) HB.out (fun hHeld => ?_)
  have HGd : Hid (w.grownBy wr.drew none) := hide (grownBy_trans HG.out (grownBy_draws wr 1 none))
  have HBd : Hid ((fun W => W.heap[w.heap.size]? = some (.cells #[.int .i64 x0, .int .i64 x1, .int .i64 x2, .int .i64 x3, .int .i64 x4, .int .i64 x5, .int .i64 x6] 70 (0, 0)) ∧ W.heap[w.heap.size + 1]? = some (.cells #[.int .i64 y0, .int .i64 y1, .int .i64 y2, .int .i64 y3, .int .i64 y4, .int .i64 y5, .int .i64 y6] 70 (0, 0))) wr.drew) := hide HB.out
  clear HG HB
  generalize wr.drew = W at *
  have HG := HGd
  have HB := HBd
  clear HGd HBd
  refine take_put (i := 0) (v := .pointer (some ⟨w.heap.size, 2, none⟩)) 5 rfl rfl (by kernel_rfl) (by kernel_rfl) (by kernel_rfl) (fun _ _ _ h => h) (Or.inl ⟨by rfl, by intro Wy hSW; go_simp⟩) (by assumption) ?_
  (try simp only [Act.put, List.setIfInBounds_toArray, List.set_cons_zero, List.set_cons_succ])
  refine take_put (i := 1) (v := .int .i64 x2) 6 rfl rfl (by kernel_rfl) (by kernel_rfl) (by kernel_rfl) (fun _ _ _ h => h) (Or.inl ⟨by rfl, by intro Wy hSW; have hc := blk_cell hSW.1 2; go_simp⟩) (by assumption) ?_
  (try simp only [Act.put, List.setIfInBounds_toArray, List.set_cons_zero, List.set_cons_succ])
  refine take_put (i := 2) (v := .pointer (some ⟨w.heap.size + 1, 2, none⟩)) 7 rfl rfl (by kernel_rfl) (by kernel_rfl) (by kernel_rfl) (fun _ _ _ h => h) (Or.inl ⟨by rfl, by intro Wy hSW; go_simp⟩) (by assumption) ?_
  (try simp only [Act.put, List.setIfInBounds_toArray, List.set_cons_zero, List.set_cons_succ])
  refine take_put (i := 3) (v := .int .i64 y2) 8 rfl rfl (by kernel_rfl) (by kernel_rfl) (by kernel_rfl) (fun _ _ _ h => h) (Or.inl ⟨by rfl, by intro Wy hSW; have hc := blk_cell hSW.2 2; go_simp⟩) (by assumption) ?_
  (try simp only [Act.put, List.setIfInBounds_toArray, List.set_cons_zero, List.set_cons_succ])
  refine take_put (i := 5) (v := .pointer (some ⟨w.heap.size, 3, none⟩)) 10 rfl rfl (by kernel_rfl) (by kernel_rfl) (by kernel_rfl) (fun _ _ _ h => h) (Or.inl ⟨by rfl, by intro Wy hSW; go_simp⟩) (by assumption) ?_
  (try simp only [Act.put, List.setIfInBounds_toArray, List.set_cons_zero, List.set_cons_succ])
  refine take_put (i := 6) (v := .int .i64 x3) 11 rfl rfl (by kernel_rfl) (by kernel_rfl) (by kernel_rfl) (fun _ _ _ h => h) (Or.inl ⟨by rfl, by intro Wy hSW; have hc := blk_cell hSW.1 3; go_simp⟩) (by assumption) ?_
  (try simp only [Act.put, List.setIfInBounds_toArray, List.set_cons_zero, List.set_cons_succ])
  refine take_put (i := 7) (v := .pointer (some ⟨w.heap.size + 1, 3, none⟩)) 12 rfl rfl (by kernel_rfl) (by kernel_rfl) (by kernel_rfl) (fun _ _ _ h => h) (Or.inl ⟨by rfl, by intro Wy hSW; go_simp⟩) (by assumption) ?_
  (try simp only [Act.put, List.setIfInBounds_toArray, List.set_cons_zero, List.set_cons_succ])
  refine take_put (i := 8) (v := .int .i64 y3) 13 rfl rfl (by kernel_rfl) (by kernel_rfl) (by kernel_rfl) (fun _ _ _ h => h) (Or.inl ⟨by rfl, by intro Wy hSW; have hc := blk_cell hSW.2 3; go_simp⟩) (by assumption) ?_
  (try simp only [Act.put, List.setIfInBounds_toArray, List.set_cons_zero, List.set_cons_succ])
  refine take_put (i := 10) (v := .pointer (some ⟨w.heap.size, 0, none⟩)) 15 rfl rfl (by kernel_rfl) (by kernel_rfl) (by kernel_rfl) (fun _ _ _ h => h) (Or.inl ⟨by rfl, by intro Wy hSW; go_simp⟩) (by assumption) ?_
  (try simp only [Act.put, List.setIfInBounds_toArray, List.set_cons_zero, List.set_cons_succ])
  refine take_put (i := 11) (v := .int .i64 x0) 16 rfl rfl (by kernel_rfl) (by kernel_rfl) (by kernel_rfl) (fun _ _ _ h => h) (Or.inl ⟨by rfl, by intro Wy hSW; have hc := blk_cell hSW.1 0; go_simp⟩) (by assumption) ?_
  (try simp only [Act.put, List.setIfInBounds_toArray, List.set_cons_zero, List.set_cons_succ])
  refine take_put (i := 12) (v := .pointer (some ⟨w.heap.size + 1, 0, none⟩)) 17 rfl rfl (by kernel_rfl) (by kernel_rfl) (by kernel_rfl) (fun _ _ _ h => h) (Or.inl ⟨by rfl, by intro Wy hSW; go_simp⟩) (by assumption) ?_
  (try simp only [Act.put, List.setIfInBounds_toArray, List.set_cons_zero, List.set_cons_succ])
  refine take_put (i := 13) (v := .int .i64 y0) 18 rfl rfl (by kernel_rfl) (by kernel_rfl) (by kernel_rfl) (fun _ _ _ h => h) (Or.inl ⟨by rfl, by intro Wy hSW; have hc := blk_cell hSW.2 0; go_simp⟩) (by assumption) ?_
  (try simp only [Act.put, List.setIfInBounds_toArray, List.set_cons_zero, List.set_cons_succ])
  refine wpAnyH_ready (rs := [4]) (by kernel_rfl) (by simp) ?_
  refine AllReadyH.cons rfl (fun Kx hKx => ?_) AllReadyH.nil
  go_simp
  refine (C2.out _).mono ?_; rintro e wn ⟨rfl, rfl⟩
  clear hHeld
  refine hKx.out _ _ HB.out (fun hHeld => ?_)
  clear hKx Kx
  (try simp only [Act.put])
  refine wpAnyH_ready (rs := [9]) (by kernel_rfl) (by simp) ?_
  refine AllReadyH.cons rfl (fun Kx hKx => ?_) AllReadyH.nil
  go_simp
  refine (C3.out _).mono ?_; rintro e wn ⟨rfl, rfl⟩
  clear hHeld
  refine hKx.out _ _ HB.out (fun hHeld => ?_)
  clear hKx Kx
  (try simp only [Act.put])
  refine wpAnyH_ready (rs := [14]) (by kernel_rfl) (by simp) ?_
  refine AllReadyH.cons rfl (fun Kx hKx => ?_) AllReadyH.nil
  go_simp
  refine (C0.out _).mono ?_; rintro e wn ⟨rfl, rfl⟩
  clear hHeld
  refine hKx.out _ _ HB.out (fun hHeld => ?_)
  clear hKx Kx
  (try simp only [Act.put])
  refine wpAnyH_ready (rs := [15]) (by kernel_rfl) (by simp) ?_
  refine AllReadyH.cons rfl (fun Kx hKx => ?_) AllReadyH.nil
  go_simp
  have hg := World.grownBy_alloc W (.cells #[.int .i64 a, .int .i64 b, .int .i64 c] 3) none
  have HX := hide (heap_alloc_new W (.cells #[.int .i64 a, .int .i64 b, .int .i64 c] 3))
  have HGn := hide (grownBy_trans HG.out hg)
  have HBn : Hid ((fun W => W.heap[w.heap.size]? = some (.cells #[.int .i64 x0, .int .i64 x1, .int .i64 x2, .int .i64 x3, .int .i64 x4, .int .i64 x5, .int .i64 x6] 70 (0, 0)) ∧ W.heap[w.heap.size + 1]? = some (.cells #[.int .i64 y0, .int .i64 y1, .int .i64 y2, .int .i64 y3, .int .i64 y4, .int .i64 y5, .int .i64 y6] 70 (0, 0))) (W.alloc (.cells #[.int .i64 a, .int .i64 b, .int .i64 c] 3))) := hide ⟨box_grown HB.out.1 hg (by simp), box_grown HB.out.2 hg (by simp)⟩
  clear HG HB hg hHeld
  have HG := HGn
  have HB := HBn
  clear HGn HBn
  refine hKx.out _ _ HB.out (fun hHeld => ?_)
  clear hKx Kx
  (try simp only [Act.put])
  generalize W.alloc (.cells #[.int .i64 a, .int .i64 b, .int .i64 c] 3) = W4 at *
  generalize W.heap.size = g at *
  refine wpAnyH_ready (rs := [16]) (by kernel_rfl) (by simp) ?_
  refine AllReadyH.cons rfl (fun Kx hKx => ?_) AllReadyH.nil
  go_simp
  refine (CO.out g _ (blk_cell HX.out 0) (blk_cell HX.out 1) (blk_cell HX.out 2)).mono ?_; rintro e wn ⟨rfl, rfl⟩
  clear hHeld
  refine hKx.out _ _ HB.out (fun hHeld => ?_)
  clear hKx Kx
  (try simp only [Act.put])
  refine take_put (i := 17) (v := .int .i64 d) 4 rfl rfl (by kernel_rfl) (by kernel_rfl) (by kernel_rfl) (fun _ _ _ h => h) (Or.inl ⟨by rfl, by intro Wy hSW; go_simp⟩) (by assumption) ?_
  (try simp only [Act.put, List.setIfInBounds_toArray, List.set_cons_zero, List.set_cons_succ])
  refine wpAnyH_done (by kernel_rfl) ?_ _
  clear hHeld
  go_wp2
  go_ret
  exact ⟨rfl, HG.out⟩
end Go.Proofs.YtlppfocoonnpjaaGreatDoor.J

namespace Go.Proofs.YtlppfocoonnpjaaGreatDoor.J
open Go.RowKit

theorem class_of (w1 : World) : ∃ (U : Type) (_ : Nonempty U) (F : U → World), Hid (∀ u, w1.grownBy (F u) none) ∧ Hid (∀ W, w1.grownBy W none → ∃ u, W = F u) :=
  ⟨{ W : World // w1.grownBy W none }, ⟨⟨w1, grownBy_refl _ _⟩⟩, Subtype.val, fun u => u.2, fun W h => ⟨⟨W, h⟩, rfl⟩⟩
theorem wp_region_quiet_in {P : Program} {id : Nat} {Q : Exit → Act → World → Prop} {a : Act} {w : World} {l : List Oper} {U : Type} (F : U → World) (hm : P.follows .mixedOrders = true) (hB : Region.lexB .any l.toArray = true)
    (h0 : ∃ u, ({ w with drawn := w.drawn + 1 } : World) = F u)
    (h : wpQuiet P l.toArray (fun w' => ∃ u, w' = F u) (fun a' => ∀ w', (∃ u, w' = F u) → Q .normal a' w') l a) : (Code.region id l.toArray true).wp P Q a w :=
  wp_region_quiet (C := fun w' => ∃ u, w' = F u) hm hB h0 (by simpa using h)
theorem drew_grown (w : World) : w.grownBy ({ w with drawn := w.drawn + 1 } : World) none := ⟨rfl, rfl, rfl, Nat.le_refl _, fun _ _ _ => rfl⟩
theorem calls_in {P : Program} {f : FuncId} {args : Array Value} {w1 W : World} {v : Value} {U : Type} {F : U → World} (HR : Hid (∀ W, w1.grownBy W none → ∃ u, W = F u)) (hW : w1.grownBy W none)
    (h : Calls P f args W fun e w' => e = .returned v ∧ W.grownBy w' none) : Calls P f args W fun e w'' => e = .returned v ∧ ∃ u, w'' = F u :=
  h.mono fun _ _ ⟨he, hg⟩ => ⟨he, HR.out _ (grownBy_trans hW hg)⟩
theorem calls_in_same {P : Program} {f : FuncId} {args : Array Value} {w1 W : World} {v : Value} {U : Type} {F : U → World} (HR : Hid (∀ W, w1.grownBy W none → ∃ u, W = F u)) (hW : w1.grownBy W none)
    (h : Calls P f args W fun e w' => e = .returned v ∧ w' = W) : Calls P f args W fun e w'' => e = .returned v ∧ ∃ u, w'' = F u :=
  h.mono fun _ _ ⟨he, hg⟩ => ⟨he, HR.out _ (by rw [hg]; exact hW)⟩
#print axioms calls_in
end Go.Proofs.YtlppfocoonnpjaaGreatDoor.J
