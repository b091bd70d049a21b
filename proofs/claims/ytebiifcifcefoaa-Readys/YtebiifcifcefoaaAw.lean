/- The statements' own awake answers true, proved over the translation. -/
import Derived.Test.YtebiifcifcefoaaLaw0
namespace Go.Proofs.Ytebiifcifcefoaa
open Go.RowKit
attribute [local go_sem] alloc_drewN setCell_drewN

def jA : JobV := ⟨0, 0, 1, 5, 14, 5, 0⟩
def jB : JobV := ⟨1, 0, 3, 2, 11, 5, 0⟩
def jC : JobV := ⟨2, 0, 1, 5, 14, 5, 0⟩
theorem awP : putE [jA, jB] jC = 0 ∧ putV [jA, jB] jC = [jA, jC, jB] := ⟨by kernel_rfl, by kernel_rfl⟩
theorem awQ : putE [jA, jB] jB = 1200 ∧ putV [jA, jB] jB = [] := ⟨by kernel_rfl, by kernel_rfl⟩
theorem awF : firstV [jA, jB] = jA ∧ firstB [jA, jB] = true := ⟨by kernel_rfl, by kernel_rfl⟩
theorem awN : firstV [] = jz ∧ firstB [] = false := ⟨by kernel_rfl, by kernel_rfl⟩
theorem awM : leftV [jA, jB] 11 = [jA] ∧ lateV [jA, jB] 11 = [jB] ∧ rowMay [jA, jB] = true := ⟨by kernel_rfl, by kernel_rfl, by kernel_rfl⟩
set_option maxRecDepth 100000 in
set_option maxHeartbeats 8000000 in
theorem awake_from (w w0 : World) (hg0 : w.grownBy w0 none) : Calls Try.prog 21 #[] w0 fun e w' => e = .returned (.bool true) ∧ w.grownBy w' none := by
  have NUM := hide num_to
  have HG := hide hg0
  clear hg0
  go_enter Try.func21, Try.ntmps21
  go_wp2_with (first | fail)
  refine (mk_any 1 5 0 14 (by decide) (by decide) (by decide) _).mono ?_; rintro e w1 ⟨rfl, hg⟩
  have HGn := hide (grownBy_trans HG.out hg)
  clear HG
  have HG := HGn
  clear HGn
  clear hg
  go_wp2_with (first | fail)
  refine (mk_any 3 2 1 11 (by decide) (by decide) (by decide) _).mono ?_; rintro e w2 ⟨rfl, hg⟩
  have HGn := hide (grownBy_trans HG.out hg)
  clear HG
  have HG := HGn
  clear HGn
  clear hg
  go_upto_region 2 with (first | fail)
  have hg := World.grownBy_alloc w2 (.cells #[.int .i64 0, .int .i64 0, .int .i64 1, .int .i64 5, .int .i64 14, .int .i64 5, .int .i64 0, .int .i64 1, .int .i64 0, .int .i64 3, .int .i64 2, .int .i64 11, .int .i64 5, .int .i64 0] 24) none
  have HSq := hide (heap_alloc_new w2 (.cells #[.int .i64 0, .int .i64 0, .int .i64 1, .int .i64 5, .int .i64 14, .int .i64 5, .int .i64 0, .int .i64 1, .int .i64 0, .int .i64 3, .int .i64 2, .int .i64 11, .int .i64 5, .int .i64 0] 24))
  have LS := hide HG.out.size
  have HGn := hide (grownBy_trans HG.out hg)
  clear HG
  have HG := HGn
  clear HGn
  clear hg
  have HS := HSq
  clear HSq
  generalize hWx : w2.alloc (.cells #[.int .i64 0, .int .i64 0, .int .i64 1, .int .i64 5, .int .i64 14, .int .i64 5, .int .i64 0, .int .i64 1, .int .i64 0, .int .i64 3, .int .i64 2, .int .i64 11, .int .i64 5, .int .i64 0] 24) = w3 at *
  generalize hBx : w2.heap.size = BS at *
  clear hWx hBx
  go_wp2_with (first | fail)
  refine (mk_any 1 5 2 14 (by decide) (by decide) (by decide) _).mono ?_; rintro e w4 ⟨rfl, hg⟩
  have HGn := hide (grownBy_trans HG.out hg)
  have HSn := hide (box_grown HS.out hg (by simp))
  clear HG HS
  have HG := HGn
  have HS := HSn
  clear HGn HSn
  clear hg
  go_wp2_with (first | fail)
  refine (put_at (j := jC) (zs := [jA, jC, jB]) (E := 0) (N := 3) _ (blk_row (xs := [jA, jB]) (n := 2) HS.out rfl rfl (by decide)) awP.1 awP.2 rfl).mono ?_; rintro e w5 ⟨u1, c1, rfl, ho, hg⟩
  have HGn := hide (grownBy_trans HG.out hg)
  have HSn := hide (box_grown HS.out hg (by simp))
  clear HG HS
  have HG := HGn
  have HS := HSn
  clear HGn HSn
  clear hg
  have OA := hide (ho.base (Nat.zero_le _))
  clear ho
  go_wp2_with (first | fail)
  refine (mk_any 3 2 1 11 (by decide) (by decide) (by decide) _).mono ?_; rintro e w6 ⟨rfl, hg⟩
  have HGn := hide (grownBy_trans HG.out hg)
  have HSn := hide (box_grown HS.out hg (by simp))
  have OAn := hide (OA.out.grown hg)
  clear HG HS OA
  have HG := HGn
  have HS := HSn
  have OA := OAn
  clear HGn HSn OAn
  clear hg
  go_wp2_with (first | fail)
  refine (put_at (j := jB) (zs := []) (E := 1200) (N := 0) _ (blk_row (xs := [jA, jB]) (n := 2) HS.out rfl rfl (by decide)) awQ.1 awQ.2 rfl).mono ?_; rintro e w7 ⟨u2, c2, rfl, ho, hg⟩
  have HGn := hide (grownBy_trans HG.out hg)
  have HSn := hide (box_grown HS.out hg (by simp))
  have OAn := hide (OA.out.grown hg)
  clear HG HS OA
  have HG := HGn
  have HS := HSn
  have OA := OAn
  clear HGn HSn OAn
  clear hg
  clear ho
  go_wp2_with (first | fail)
  refine (first_at (x := ⟨0, 0, 1, 5, 14, 5, 0⟩) (b := true) _ (blk_row (xs := [jA, jB]) (n := 2) HS.out rfl rfl (by decide)) awF.1 awF.2).mono ?_; rintro e w8 ⟨rfl, hg⟩
  have HGn := hide (grownBy_trans HG.out hg)
  have HSn := hide (box_grown HS.out hg (by simp))
  have OAn := hide (OA.out.grown hg)
  clear HG HS OA
  have HG := HGn
  have HS := HSn
  have OA := OAn
  clear HGn HSn OAn
  clear hg
  go_upto_region 5 with (first | fail)
  have hg := World.grownBy_alloc w8 (.cells #[.int .i64 0, .int .i64 0, .int .i64 1, .int .i64 5, .int .i64 14, .int .i64 5, .int .i64 0] 24) none
  have HXq := hide (heap_alloc_new w8 (.cells #[.int .i64 0, .int .i64 0, .int .i64 1, .int .i64 5, .int .i64 14, .int .i64 5, .int .i64 0] 24))
  have LX := hide HG.out.size
  have HGn := hide (grownBy_trans HG.out hg)
  have HSn := hide (box_grown HS.out hg (by simp))
  have OAn := hide (OA.out.grown hg)
  clear HG HS OA
  have HG := HGn
  have HS := HSn
  have OA := OAn
  clear HGn HSn OAn
  clear hg
  have HX := HXq
  clear HXq
  generalize hWx : w8.alloc (.cells #[.int .i64 0, .int .i64 0, .int .i64 1, .int .i64 5, .int .i64 14, .int .i64 5, .int .i64 0] 24) = w9 at *
  generalize hBx : w8.heap.size = BX at *
  clear hWx hBx
  go_wp2_with (first | fail)
  refine (miss_at (now := 11) (z1 := [jA]) (z2 := [jB]) (N1 := 1) (N2 := 1) _ (blk_row (xs := [jA, jB]) (n := 2) HS.out rfl rfl (by decide)) awM.1 awM.2.1 rfl rfl).mono ?_; rintro e w10 ⟨u3, c3, u4, c4, rfl, ho, ho2, hf, hg⟩
  have HGn := hide (grownBy_trans HG.out hg)
  have HSn := hide (box_grown HS.out hg (by simp))
  have HXn := hide (box_grown HX.out hg (by simp))
  have OAn := hide (OA.out.grown hg)
  clear HG HS HX OA
  have HG := HGn
  have HS := HSn
  have HX := HXn
  have OA := OAn
  clear HGn HSn HXn OAn
  clear hg
  have OL := hide (ho.base (Nat.zero_le _))
  clear ho
  have OT := hide (ho2.base (Nat.zero_le _))
  clear ho2 hf
  go_wp2_with (first | fail)
  refine (first_at (x := ⟨0, 0, 0, 0, 0, 0, 0⟩) (b := false) _ (rowAt_nil 0 _ none 0) awN.1 awN.2).mono ?_; rintro e w11 ⟨rfl, hg⟩
  have HGn := hide (grownBy_trans HG.out hg)
  have HSn := hide (box_grown HS.out hg (by simp))
  have HXn := hide (box_grown HX.out hg (by simp))
  have OAn := hide (OA.out.grown hg)
  have OLn := hide (OL.out.grown hg)
  have OTn := hide (OT.out.grown hg)
  clear HG HS HX OA OL OT
  have HG := HGn
  have HS := HSn
  have HX := HXn
  have OA := OAn
  have OL := OLn
  have OT := OTn
  clear HGn HSn HXn OAn OLn OTn
  clear hg
  go_upto_region 7 with (first | fail)
  have hg := World.grownBy_alloc w11 (.cells #[.int .i64 0, .int .i64 0, .int .i64 0, .int .i64 0, .int .i64 0, .int .i64 0, .int .i64 0] 24) none
  have HYq := hide (heap_alloc_new w11 (.cells #[.int .i64 0, .int .i64 0, .int .i64 0, .int .i64 0, .int .i64 0, .int .i64 0, .int .i64 0] 24))
  have LY := hide HG.out.size
  have HGn := hide (grownBy_trans HG.out hg)
  have HSn := hide (box_grown HS.out hg (by simp))
  have HXn := hide (box_grown HX.out hg (by simp))
  have OAn := hide (OA.out.grown hg)
  have OLn := hide (OL.out.grown hg)
  have OTn := hide (OT.out.grown hg)
  clear HG HS HX OA OL OT
  have HG := HGn
  have HS := HSn
  have HX := HXn
  have OA := OAn
  have OL := OLn
  have OT := OTn
  clear HGn HSn HXn OAn OLn OTn
  clear hg
  have HY := HYq
  clear HYq
  generalize hWx : w11.alloc (.cells #[.int .i64 0, .int .i64 0, .int .i64 0, .int .i64 0, .int .i64 0, .int .i64 0, .int .i64 0] 24) = w12 at *
  generalize hBx : w11.heap.size = BY at *
  clear hWx hBx
  have HSS : Hid ((fun W => W.heap[BX]? = some (.cells #[.int .i64 0, .int .i64 0, .int .i64 1, .int .i64 5, .int .i64 14, .int .i64 5, .int .i64 0] 24 (0, 0)) ∧ W.heap[BS]? = some (.cells #[.int .i64 0, .int .i64 0, .int .i64 1, .int .i64 5, .int .i64 14, .int .i64 5, .int .i64 0, .int .i64 1, .int .i64 0, .int .i64 3, .int .i64 2, .int .i64 11, .int .i64 5, .int .i64 0] 24 (0, 0))) w12) := hide ⟨HX.out, HS.out⟩
  refine wp_region_held_drew (S := fun W => W.heap[BX]? = some (.cells #[.int .i64 0, .int .i64 0, .int .i64 1, .int .i64 5, .int .i64 14, .int .i64 5, .int .i64 0] 24 (0, 0)) ∧ W.heap[BS]? = some (.cells #[.int .i64 0, .int .i64 0, .int .i64 1, .int .i64 5, .int .i64 14, .int .i64 5, .int .i64 0, .int .i64 1, .int .i64 0, .int .i64 3, .int .i64 2, .int .i64 11, .int .i64 5, .int .i64 0] 24 (0, 0))) (by kernel_rfl) HSS.out (fun hHeld => ?_)
  have HGd : Hid (w.grownBy w12.drew none) := hide (grownBy_trans HG.out (grownBy_draws w12 1 none))
  have HSSd : Hid ((fun W => W.heap[BX]? = some (.cells #[.int .i64 0, .int .i64 0, .int .i64 1, .int .i64 5, .int .i64 14, .int .i64 5, .int .i64 0] 24 (0, 0)) ∧ W.heap[BS]? = some (.cells #[.int .i64 0, .int .i64 0, .int .i64 1, .int .i64 5, .int .i64 14, .int .i64 5, .int .i64 0, .int .i64 1, .int .i64 0, .int .i64 3, .int .i64 2, .int .i64 11, .int .i64 5, .int .i64 0] 24 (0, 0))) w12.drew) := hide HSS.out
  have OAd := hide (OA.out.grown (grownBy_draws w12 1 none))
  have OLd := hide (OL.out.grown (grownBy_draws w12 1 none))
  have OTd := hide (OT.out.grown (grownBy_draws w12 1 none))
  clear HG HS HX HY HSS OA OL OT
  have hdd : w12.drewN 1 = w12.drew := rfl
  rw [hdd] at OAd OLd OTd
  clear hdd
  generalize w12.drew = W at *
  have HG := HGd
  have HSS := HSSd
  have OA := OAd
  have OL := OLd
  have OT := OTd
  clear HGd HSSd OAd OLd OTd
  refine take_put (i := 0) (v := .slice u1 3 c1) 41 rfl rfl (by kernel_rfl) (by kernel_rfl) (by kernel_rfl) (fun _ _ _ h => h) (Or.inl ⟨by rfl, by intro Wy hSW; go_simp⟩) (by assumption) ?_
  (try simp only [Act.put, List.setIfInBounds_toArray, List.set_cons_zero, List.set_cons_succ])
  refine wpAnyH_ready (rs := [1]) (by kernel_rfl) (by simp) ?_
  refine AllReadyH.cons rfl (fun Kx hKx => ?_) AllReadyH.nil
  go_simp
  refine (mk_any 1 5 0 14 (by decide) (by decide) (by decide) _).mono ?_; rintro e W1 ⟨rfl, hg⟩
  have HGn := hide (grownBy_trans HG.out hg)
  have HSSn : Hid ((fun W => W.heap[BX]? = some (.cells #[.int .i64 0, .int .i64 0, .int .i64 1, .int .i64 5, .int .i64 14, .int .i64 5, .int .i64 0] 24 (0, 0)) ∧ W.heap[BS]? = some (.cells #[.int .i64 0, .int .i64 0, .int .i64 1, .int .i64 5, .int .i64 14, .int .i64 5, .int .i64 0, .int .i64 1, .int .i64 0, .int .i64 3, .int .i64 2, .int .i64 11, .int .i64 5, .int .i64 0] 24 (0, 0))) W1) := hide ⟨box_grown HSS.out.1 hg (by simp), box_grown HSS.out.2 hg (by simp)⟩
  have OAn := hide (OA.out.grown hg)
  have OLn := hide (OL.out.grown hg)
  have OTn := hide (OT.out.grown hg)
  clear HG HSS OA OL OT hHeld
  have HG := HGn
  have HSS := HSSn
  have OA := OAn
  have OL := OLn
  have OT := OTn
  clear HGn HSSn OAn OLn OTn
  clear hg
  refine hKx.out _ _ HSS.out (fun hHeld => ?_)
  clear hKx Kx
  (try simp only [Act.put])
  refine wpAnyH_ready (rs := [2]) (by kernel_rfl) (by simp) ?_
  refine AllReadyH.cons rfl (fun Kx hKx => ?_) AllReadyH.nil
  go_simp
  refine (mk_any 1 5 2 14 (by decide) (by decide) (by decide) _).mono ?_; rintro e W2 ⟨rfl, hg⟩
  have HGn := hide (grownBy_trans HG.out hg)
  have HSSn : Hid ((fun W => W.heap[BX]? = some (.cells #[.int .i64 0, .int .i64 0, .int .i64 1, .int .i64 5, .int .i64 14, .int .i64 5, .int .i64 0] 24 (0, 0)) ∧ W.heap[BS]? = some (.cells #[.int .i64 0, .int .i64 0, .int .i64 1, .int .i64 5, .int .i64 14, .int .i64 5, .int .i64 0, .int .i64 1, .int .i64 0, .int .i64 3, .int .i64 2, .int .i64 11, .int .i64 5, .int .i64 0] 24 (0, 0))) W2) := hide ⟨box_grown HSS.out.1 hg (by simp), box_grown HSS.out.2 hg (by simp)⟩
  have OAn := hide (OA.out.grown hg)
  have OLn := hide (OL.out.grown hg)
  have OTn := hide (OT.out.grown hg)
  clear HG HSS OA OL OT hHeld
  have HG := HGn
  have HSS := HSSn
  have OA := OAn
  have OL := OLn
  have OT := OTn
  clear HGn HSSn OAn OLn OTn
  clear hg
  refine hKx.out _ _ HSS.out (fun hHeld => ?_)
  clear hKx Kx
  (try simp only [Act.put])
  refine wpAnyH_ready (rs := [3]) (by kernel_rfl) (by simp) ?_
  refine AllReadyH.cons rfl (fun Kx hKx => ?_) AllReadyH.nil
  go_simp
  refine (mk_any 3 2 1 11 (by decide) (by decide) (by decide) _).mono ?_; rintro e W3 ⟨rfl, hg⟩
  have HGn := hide (grownBy_trans HG.out hg)
  have HSSn : Hid ((fun W => W.heap[BX]? = some (.cells #[.int .i64 0, .int .i64 0, .int .i64 1, .int .i64 5, .int .i64 14, .int .i64 5, .int .i64 0] 24 (0, 0)) ∧ W.heap[BS]? = some (.cells #[.int .i64 0, .int .i64 0, .int .i64 1, .int .i64 5, .int .i64 14, .int .i64 5, .int .i64 0, .int .i64 1, .int .i64 0, .int .i64 3, .int .i64 2, .int .i64 11, .int .i64 5, .int .i64 0] 24 (0, 0))) W3) := hide ⟨box_grown HSS.out.1 hg (by simp), box_grown HSS.out.2 hg (by simp)⟩
  have OAn := hide (OA.out.grown hg)
  have OLn := hide (OL.out.grown hg)
  have OTn := hide (OT.out.grown hg)
  clear HG HSS OA OL OT hHeld
  have HG := HGn
  have HSS := HSSn
  have OA := OAn
  have OL := OLn
  have OT := OTn
  clear HGn HSSn OAn OLn OTn
  clear hg
  refine hKx.out _ _ HSS.out (fun hHeld => ?_)
  clear hKx Kx
  (try simp only [Act.put])
  refine wpAnyH_ready (rs := [4]) (by kernel_rfl) (by simp) ?_
  refine AllReadyH.cons rfl (fun Kx hKx => ?_) AllReadyH.nil
  go_simp
  have hg := World.grownBy_alloc W3 (.cells #[.int .i64 0, .int .i64 0, .int .i64 1, .int .i64 5, .int .i64 14, .int .i64 5, .int .i64 0, .int .i64 2, .int .i64 0, .int .i64 1, .int .i64 5, .int .i64 14, .int .i64 5, .int .i64 0, .int .i64 1, .int .i64 0, .int .i64 3, .int .i64 2, .int .i64 11, .int .i64 5, .int .i64 0] 24) none
  have HLq := hide (heap_alloc_new W3 (.cells #[.int .i64 0, .int .i64 0, .int .i64 1, .int .i64 5, .int .i64 14, .int .i64 5, .int .i64 0, .int .i64 2, .int .i64 0, .int .i64 1, .int .i64 5, .int .i64 14, .int .i64 5, .int .i64 0, .int .i64 1, .int .i64 0, .int .i64 3, .int .i64 2, .int .i64 11, .int .i64 5, .int .i64 0] 24))
  have HGn := hide (grownBy_trans HG.out hg)
  have HSSn : Hid ((fun W => W.heap[BX]? = some (.cells #[.int .i64 0, .int .i64 0, .int .i64 1, .int .i64 5, .int .i64 14, .int .i64 5, .int .i64 0] 24 (0, 0)) ∧ W.heap[BS]? = some (.cells #[.int .i64 0, .int .i64 0, .int .i64 1, .int .i64 5, .int .i64 14, .int .i64 5, .int .i64 0, .int .i64 1, .int .i64 0, .int .i64 3, .int .i64 2, .int .i64 11, .int .i64 5, .int .i64 0] 24 (0, 0))) (W3.alloc (.cells #[.int .i64 0, .int .i64 0, .int .i64 1, .int .i64 5, .int .i64 14, .int .i64 5, .int .i64 0, .int .i64 2, .int .i64 0, .int .i64 1, .int .i64 5, .int .i64 14, .int .i64 5, .int .i64 0, .int .i64 1, .int .i64 0, .int .i64 3, .int .i64 2, .int .i64 11, .int .i64 5, .int .i64 0] 24))) := hide ⟨box_grown HSS.out.1 hg (by simp), box_grown HSS.out.2 hg (by simp)⟩
  have OAn := hide (OA.out.grown hg)
  have OLn := hide (OL.out.grown hg)
  have OTn := hide (OT.out.grown hg)
  clear HG HSS OA OL OT hHeld
  have HG := HGn
  have HSS := HSSn
  have OA := OAn
  have OL := OLn
  have OT := OTn
  clear HGn HSSn OAn OLn OTn
  clear hg
  refine hKx.out _ _ HSS.out (fun hHeld => ?_)
  clear hKx Kx
  (try simp only [Act.put])
  generalize W3.alloc (.cells #[.int .i64 0, .int .i64 0, .int .i64 1, .int .i64 5, .int .i64 14, .int .i64 5, .int .i64 0, .int .i64 2, .int .i64 0, .int .i64 1, .int .i64 5, .int .i64 14, .int .i64 5, .int .i64 0, .int .i64 1, .int .i64 0, .int .i64 3, .int .i64 2, .int .i64 11, .int .i64 5, .int .i64 0] 24) = W4 at *
  generalize W3.heap.size = g3 at *
  refine wpAnyH_ready (rs := [5]) (by kernel_rfl) (by simp) ?_
  refine AllReadyH.cons rfl (fun Kx hKx => ?_) AllReadyH.nil
  go_simp
  refine (same_at (zs := [jA, jC, jB]) _ OA.out.row (blk_row (xs := [jA, jC, jB]) (n := 3) HLq.out rfl rfl (by decide))).mono ?_; rintro e W5 ⟨rfl, hg⟩
  have HGn := hide (grownBy_trans HG.out hg)
  have HSSn : Hid ((fun W => W.heap[BX]? = some (.cells #[.int .i64 0, .int .i64 0, .int .i64 1, .int .i64 5, .int .i64 14, .int .i64 5, .int .i64 0] 24 (0, 0)) ∧ W.heap[BS]? = some (.cells #[.int .i64 0, .int .i64 0, .int .i64 1, .int .i64 5, .int .i64 14, .int .i64 5, .int .i64 0, .int .i64 1, .int .i64 0, .int .i64 3, .int .i64 2, .int .i64 11, .int .i64 5, .int .i64 0] 24 (0, 0))) W5) := hide ⟨box_grown HSS.out.1 hg (by simp), box_grown HSS.out.2 hg (by simp)⟩
  have OAn := hide (OA.out.grown hg)
  have OLn := hide (OL.out.grown hg)
  have OTn := hide (OT.out.grown hg)
  clear HG HSS OA OL OT hHeld
  have HG := HGn
  have HSS := HSSn
  have OA := OAn
  have OL := OLn
  have OT := OTn
  clear HGn HSSn OAn OLn OTn
  clear hg
  refine hKx.out _ _ HSS.out (fun hHeld => ?_)
  clear hKx Kx
  (try simp only [Act.put])
  refine take_put (i := 6) (v := .bool true) 47 rfl rfl (by kernel_rfl) (by kernel_rfl) (by kernel_rfl) (fun _ _ _ h => h) (Or.inl ⟨by rfl, by intro Wy hSW; go_simp⟩) (by assumption) ?_
  (try simp only [Act.put, List.setIfInBounds_toArray, List.set_cons_zero, List.set_cons_succ])
  refine take_put (i := 7) (v := .int .i64 0) 48 rfl rfl (by kernel_rfl) (by kernel_rfl) (by kernel_rfl) (fun _ _ _ h => h) (Or.inl ⟨by rfl, by intro Wy hSW; go_simp⟩) (by assumption) ?_
  (try simp only [Act.put, List.setIfInBounds_toArray, List.set_cons_zero, List.set_cons_succ])
  refine wpAnyH_ready (rs := [8]) (by kernel_rfl) (by simp) ?_
  refine AllReadyH.cons rfl (fun Kx hKx => ?_) AllReadyH.nil
  go_simp
  refine (NUM.out _ _).mono ?_; rintro e wn ⟨rfl, rfl⟩
  clear hHeld
  refine hKx.out _ _ HSS.out (fun hHeld => ?_)
  clear hKx Kx
  (try simp only [Act.put])
  refine take_put (i := 9) (v := .bool true) 50 rfl rfl (by kernel_rfl) (by kernel_rfl) (by kernel_rfl) (fun _ _ _ h => h) (Or.inl ⟨by rfl, by intro Wy hSW; go_simp⟩) (by assumption) ?_
  (try simp only [Act.put, List.setIfInBounds_toArray, List.set_cons_zero, List.set_cons_succ])
  refine take_put (i := 10) (v := .bool true) 51 rfl rfl (by kernel_rfl) (by kernel_rfl) (by kernel_rfl) (fun _ _ _ h => h) (Or.inl ⟨by rfl, by intro Wy hSW; go_simp⟩) (by assumption) ?_
  (try simp only [Act.put, List.setIfInBounds_toArray, List.set_cons_zero, List.set_cons_succ])
  refine take_put (i := 11) (v := .bool true) 52 rfl rfl (by kernel_rfl) (by kernel_rfl) (by kernel_rfl) (fun _ _ _ h => h) (Or.inl ⟨by rfl, by intro Wy hSW; go_simp⟩) (by assumption) ?_
  (try simp only [Act.put, List.setIfInBounds_toArray, List.set_cons_zero, List.set_cons_succ])
  refine take_put (i := 12) (v := .int .i64 1200) 53 rfl rfl (by kernel_rfl) (by kernel_rfl) (by kernel_rfl) (fun _ _ _ h => h) (Or.inl ⟨by rfl, by intro Wy hSW; go_simp⟩) (by assumption) ?_
  (try simp only [Act.put, List.setIfInBounds_toArray, List.set_cons_zero, List.set_cons_succ])
  refine wpAnyH_ready (rs := [13]) (by kernel_rfl) (by simp) ?_
  refine AllReadyH.cons rfl (fun Kx hKx => ?_) AllReadyH.nil
  go_simp
  refine (NUM.out _ _).mono ?_; rintro e wn ⟨rfl, rfl⟩
  clear hHeld
  refine hKx.out _ _ HSS.out (fun hHeld => ?_)
  clear hKx Kx
  (try simp only [Act.put])
  refine take_put (i := 14) (v := .bool true) 55 rfl rfl (by kernel_rfl) (by kernel_rfl) (by kernel_rfl) (fun _ _ _ h => h) (Or.inl ⟨by rfl, by intro Wy hSW; go_simp⟩) (by assumption) ?_
  (try simp only [Act.put, List.setIfInBounds_toArray, List.set_cons_zero, List.set_cons_succ])
  refine take_put (i := 15) (v := .bool true) 56 rfl rfl (by kernel_rfl) (by kernel_rfl) (by kernel_rfl) (fun _ _ _ h => h) (Or.inl ⟨by rfl, by intro Wy hSW; go_simp⟩) (by assumption) ?_
  (try simp only [Act.put, List.setIfInBounds_toArray, List.set_cons_zero, List.set_cons_succ])
  refine take_put (i := 16) (v := .bool true) 57 rfl rfl (by kernel_rfl) (by kernel_rfl) (by kernel_rfl) (fun _ _ _ h => h) (Or.inl ⟨by rfl, by intro Wy hSW; go_simp⟩) (by assumption) ?_
  (try simp only [Act.put, List.setIfInBounds_toArray, List.set_cons_zero, List.set_cons_succ])
  refine take_put (i := 17) (v := .bool true) 58 rfl rfl (by kernel_rfl) (by kernel_rfl) (by kernel_rfl) (fun _ _ _ h => h) (Or.inl ⟨by rfl, by intro Wy hSW; go_simp⟩) (by assumption) ?_
  (try simp only [Act.put, List.setIfInBounds_toArray, List.set_cons_zero, List.set_cons_succ])
  refine take_put (i := 18) (v := .bool true) 59 rfl rfl (by kernel_rfl) (by kernel_rfl) (by kernel_rfl) (fun _ _ _ h => h) (Or.inl ⟨by rfl, by intro Wy hSW; go_simp⟩) (by assumption) ?_
  (try simp only [Act.put, List.setIfInBounds_toArray, List.set_cons_zero, List.set_cons_succ])
  refine take_put (i := 19) (v := .bool true) 60 rfl rfl (by kernel_rfl) (by kernel_rfl) (by kernel_rfl) (fun _ _ _ h => h) (Or.inl ⟨by rfl, by intro Wy hSW; go_simp⟩) (by assumption) ?_
  (try simp only [Act.put, List.setIfInBounds_toArray, List.set_cons_zero, List.set_cons_succ])
  refine take_put (i := 20) (v := .agg #[.int .i64 0, .int .i64 0, .int .i64 1, .int .i64 5, .int .i64 14, .int .i64 5, .int .i64 0]) 61 rfl rfl (by kernel_rfl) (by kernel_rfl) (by kernel_rfl) (fun _ _ _ h => h) (Or.inl ⟨by rfl, by intro Wy hSW; have hc := (⟨blk_cell hSW.1 0, blk_cell hSW.1 1, blk_cell hSW.1 2, blk_cell hSW.1 3, blk_cell hSW.1 4, blk_cell hSW.1 5, blk_cell hSW.1 6⟩ : _ ∧ _ ∧ _ ∧ _ ∧ _ ∧ _ ∧ _); go_simp⟩) (by assumption) ?_
  (try simp only [Act.put, List.setIfInBounds_toArray, List.set_cons_zero, List.set_cons_succ])
  refine take_put (i := 21) (v := .slice (some ⟨BS, 0, none⟩) 2 2) 62 rfl rfl (by kernel_rfl) (by kernel_rfl) (by kernel_rfl) (fun _ _ _ h => h) (Or.inl ⟨by rfl, by intro Wy hSW; go_simp⟩) (by assumption) ?_
  (try simp only [Act.put, List.setIfInBounds_toArray, List.set_cons_zero, List.set_cons_succ])
  refine take_put (i := 22) (v := .pointer (some ⟨BS, 0, none⟩)) 63 rfl rfl (by kernel_rfl) (by kernel_rfl) (by kernel_rfl) (fun _ _ _ h => h) (Or.inl ⟨by rfl, by intro Wy hSW; go_simp⟩) (by assumption) ?_
  (try simp only [Act.put, List.setIfInBounds_toArray, List.set_cons_zero, List.set_cons_succ])
  refine take_put (i := 23) (v := .agg #[.int .i64 0, .int .i64 0, .int .i64 1, .int .i64 5, .int .i64 14, .int .i64 5, .int .i64 0]) 64 rfl rfl (by kernel_rfl) (by kernel_rfl) (by kernel_rfl) (fun _ _ _ h => h) (Or.inl ⟨by rfl, by intro Wy hSW; have hc := (⟨blk_cell hSW.2 0, blk_cell hSW.2 1, blk_cell hSW.2 2, blk_cell hSW.2 3, blk_cell hSW.2 4, blk_cell hSW.2 5, blk_cell hSW.2 6⟩ : _ ∧ _ ∧ _ ∧ _ ∧ _ ∧ _ ∧ _); go_simp⟩) (by assumption) ?_
  (try simp only [Act.put, List.setIfInBounds_toArray, List.set_cons_zero, List.set_cons_succ])
  refine take_put (i := 24) (v := .bool true) 65 rfl rfl (by kernel_rfl) (by kernel_rfl) (by kernel_rfl) (fun _ _ _ h => h) (Or.inl ⟨by rfl, by intro Wy hSW; go_simp⟩) (by assumption) ?_
  (try simp only [Act.put, List.setIfInBounds_toArray, List.set_cons_zero, List.set_cons_succ])
  refine take_put (i := 25) (v := .bool true) 66 rfl rfl (by kernel_rfl) (by kernel_rfl) (by kernel_rfl) (fun _ _ _ h => h) (Or.inl ⟨by rfl, by intro Wy hSW; go_simp⟩) (by assumption) ?_
  (try simp only [Act.put, List.setIfInBounds_toArray, List.set_cons_zero, List.set_cons_succ])
  refine take_put (i := 26) (v := .bool true) 67 rfl rfl (by kernel_rfl) (by kernel_rfl) (by kernel_rfl) (fun _ _ _ h => h) (Or.inl ⟨by rfl, by intro Wy hSW; go_simp⟩) (by assumption) ?_
  (try simp only [Act.put, List.setIfInBounds_toArray, List.set_cons_zero, List.set_cons_succ])
  refine take_put (i := 27) (v := .bool false) 68 rfl rfl (by kernel_rfl) (by kernel_rfl) (by kernel_rfl) (fun _ _ _ h => h) (Or.inl ⟨by rfl, by intro Wy hSW; go_simp⟩) (by assumption) ?_
  (try simp only [Act.put, List.setIfInBounds_toArray, List.set_cons_zero, List.set_cons_succ])
  refine take_put (i := 28) (v := .bool true) 69 rfl rfl (by kernel_rfl) (by kernel_rfl) (by kernel_rfl) (fun _ _ _ h => h) (Or.inl ⟨by rfl, by intro Wy hSW; go_simp⟩) (by assumption) ?_
  (try simp only [Act.put, List.setIfInBounds_toArray, List.set_cons_zero, List.set_cons_succ])
  refine take_put (i := 29) (v := .bool true) 70 rfl rfl (by kernel_rfl) (by kernel_rfl) (by kernel_rfl) (fun _ _ _ h => h) (Or.inl ⟨by rfl, by intro Wy hSW; go_simp⟩) (by assumption) ?_
  (try simp only [Act.put, List.setIfInBounds_toArray, List.set_cons_zero, List.set_cons_succ])
  refine take_put (i := 30) (v := .bool true) 71 rfl rfl (by kernel_rfl) (by kernel_rfl) (by kernel_rfl) (fun _ _ _ h => h) (Or.inl ⟨by rfl, by intro Wy hSW; go_simp⟩) (by assumption) ?_
  (try simp only [Act.put, List.setIfInBounds_toArray, List.set_cons_zero, List.set_cons_succ])
  refine take_put (i := 31) (v := .slice u3 1 c3) 72 rfl rfl (by kernel_rfl) (by kernel_rfl) (by kernel_rfl) (fun _ _ _ h => h) (Or.inl ⟨by rfl, by intro Wy hSW; go_simp⟩) (by assumption) ?_
  (try simp only [Act.put, List.setIfInBounds_toArray, List.set_cons_zero, List.set_cons_succ])
  refine take_put (i := 32) (v := .slice (some ⟨BS, 0, none⟩) 2 2) 73 rfl rfl (by kernel_rfl) (by kernel_rfl) (by kernel_rfl) (fun _ _ _ h => h) (Or.inl ⟨by rfl, by intro Wy hSW; go_simp⟩) (by assumption) ?_
  (try simp only [Act.put, List.setIfInBounds_toArray, List.set_cons_zero, List.set_cons_succ])
  refine take_put (i := 33) (v := .slice (some ⟨BS, 0, none⟩) 1 2) 74 rfl rfl (by kernel_rfl) (by kernel_rfl) (by kernel_rfl) (fun _ _ _ h => h) (Or.inl ⟨by rfl, by intro Wy hSW; go_simp⟩) (by assumption) ?_
  (try simp only [Act.put, List.setIfInBounds_toArray, List.set_cons_zero, List.set_cons_succ])
  refine wpAnyH_ready (rs := [34]) (by kernel_rfl) (by simp) ?_
  refine AllReadyH.cons rfl (fun Kx hKx => ?_) AllReadyH.nil
  go_simp
  refine (same_at (zs := [jA]) _ OL.out.row (row_take (p := 1) (blk_row (xs := [jA, jB]) (n := 2) HSS.out.2 rfl rfl (by decide)) (by decide))).mono ?_; rintro e W8 ⟨rfl, hg⟩
  have HGn := hide (grownBy_trans HG.out hg)
  have HSSn : Hid ((fun W => W.heap[BX]? = some (.cells #[.int .i64 0, .int .i64 0, .int .i64 1, .int .i64 5, .int .i64 14, .int .i64 5, .int .i64 0] 24 (0, 0)) ∧ W.heap[BS]? = some (.cells #[.int .i64 0, .int .i64 0, .int .i64 1, .int .i64 5, .int .i64 14, .int .i64 5, .int .i64 0, .int .i64 1, .int .i64 0, .int .i64 3, .int .i64 2, .int .i64 11, .int .i64 5, .int .i64 0] 24 (0, 0))) W8) := hide ⟨box_grown HSS.out.1 hg (by simp), box_grown HSS.out.2 hg (by simp)⟩
  have OAn := hide (OA.out.grown hg)
  have OLn := hide (OL.out.grown hg)
  have OTn := hide (OT.out.grown hg)
  clear HG HSS OA OL OT hHeld
  have HG := HGn
  have HSS := HSSn
  have OA := OAn
  have OL := OLn
  have OT := OTn
  clear HGn HSSn OAn OLn OTn
  clear hg
  refine hKx.out _ _ HSS.out (fun hHeld => ?_)
  clear hKx Kx
  (try simp only [Act.put])
  refine take_put (i := 35) (v := .bool true) 76 rfl rfl (by kernel_rfl) (by kernel_rfl) (by kernel_rfl) (fun _ _ _ h => h) (Or.inl ⟨by rfl, by intro Wy hSW; go_simp⟩) (by assumption) ?_
  (try simp only [Act.put, List.setIfInBounds_toArray, List.set_cons_zero, List.set_cons_succ])
  refine take_put (i := 36) (v := .bool true) 77 rfl rfl (by kernel_rfl) (by kernel_rfl) (by kernel_rfl) (fun _ _ _ h => h) (Or.inl ⟨by rfl, by intro Wy hSW; go_simp⟩) (by assumption) ?_
  (try simp only [Act.put, List.setIfInBounds_toArray, List.set_cons_zero, List.set_cons_succ])
  refine take_put (i := 37) (v := .slice u4 1 c4) 78 rfl rfl (by kernel_rfl) (by kernel_rfl) (by kernel_rfl) (fun _ _ _ h => h) (Or.inl ⟨by rfl, by intro Wy hSW; go_simp⟩) (by assumption) ?_
  (try simp only [Act.put, List.setIfInBounds_toArray, List.set_cons_zero, List.set_cons_succ])
  refine take_put (i := 38) (v := .slice (some ⟨BS, 0, none⟩) 2 2) 79 rfl rfl (by kernel_rfl) (by kernel_rfl) (by kernel_rfl) (fun _ _ _ h => h) (Or.inl ⟨by rfl, by intro Wy hSW; go_simp⟩) (by assumption) ?_
  (try simp only [Act.put, List.setIfInBounds_toArray, List.set_cons_zero, List.set_cons_succ])
  refine take_put (i := 39) (v := .slice (some ⟨BS, 7, none⟩) 1 1) 80 rfl rfl (by kernel_rfl) (by kernel_rfl) (by kernel_rfl) (fun _ _ _ h => h) (Or.inl ⟨by rfl, by intro Wy hSW; go_simp⟩) (by assumption) ?_
  (try simp only [Act.put, List.setIfInBounds_toArray, List.set_cons_zero, List.set_cons_succ])
  refine wpAnyH_ready (rs := [40]) (by kernel_rfl) (by simp) ?_
  refine AllReadyH.cons rfl (fun Kx hKx => ?_) AllReadyH.nil
  go_simp
  refine (same_at (zs := [jB]) _ OT.out.row (row_drop (p := 1) (blk_row (xs := [jA, jB]) (n := 2) HSS.out.2 rfl rfl (by decide)) (by decide))).mono ?_; rintro e W9 ⟨rfl, hg⟩
  have HGn := hide (grownBy_trans HG.out hg)
  have HSSn : Hid ((fun W => W.heap[BX]? = some (.cells #[.int .i64 0, .int .i64 0, .int .i64 1, .int .i64 5, .int .i64 14, .int .i64 5, .int .i64 0] 24 (0, 0)) ∧ W.heap[BS]? = some (.cells #[.int .i64 0, .int .i64 0, .int .i64 1, .int .i64 5, .int .i64 14, .int .i64 5, .int .i64 0, .int .i64 1, .int .i64 0, .int .i64 3, .int .i64 2, .int .i64 11, .int .i64 5, .int .i64 0] 24 (0, 0))) W9) := hide ⟨box_grown HSS.out.1 hg (by simp), box_grown HSS.out.2 hg (by simp)⟩
  have OAn := hide (OA.out.grown hg)
  have OLn := hide (OL.out.grown hg)
  have OTn := hide (OT.out.grown hg)
  clear HG HSS OA OL OT hHeld
  have HG := HGn
  have HSS := HSSn
  have OA := OAn
  have OL := OLn
  have OT := OTn
  clear HGn HSSn OAn OLn OTn
  clear hg
  refine hKx.out _ _ HSS.out (fun hHeld => ?_)
  clear hKx Kx
  (try simp only [Act.put])
  refine take_put (i := 41) (v := .bool true) 82 rfl rfl (by kernel_rfl) (by kernel_rfl) (by kernel_rfl) (fun _ _ _ h => h) (Or.inl ⟨by rfl, by intro Wy hSW; go_simp⟩) (by assumption) ?_
  (try simp only [Act.put, List.setIfInBounds_toArray, List.set_cons_zero, List.set_cons_succ])
  refine take_put (i := 42) (v := .bool true) 83 rfl rfl (by kernel_rfl) (by kernel_rfl) (by kernel_rfl) (fun _ _ _ h => h) (Or.inl ⟨by rfl, by intro Wy hSW; go_simp⟩) (by assumption) ?_
  (try simp only [Act.put, List.setIfInBounds_toArray, List.set_cons_zero, List.set_cons_succ])
  refine take_put (i := 43) (v := .slice (some ⟨BS, 0, none⟩) 2 2) 84 rfl rfl (by kernel_rfl) (by kernel_rfl) (by kernel_rfl) (fun _ _ _ h => h) (Or.inl ⟨by rfl, by intro Wy hSW; go_simp⟩) (by assumption) ?_
  (try simp only [Act.put, List.setIfInBounds_toArray, List.set_cons_zero, List.set_cons_succ])
  refine wpAnyH_ready (rs := [44]) (by kernel_rfl) (by simp) ?_
  refine AllReadyH.cons rfl (fun Kx hKx => ?_) AllReadyH.nil
  go_simp
  refine (may_at (b := true) _ (blk_row (xs := [jA, jB]) (n := 2) HSS.out.2 rfl rfl (by decide)) awM.2.2).mono ?_; rintro e W10 ⟨rfl, hg⟩
  have HGn := hide (grownBy_trans HG.out hg)
  have HSSn : Hid ((fun W => W.heap[BX]? = some (.cells #[.int .i64 0, .int .i64 0, .int .i64 1, .int .i64 5, .int .i64 14, .int .i64 5, .int .i64 0] 24 (0, 0)) ∧ W.heap[BS]? = some (.cells #[.int .i64 0, .int .i64 0, .int .i64 1, .int .i64 5, .int .i64 14, .int .i64 5, .int .i64 0, .int .i64 1, .int .i64 0, .int .i64 3, .int .i64 2, .int .i64 11, .int .i64 5, .int .i64 0] 24 (0, 0))) W10) := hide ⟨box_grown HSS.out.1 hg (by simp), box_grown HSS.out.2 hg (by simp)⟩
  have OAn := hide (OA.out.grown hg)
  have OLn := hide (OL.out.grown hg)
  have OTn := hide (OT.out.grown hg)
  clear HG HSS OA OL OT hHeld
  have HG := HGn
  have HSS := HSSn
  have OA := OAn
  have OL := OLn
  have OT := OTn
  clear HGn HSSn OAn OLn OTn
  clear hg
  refine hKx.out _ _ HSS.out (fun hHeld => ?_)
  clear hKx Kx
  (try simp only [Act.put])
  refine take_put (i := 45) (v := .bool true) 86 rfl rfl (by kernel_rfl) (by kernel_rfl) (by kernel_rfl) (fun _ _ _ h => h) (Or.inl ⟨by rfl, by intro Wy hSW; go_simp⟩) (by assumption) ?_
  (try simp only [Act.put, List.setIfInBounds_toArray, List.set_cons_zero, List.set_cons_succ])
  refine take_put (i := 46) (v := .bool true) 0 rfl rfl (by kernel_rfl) (by kernel_rfl) (by kernel_rfl) (fun _ _ _ h => h) (Or.inl ⟨by rfl, by intro Wy hSW; go_simp⟩) (by assumption) ?_
  (try simp only [Act.put, List.setIfInBounds_toArray, List.set_cons_zero])
  refine wpAnyH_done (by kernel_rfl) ?_ _
  clear hHeld
  go_wp2
  go_ret
  exact ⟨rfl, HG.out⟩
theorem awake_any (w : World) : Calls Try.prog 21 #[] w fun e w' => e = .returned (.bool true) ∧ w.grownBy w' none := awake_from w w (grownBy_refl _ _)
#print axioms awake_any
end Go.Proofs.Ytebiifcifcefoaa
