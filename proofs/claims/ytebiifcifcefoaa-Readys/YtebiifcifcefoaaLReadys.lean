/- The walk of the statement Readys: the program's calls answer as the document's; proved over the translation. -/
import Derived.Test.YtebiifcifcefoaaAw
import Derived.Test.YtebiifcifcefoaaSpoil
import Derived.Test.YtebiifcifcefoaaRefP
import Derived.Test.YtebiifcifcefoaaRefF
import Derived.Test.YtebiifcifcefoaaRefM
namespace Go.Proofs.Ytebiifcifcefoaa
open Go.RowKit
attribute [local go_sem] alloc_drewN setCell_drewN

theorem rput_at {lo : Nat} {v : Value} {js zs : List JobV} {j : JobV} {E : Int} {N : Nat} (w : World) (hv : RowAt shJ lo w v js) (hE : putE js j = E) (hz : putV js j = zs) (hN : zs.length = N) :
    Calls Try.prog 10 #[v, jobVal j] w fun e w' => ∃ a' c', e = .returned (.tuple #[.slice a' N c', .int .i64 E]) ∧ Own w.heap.size w' (.slice a' N c') zs ∧ w.grownBy w' none := by
  subst hE hz hN
  refine (rput_any v js j w hv).mono ?_
  rintro e w' ⟨v', rfl, ho, hg⟩
  obtain ⟨a, c, rfl⟩ := ho.form
  exact ⟨a, c, rfl, ho, hg⟩
theorem rfirst_at {lo : Nat} {v : Value} {js : List JobV} {x : JobV} {b : Bool} (w : World) (hv : RowAt shJ lo w v js) (hx : firstV js = x) (hb : firstB js = b) :
    Calls Try.prog 12 #[v] w fun e w' => e = .returned (.tuple #[jobVal x, .bool b]) ∧ w.grownBy w' none := by
  subst hx hb
  exact rfirst_any v js w hv
theorem rmiss_at {lo : Nat} {v : Value} {js z1 z2 : List JobV} {now : Int} {N1 N2 : Nat} (w : World) (hv : RowAt shJ lo w v js) (h1 : leftV js now = z1) (h2 : lateV js now = z2) (hN1 : z1.length = N1) (hN2 : z2.length = N2) :
    Calls Try.prog 14 #[v, .int .i64 now] w fun e w' => ∃ a1 c1 a2 c2, e = .returned (.tuple #[.slice a1 N1 c1, .slice a2 N2 c2]) ∧ Own w.heap.size w' (.slice a1 N1 c1) z1 ∧ Own w.heap.size w' (.slice a2 N2 c2) z2 ∧ Far (.slice a1 N1 c1) (.slice a2 N2 c2) ∧ w.grownBy w' none := by
  subst h1 h2 hN1 hN2
  refine (rmiss_any v js now w hv).mono ?_
  rintro e w' ⟨v1, v2, rfl, h1, h2, hf, hg⟩
  obtain ⟨a1, c1, rfl⟩ := h1.form
  obtain ⟨a2, c2, rfl⟩ := h2.form
  exact ⟨a1, c1, a2, c2, rfl, h1, h2, hf, hg⟩
theorem rmay_at {lo : Nat} {v : Value} {js : List JobV} {b : Bool} (w : World) (hv : RowAt shJ lo w v js) (hb : rowMay js = b) :
    Calls Try.prog 19 #[v] w fun e w' => e = .returned (.bool b) ∧ w.grownBy w' none := by
  subst hb
  exact rmayJobs_any v js w hv
/-- Behind a write into a block that was made: nothing old has turned. -/
theorem grown_own1 {w w1 w2 : World} {base : Nat} {v : Value} {xs : List JobV} (h : w.grownBy w1 none) (ho : Own base w1 v xs) (hb : w.heap.size ≤ base) (hg : w1.grownBy w2 v.ownBlock) : w.grownBy w2 none := by
  cases hv : v.ownBlock with
  | none => rw [hv] at hg; exact grownBy_trans h hg
  | some g => rw [hv] at hg; exact grown_spoil h (Nat.le_trans hb (World.ownsRow.lt ho g hv).1) hg
set_option maxRecDepth 100000 in
set_option maxHeartbeats 16000000 in
theorem readys_from {lo : Nat} (a : Option Addr) (n cap : Nat) (js : List JobV) (j : JobV) (now : Int) (w w0 : World) (hg0 : w.grownBy w0 none) (hz : js.length ≤ 2513169434843) (hv : RowAt shJ lo w (.slice a n cap) js) :
    Calls Try.prog 3 #[.slice a n cap, jobVal j, .int .i64 now] w0 fun e w' => e = .returned (.bool true) ∧ w.grownBy w' none := by
  have NUM := hide num_to
  have hn : js.length = n := by obtain ⟨-, a2, c2, e, -⟩ := hv; simp only [Value.slice.injEq] at e; exact e.2.1.symm
  have HN := hide hn
  have RJ := hide (fun W (hg : w.grownBy W none) => hv.grown hg)
  have CL := hide (fun W (hg : w.grownBy W none) => Jn.lend_any (.slice a n cap) js hz W (hv.grown hg))
  have HZ := hide hz
  obtain ⟨E, hE⟩ : ∃ E, putE js j = E := ⟨_, rfl⟩
  obtain ⟨VA, hVA⟩ : ∃ V, putV js j = V := ⟨_, rfl⟩
  obtain ⟨nA, hnA⟩ : ∃ m, VA.length = m := ⟨_, rfl⟩
  obtain ⟨X, hX⟩ : ∃ x, firstV js = x := ⟨_, rfl⟩
  obtain ⟨fb, hfb⟩ : ∃ b, firstB js = b := ⟨_, rfl⟩
  obtain ⟨VL, hVL⟩ : ∃ V, leftV js now = V := ⟨_, rfl⟩
  obtain ⟨VT, hVT⟩ : ∃ V, lateV js now = V := ⟨_, rfl⟩
  obtain ⟨nL, hnL⟩ : ∃ m, VL.length = m := ⟨_, rfl⟩
  obtain ⟨nT, hnT⟩ : ∃ m, VT.length = m := ⟨_, rfl⟩
  obtain ⟨m, hm⟩ : ∃ b, rowMay js = b := ⟨_, rfl⟩
  have CP1 := hide (fun (W : World) (u : Value) (l : Nat) (h : RowAt shJ l W u js) => put_at (j := j) W h hE hVA hnA)
  have CP2 := hide (fun (W : World) (u : Value) (l : Nat) (h : RowAt shJ l W u js) => rput_at (j := j) W h hE hVA hnA)
  have CF1 := hide (fun (W : World) (u : Value) (l : Nat) (h : RowAt shJ l W u js) => first_at W h hX hfb)
  have CF2 := hide (fun (W : World) (u : Value) (l : Nat) (h : RowAt shJ l W u js) => rfirst_at W h hX hfb)
  have CM1 := hide (fun (W : World) (u : Value) (l : Nat) (h : RowAt shJ l W u js) => miss_at (now := now) W h hVL hVT hnL hnT)
  have CM2 := hide (fun (W : World) (u : Value) (l : Nat) (h : RowAt shJ l W u js) => rmiss_at (now := now) W h hVL hVT hnL hnT)
  have CY1 := hide (fun (W : World) (u : Value) (l : Nat) (h : RowAt shJ l W u js) => may_at W h hm)
  have CY2 := hide (fun (W : World) (u : Value) (l : Nat) (h : RowAt shJ l W u js) => rmay_at W h hm)
  have HNA := hide hnA
  have HNL := hide hnL
  have HNT := hide hnT
  clear hE hVA hnA hX hfb hVL hVT hnL hnT hm hz hv
  obtain ⟨y0, y1, y2, y3, y4, y5, y6⟩ := j
  obtain ⟨x0, x1, x2, x3, x4, x5, x6⟩ := X
  dsimp only [jobVal] at *
  rw [hn] at CL
  clear hn
  have HG := hide hg0
  clear hg0
  go_enter Try.func3, Try.ntmps3
  go_upto_region 1 with (first | fail)
  have hg := World.grownBy_alloc w0 (.cells #[.int .i64 y0, .int .i64 y1, .int .i64 y2, .int .i64 y3, .int .i64 y4, .int .i64 y5, .int .i64 y6] 24) none
  have HJq := hide (heap_alloc_new w0 (.cells #[.int .i64 y0, .int .i64 y1, .int .i64 y2, .int .i64 y3, .int .i64 y4, .int .i64 y5, .int .i64 y6] 24))
  have LJ := hide HG.out.size
  have HGn := hide (grownBy_trans HG.out hg)
  clear HG
  have HG := HGn
  clear HGn
  clear hg
  have HJ := HJq
  clear HJq
  generalize hWx : w0.alloc (.cells #[.int .i64 y0, .int .i64 y1, .int .i64 y2, .int .i64 y3, .int .i64 y4, .int .i64 y5, .int .i64 y6] 24) = w1 at *
  generalize hBx : w0.heap.size = BJ at *
  clear hWx hBx
  go_wp2_with (first | fail)
  refine (CL.out _ HG.out).mono ?_; rintro e w2 ⟨gl, cl, rfl, hcl, hcm, hrl, hg⟩
  have HGn := hide (grownBy_trans HG.out hg)
  have HJn := hide (box_grown HJ.out hg (by simp))
  clear HG HJ
  have HG := HGn
  have HJ := HJn
  clear HGn HJn
  have HCL := hide hcl
  have HCM := hide hcm
  have RLL := hide (fun W (h : w2.grownBy W none) => hrl.grown h)
  have RL := hide (fun W (h : w2.grownBy W none) => (Jn.lent_reads (by rw [HN.out]; exact hrl)).grown h)
  rw [HN.out] at RL
  obtain ⟨wL, hwL⟩ : ∃ y, y = w2 := ⟨_, rfl⟩
  have HWL0 : Hid (w.heap.size ≤ wL.heap.size) := hide (by rw [hwL]; exact HG.out.size)
  have HGL : Hid (wL.grownBy w2 none) := hide (by rw [hwL]; exact grownBy_refl _ _)
  rw [← hwL] at RLL RL
  clear hg hcl hcm hrl CL hwL
  have cJ0 : w2.cell? ⟨BJ, 0, none⟩ = some (.int .i64 y0) := blk_cell HJ.out 0
  have cJ1 : w2.cell? ⟨BJ, 1, none⟩ = some (.int .i64 y1) := blk_cell HJ.out 1
  have cJ2 : w2.cell? ⟨BJ, 2, none⟩ = some (.int .i64 y2) := blk_cell HJ.out 2
  have cJ3 : w2.cell? ⟨BJ, 3, none⟩ = some (.int .i64 y3) := blk_cell HJ.out 3
  have cJ4 : w2.cell? ⟨BJ, 4, none⟩ = some (.int .i64 y4) := blk_cell HJ.out 4
  have cJ5 : w2.cell? ⟨BJ, 5, none⟩ = some (.int .i64 y5) := blk_cell HJ.out 5
  have cJ6 : w2.cell? ⟨BJ, 6, none⟩ = some (.int .i64 y6) := blk_cell HJ.out 6
  go_wp2_with (first | fail)
  refine (CP1.out _ (.slice (some ⟨gl, 0, none⟩) n cl) _ (RL.out _ HGL.out)).mono ?_; rintro e w3 ⟨a1, c1, rfl, ho, hg⟩
  clear cJ0 cJ1 cJ2 cJ3 cJ4 cJ5 cJ6
  have OAx := hide (ho.base HGL.out.size)
  have HGn := hide (grownBy_trans HG.out hg)
  have HJn := hide (box_grown HJ.out hg (by simp))
  have HGLn := hide (grownBy_trans HGL.out hg)
  clear HG HJ HGL
  have HG := HGn
  have HJ := HJn
  have HGL := HGLn
  clear HGn HJn HGLn
  have OA := OAx
  clear OAx ho hg
  have cJ0 : w3.cell? ⟨BJ, 0, none⟩ = some (.int .i64 y0) := blk_cell HJ.out 0
  have cJ1 : w3.cell? ⟨BJ, 1, none⟩ = some (.int .i64 y1) := blk_cell HJ.out 1
  have cJ2 : w3.cell? ⟨BJ, 2, none⟩ = some (.int .i64 y2) := blk_cell HJ.out 2
  have cJ3 : w3.cell? ⟨BJ, 3, none⟩ = some (.int .i64 y3) := blk_cell HJ.out 3
  have cJ4 : w3.cell? ⟨BJ, 4, none⟩ = some (.int .i64 y4) := blk_cell HJ.out 4
  have cJ5 : w3.cell? ⟨BJ, 5, none⟩ = some (.int .i64 y5) := blk_cell HJ.out 5
  have cJ6 : w3.cell? ⟨BJ, 6, none⟩ = some (.int .i64 y6) := blk_cell HJ.out 6
  go_wp2_with (first | fail)
  refine (CP2.out _ (.slice a n cap) _ (RJ.out _ HG.out)).mono ?_; rintro e w4 ⟨a2, c2, rfl, ho, hg⟩
  clear cJ0 cJ1 cJ2 cJ3 cJ4 cJ5 cJ6
  have OBx := hide (ho.base HGL.out.size)
  have HGn := hide (grownBy_trans HG.out hg)
  have HJn := hide (box_grown HJ.out hg (by simp))
  have OAn := hide (OA.out.grown hg)
  have HGLn := hide (grownBy_trans HGL.out hg)
  clear HG HJ OA HGL
  have HG := HGn
  have HJ := HJn
  have OA := OAn
  have HGL := HGLn
  clear HGn HJn OAn HGLn
  have OB := OBx
  clear OBx ho hg
  go_wp2_with (first | fail)
  refine (CF1.out _ (.slice (some ⟨gl, 0, none⟩) n cl) _ (RL.out _ HGL.out)).mono ?_; rintro e w5 ⟨rfl, hg⟩
  have HGn := hide (grownBy_trans HG.out hg)
  have HJn := hide (box_grown HJ.out hg (by simp))
  have OAn := hide (OA.out.grown hg)
  have OBn := hide (OB.out.grown hg)
  have HGLn := hide (grownBy_trans HGL.out hg)
  clear HG HJ OA OB HGL
  have HG := HGn
  have HJ := HJn
  have OA := OAn
  have OB := OBn
  have HGL := HGLn
  clear HGn HJn OAn OBn HGLn
  clear hg
  go_upto_region 5 with (first | fail)
  have hg := World.grownBy_alloc w5 (.cells #[.int .i64 x0, .int .i64 x1, .int .i64 x2, .int .i64 x3, .int .i64 x4, .int .i64 x5, .int .i64 x6] 24) none
  have HXq := hide (heap_alloc_new w5 (.cells #[.int .i64 x0, .int .i64 x1, .int .i64 x2, .int .i64 x3, .int .i64 x4, .int .i64 x5, .int .i64 x6] 24))
  have LX := hide HG.out.size
  have HGn := hide (grownBy_trans HG.out hg)
  have HJn := hide (box_grown HJ.out hg (by simp))
  have OAn := hide (OA.out.grown hg)
  have OBn := hide (OB.out.grown hg)
  have HGLn := hide (grownBy_trans HGL.out hg)
  clear HG HJ OA OB HGL
  have HG := HGn
  have HJ := HJn
  have OA := OAn
  have OB := OBn
  have HGL := HGLn
  clear HGn HJn OAn OBn HGLn
  clear hg
  have HX := HXq
  clear HXq
  generalize hWx : w5.alloc (.cells #[.int .i64 x0, .int .i64 x1, .int .i64 x2, .int .i64 x3, .int .i64 x4, .int .i64 x5, .int .i64 x6] 24) = w6 at *
  generalize hBx : w5.heap.size = BX at *
  clear hWx hBx
  go_wp2_with (first | fail)
  refine (CF2.out _ (.slice a n cap) _ (RJ.out _ HG.out)).mono ?_; rintro e w7 ⟨rfl, hg⟩
  have HGn := hide (grownBy_trans HG.out hg)
  have HJn := hide (box_grown HJ.out hg (by simp))
  have HXn := hide (box_grown HX.out hg (by simp))
  have OAn := hide (OA.out.grown hg)
  have OBn := hide (OB.out.grown hg)
  have HGLn := hide (grownBy_trans HGL.out hg)
  clear HG HJ HX OA OB HGL
  have HG := HGn
  have HJ := HJn
  have HX := HXn
  have OA := OAn
  have OB := OBn
  have HGL := HGLn
  clear HGn HJn HXn OAn OBn HGLn
  clear hg
  go_upto_region 6 with (first | fail)
  have hg := World.grownBy_alloc w7 (.cells #[.int .i64 x0, .int .i64 x1, .int .i64 x2, .int .i64 x3, .int .i64 x4, .int .i64 x5, .int .i64 x6] 24) none
  have HZq := hide (heap_alloc_new w7 (.cells #[.int .i64 x0, .int .i64 x1, .int .i64 x2, .int .i64 x3, .int .i64 x4, .int .i64 x5, .int .i64 x6] 24))
  have LZ := hide HG.out.size
  have HGn := hide (grownBy_trans HG.out hg)
  have HJn := hide (box_grown HJ.out hg (by simp))
  have HXn := hide (box_grown HX.out hg (by simp))
  have OAn := hide (OA.out.grown hg)
  have OBn := hide (OB.out.grown hg)
  have HGLn := hide (grownBy_trans HGL.out hg)
  clear HG HJ HX OA OB HGL
  have HG := HGn
  have HJ := HJn
  have HX := HXn
  have OA := OAn
  have OB := OBn
  have HGL := HGLn
  clear HGn HJn HXn OAn OBn HGLn
  clear hg
  have HZ := HZq
  clear HZq
  generalize hWx : w7.alloc (.cells #[.int .i64 x0, .int .i64 x1, .int .i64 x2, .int .i64 x3, .int .i64 x4, .int .i64 x5, .int .i64 x6] 24) = w8 at *
  generalize hBx : w7.heap.size = BZ at *
  clear hWx hBx
  have HAB := hide (fun g hg => (World.ownsRow.lt OA.out g hg).2)
  go_wp2_with (first | fail)
  refine (CM1.out _ (.slice (some ⟨gl, 0, none⟩) n cl) _ (RL.out _ HGL.out)).mono ?_; rintro e w9 ⟨a3, c3, a4, c4, rfl, ho, ho2, hf, hg⟩
  have OLx := hide (ho.base HGL.out.size)
  have OTx := hide (ho2.base HGL.out.size)
  have FLA := hide (far_new ho (Nat.le_refl _) HAB.out)
  have FTA := hide (far_new ho2 (Nat.le_refl _) HAB.out)
  have FLT := hide hf
  have HGn := hide (grownBy_trans HG.out hg)
  have HJn := hide (box_grown HJ.out hg (by simp))
  have HXn := hide (box_grown HX.out hg (by simp))
  have HZn := hide (box_grown HZ.out hg (by simp))
  have OAn := hide (OA.out.grown hg)
  have OBn := hide (OB.out.grown hg)
  have HGLn := hide (grownBy_trans HGL.out hg)
  clear HG HJ HX HZ OA OB HGL
  have HG := HGn
  have HJ := HJn
  have HX := HXn
  have HZ := HZn
  have OA := OAn
  have OB := OBn
  have HGL := HGLn
  clear HGn HJn HXn HZn OAn OBn HGLn
  have OL := OLx
  have OT := OTx
  clear OLx OTx ho ho2 hf hg HAB
  go_wp2_with (first | fail)
  refine (CM2.out _ (.slice a n cap) _ (RJ.out _ HG.out)).mono ?_; rintro e w10 ⟨a5, c5, a6, c6, rfl, ho, ho2, hf, hg⟩
  have OIx := hide (ho.base HGL.out.size)
  have OKx := hide (ho2.base HGL.out.size)
  have HGn := hide (grownBy_trans HG.out hg)
  have HJn := hide (box_grown HJ.out hg (by simp))
  have HXn := hide (box_grown HX.out hg (by simp))
  have HZn := hide (box_grown HZ.out hg (by simp))
  have OAn := hide (OA.out.grown hg)
  have OBn := hide (OB.out.grown hg)
  have OLn := hide (OL.out.grown hg)
  have OTn := hide (OT.out.grown hg)
  have HGLn := hide (grownBy_trans HGL.out hg)
  clear HG HJ HX HZ OA OB OL OT HGL
  have HG := HGn
  have HJ := HJn
  have HX := HXn
  have HZ := HZn
  have OA := OAn
  have OB := OBn
  have OL := OLn
  have OT := OTn
  have HGL := HGLn
  clear HGn HJn HXn HZn OAn OBn OLn OTn HGLn
  have OI := OIx
  have OK := OKx
  clear OIx OKx ho ho2 hf hg
  go_wp2_with (first | fail)
  refine (same_at _ OA.out.row OB.out.row).mono ?_; rintro e w11 ⟨rfl, hg⟩
  have HGn := hide (grownBy_trans HG.out hg)
  have HJn := hide (box_grown HJ.out hg (by simp))
  have HXn := hide (box_grown HX.out hg (by simp))
  have HZn := hide (box_grown HZ.out hg (by simp))
  have OAn := hide (OA.out.grown hg)
  have OBn := hide (OB.out.grown hg)
  have OLn := hide (OL.out.grown hg)
  have OTn := hide (OT.out.grown hg)
  have OIn := hide (OI.out.grown hg)
  have OKn := hide (OK.out.grown hg)
  have HGLn := hide (grownBy_trans HGL.out hg)
  clear HG HJ HX HZ OA OB OL OT OI OK HGL
  have HG := HGn
  have HJ := HJn
  have HX := HXn
  have HZ := HZn
  have OA := OAn
  have OB := OBn
  have OL := OLn
  have OT := OTn
  have OI := OIn
  have OK := OKn
  have HGL := HGLn
  clear HGn HJn HXn HZn OAn OBn OLn OTn OIn OKn HGLn
  clear hg
  have cX0 : w11.cell? ⟨BX, 0, none⟩ = some (.int .i64 x0) := blk_cell HX.out 0
  have cX1 : w11.cell? ⟨BX, 1, none⟩ = some (.int .i64 x1) := blk_cell HX.out 1
  have cX2 : w11.cell? ⟨BX, 2, none⟩ = some (.int .i64 x2) := blk_cell HX.out 2
  have cX3 : w11.cell? ⟨BX, 3, none⟩ = some (.int .i64 x3) := blk_cell HX.out 3
  have cX4 : w11.cell? ⟨BX, 4, none⟩ = some (.int .i64 x4) := blk_cell HX.out 4
  have cX5 : w11.cell? ⟨BX, 5, none⟩ = some (.int .i64 x5) := blk_cell HX.out 5
  have cX6 : w11.cell? ⟨BX, 6, none⟩ = some (.int .i64 x6) := blk_cell HX.out 6
  have cZ0 : w11.cell? ⟨BZ, 0, none⟩ = some (.int .i64 x0) := blk_cell HZ.out 0
  have cZ1 : w11.cell? ⟨BZ, 1, none⟩ = some (.int .i64 x1) := blk_cell HZ.out 1
  have cZ2 : w11.cell? ⟨BZ, 2, none⟩ = some (.int .i64 x2) := blk_cell HZ.out 2
  have cZ3 : w11.cell? ⟨BZ, 3, none⟩ = some (.int .i64 x3) := blk_cell HZ.out 3
  have cZ4 : w11.cell? ⟨BZ, 4, none⟩ = some (.int .i64 x4) := blk_cell HZ.out 4
  have cZ5 : w11.cell? ⟨BZ, 5, none⟩ = some (.int .i64 x5) := blk_cell HZ.out 5
  have cZ6 : w11.cell? ⟨BZ, 6, none⟩ = some (.int .i64 x6) := blk_cell HZ.out 6
  go_wp2_with (first | (go_at_call 16; refine (NUM.out _ _).mono ?_; rintro e wn ⟨rfl, rfl⟩) | fail)
  refine (same_at _ OL.out.row OI.out.row).mono ?_; rintro e w12 ⟨rfl, hg⟩
  clear cX0 cX1 cX2 cX3 cX4 cX5 cX6 cZ0 cZ1 cZ2 cZ3 cZ4 cZ5 cZ6
  have HGn := hide (grownBy_trans HG.out hg)
  have HJn := hide (box_grown HJ.out hg (by simp))
  have HXn := hide (box_grown HX.out hg (by simp))
  have HZn := hide (box_grown HZ.out hg (by simp))
  have OAn := hide (OA.out.grown hg)
  have OBn := hide (OB.out.grown hg)
  have OLn := hide (OL.out.grown hg)
  have OTn := hide (OT.out.grown hg)
  have OIn := hide (OI.out.grown hg)
  have OKn := hide (OK.out.grown hg)
  have HGLn := hide (grownBy_trans HGL.out hg)
  clear HG HJ HX HZ OA OB OL OT OI OK HGL
  have HG := HGn
  have HJ := HJn
  have HX := HXn
  have HZ := HZn
  have OA := OAn
  have OB := OBn
  have OL := OLn
  have OT := OTn
  have OI := OIn
  have OK := OKn
  have HGL := HGLn
  clear HGn HJn HXn HZn OAn OBn OLn OTn OIn OKn HGLn
  clear hg
  go_wp2_with (first | fail)
  refine (same_at _ OT.out.row OK.out.row).mono ?_; rintro e w13 ⟨rfl, hg⟩
  have HGn := hide (grownBy_trans HG.out hg)
  have HJn := hide (box_grown HJ.out hg (by simp))
  have HXn := hide (box_grown HX.out hg (by simp))
  have HZn := hide (box_grown HZ.out hg (by simp))
  have OAn := hide (OA.out.grown hg)
  have OBn := hide (OB.out.grown hg)
  have OLn := hide (OL.out.grown hg)
  have OTn := hide (OT.out.grown hg)
  have OIn := hide (OI.out.grown hg)
  have OKn := hide (OK.out.grown hg)
  have HGLn := hide (grownBy_trans HGL.out hg)
  clear HG HJ HX HZ OA OB OL OT OI OK HGL
  have HG := HGn
  have HJ := HJn
  have HX := HXn
  have HZ := HZn
  have OA := OAn
  have OB := OBn
  have OL := OLn
  have OT := OTn
  have OI := OIn
  have OK := OKn
  have HGL := HGLn
  clear HGn HJn HXn HZn OAn OBn OLn OTn OIn OKn HGLn
  clear hg
  clear OB OI OK
  clear HJ HX HZ
  have HWL := HWL0
  go_wp2_with (first | fail)
  refine (spoil_any a1 _ _ _ HNA.out OA.out).mono ?_; rintro e w14 ⟨rfl, hg⟩
  have HGLn := hide (grown_own1 HGL.out OA.out (Nat.le_refl _) hg)
  have HGn := hide (grown_own1 HG.out OA.out HWL.out hg)
  have OLn := hide (OL.out.far hg FLA.out)
  have OTn := hide (OT.out.far hg FTA.out)
  clear hg HGL HG OA OL OT
  have HGL := HGLn
  have HG := HGn
  clear HGLn HGn
  have OL := OLn
  clear OLn
  have OT := OTn
  clear OTn
  go_wp2_with (first | fail)
  refine (spoil_any a3 _ _ _ HNL.out OL.out).mono ?_; rintro e w15 ⟨rfl, hg⟩
  have HGLn := hide (grown_own1 HGL.out OL.out (Nat.le_refl _) hg)
  have HGn := hide (grown_own1 HG.out OL.out HWL.out hg)
  have OTn := hide (OT.out.far hg (Far.symm FLT.out))
  clear hg HGL HG OL OT
  have HGL := HGLn
  have HG := HGn
  clear HGLn HGn
  have OT := OTn
  clear OTn
  go_wp2_with (first | fail)
  refine (spoil_any a4 _ _ _ HNT.out OT.out).mono ?_; rintro e w16 ⟨rfl, hg⟩
  have HGLn := hide (grown_own1 HGL.out OT.out (Nat.le_refl _) hg)
  have HGn := hide (grown_own1 HG.out OT.out HWL.out hg)
  clear hg HGL HG OT 
  have HGL := HGLn
  have HG := HGn
  clear HGLn HGn
  go_wp2_with (first | fail)
  refine (CY1.out _ (.slice (some ⟨gl, 0, none⟩) n cl) _ (RL.out _ HGL.out)).mono ?_; rintro e w17 ⟨rfl, hg⟩
  have HGn := hide (grownBy_trans HG.out hg)
  have HGLn := hide (grownBy_trans HGL.out hg)
  clear HG HGL
  have HG := HGn
  have HGL := HGLn
  clear HGn HGLn
  clear hg
  go_wp2_with (first | fail)
  refine (CY2.out _ (.slice a n cap) _ (RJ.out _ HG.out)).mono ?_; rintro e w18 ⟨rfl, hg⟩
  have HGn := hide (grownBy_trans HG.out hg)
  have HGLn := hide (grownBy_trans HGL.out hg)
  clear HG HGL
  have HG := HGn
  have HGL := HGLn
  clear HGn HGLn
  clear hg
  have CKK := hide (fun W (h : wL.grownBy W none) (h2 : w.grownBy W none) => (Jn.kept_any gl cl (.slice a n cap) js HZ.out (by rw [HN.out]; exact HCL.out) W (by rw [HN.out]; exact RLL.out W h) (RJ.out W h2)))
  rw [HN.out] at CKK
  go_wp2_with (first | fail)
  refine (CKK.out _ HGL.out HG.out).mono ?_; rintro e w19 ⟨rfl, k0, hk⟩
  have hg := grownBy_draws w18 k0 none
  rw [← hk] at hg
  clear hk CKK
  have HGn := hide (grownBy_trans HG.out hg)
  have HGLn := hide (grownBy_trans HGL.out hg)
  clear HG HGL
  have HG := HGn
  have HGL := HGLn
  clear HGn HGLn
  clear hg
  go_wp2_with (first | fail)
  refine (awake_any _).mono ?_; rintro e w20 ⟨rfl, hg⟩
  have HGn := hide (grownBy_trans HG.out hg)
  have HGLn := hide (grownBy_trans HGL.out hg)
  clear HG HGL
  have HG := HGn
  have HGL := HGLn
  clear HGn HGLn
  clear hg
  go_wp2_with (first | fail)
  go_ret
  exact ⟨rfl, HG.out⟩
theorem readys_law {lo : Nat} (a : Option Addr) (n cap : Nat) (js : List JobV) (j : JobV) (now : Int) (w : World) (hz : js.length ≤ 2513169434843) (hv : RowAt shJ lo w (.slice a n cap) js) :
    Calls Try.prog 3 #[.slice a n cap, jobVal j, .int .i64 now] w fun e w' => e = .returned (.bool true) ∧ w.grownBy w' none := readys_from a n cap js j now w w (grownBy_refl _ _) hz hv
#print axioms readys_law
end Go.Proofs.Ytebiifcifcefoaa
