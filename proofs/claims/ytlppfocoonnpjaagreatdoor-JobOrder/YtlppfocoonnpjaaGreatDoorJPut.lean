/- Contracts of package ready's Put and First, proved over the translation. -/
import Derived.Test.YtlppfocoonnpjaaGreatDoorJIns
namespace Go.Proofs.YtlppfocoonnpjaaGreatDoor.J
open Go.RowKit
attribute [local go_sem] alloc_drewN setCell_drewN

theorem ins_any {lo : Nat} (v : Value) (js : List JobV) (j : JobV) (w : World) (hv : RowAt shJ lo w v js) (hr : risesB js = true) (h16 : js.length ≤ 16) :
    Calls Tryz.prog 114 #[.agg #[v], jobVal j] w fun e w' => ∃ v', e = .returned v' ∧ Own w.heap.size w' v' (putL js j) ∧ w.grownBy w' none := by
  have hp := place_le js j
  obtain ⟨hl, a, cap, rfl, ha⟩ := id hv
  cases a with
  | none =>
    have h0 : js = [] := by
      rcases Nat.eq_zero_or_pos js.length with e | e
      · exact List.length_eq_zero_iff.1 e
      · obtain ⟨g, o, h, _⟩ := ha e; cases h
    subst h0
    exact ins_none cap [] j w hv hr h16 (by simpa using hp)
  | some ad =>
    by_cases h0 : js.length = 0
    · obtain rfl := List.length_eq_zero_iff.1 h0
      obtain ⟨g, o, s⟩ := ad
      by_cases hc : cap = 0
      · subst hc
        exact ins_nil0 g o s [] j w hv hr h16 (by simpa using hp)
      · exact ins_nil1 g o cap s hc [] j w hv hr h16 (by simpa using hp)
    · obtain ⟨g, o, e, hlo, -⟩ := ha (by omega)
      cases e
      by_cases hc : cap = placeN js j
      · have hN : js.length = placeN js j := by omega
        have hv3 := hv
        rw [hc, hN] at hv3 ⊢
        exact ins_end g o _ js j w hv3 hr h16 rfl
      · exact ins_mid g o _ _ cap hc (by omega) js j w hv hr h16 rfl

set_option maxRecDepth 100000 in
set_option maxHeartbeats 4000000 in
theorem put_b0 {lo : Nat} (a : Option Addr) (n cap : Nat) (js : List JobV) (j : JobV) (w w0 : World) (hg0 : w.grownBy w0 none) (hv : RowAt shJ lo w (.slice a n cap) js) (hm : rowMay js = false) :
    Calls Tryz.prog 92 #[.slice a n cap, jobVal j] w0 fun e w' => e = .returned (.tuple #[.slice none 0 0, .int .i64 1200]) ∧ w.grownBy w' none := by
  have CO := hide (fun W => rowOf_any (.slice a n cap) rfl a n cap W rfl)
  have CM := hide (fun W (hg : w.grownBy W none) => rmay_any (.slice a n cap) js W (hv.grown hg))
  have CJ := hide (fun W => job_any j W)
  rw [hm] at CM
  have HG := hide hg0
  clear hg0 hv hm
  obtain ⟨y0, y1, y2, y3, y4, y5, y6⟩ := j
  dsimp only [jobVal] at *
  go_enter Tryz.func92, Tryz.ntmps92
  go_upto_region 1 with (first | fail)
  have hg := World.grownBy_alloc w0 (.cells #[.int .i64 y0, .int .i64 y1, .int .i64 y2, .int .i64 y3, .int .i64 y4, .int .i64 y5, .int .i64 y6] 70) none
  have HJq := hide (heap_alloc_new w0 (.cells #[.int .i64 y0, .int .i64 y1, .int .i64 y2, .int .i64 y3, .int .i64 y4, .int .i64 y5, .int .i64 y6] 70))
  have LJ := hide HG.out.size
  have HGn := hide (grownBy_trans HG.out hg)
  clear HG
  have HG := HGn
  clear HGn
  clear hg
  have HJ := HJq
  clear HJq
  generalize hWx : w0.alloc (.cells #[.int .i64 y0, .int .i64 y1, .int .i64 y2, .int .i64 y3, .int .i64 y4, .int .i64 y5, .int .i64 y6] 70) = w1 at *
  generalize hBx : w0.heap.size = BJ at *
  clear hWx hBx
  go_wp2_with (first | fail)
  refine (CO.out _).mono ?_; rintro e w2 ⟨rfl, hg⟩
  have HGn := hide (grownBy_trans HG.out hg)
  have HJn := hide (box_grown HJ.out hg (by simp))
  clear HG HJ
  have HG := HGn
  have HJ := HJn
  clear HGn HJn
  clear hg
  go_upto_region 2 with (first | fail)
  have hg := World.grownBy_alloc w2 (.cells #[.slice a n cap] 161) none
  have HRq := hide (heap_alloc_new w2 (.cells #[.slice a n cap] 161))
  have LR := hide HG.out.size
  have HGn := hide (grownBy_trans HG.out hg)
  have HJn := hide (box_grown HJ.out hg (by simp))
  clear HG HJ
  have HG := HGn
  have HJ := HJn
  clear HGn HJn
  clear hg
  have HR := HRq
  clear HRq
  generalize hWx : w2.alloc (.cells #[.slice a n cap] 161) = w3 at *
  generalize hBx : w2.heap.size = BR at *
  clear hWx hBx
  have cJ0 : w3.cell? ⟨BJ, 0, none⟩ = some (.int .i64 y0) := blk_cell HJ.out 0
  have cJ1 : w3.cell? ⟨BJ, 1, none⟩ = some (.int .i64 y1) := blk_cell HJ.out 1
  have cJ2 : w3.cell? ⟨BJ, 2, none⟩ = some (.int .i64 y2) := blk_cell HJ.out 2
  have cJ3 : w3.cell? ⟨BJ, 3, none⟩ = some (.int .i64 y3) := blk_cell HJ.out 3
  have cJ4 : w3.cell? ⟨BJ, 4, none⟩ = some (.int .i64 y4) := blk_cell HJ.out 4
  have cJ5 : w3.cell? ⟨BJ, 5, none⟩ = some (.int .i64 y5) := blk_cell HJ.out 5
  have cJ6 : w3.cell? ⟨BJ, 6, none⟩ = some (.int .i64 y6) := blk_cell HJ.out 6
  have cR0 : w3.cell? ⟨BR, 0, none⟩ = some (.slice a n cap) := blk_cell HR.out 0
  go_wp2_with (first | fail)
  refine (CM.out _ HG.out).mono ?_; rintro e w4 ⟨rfl, hg⟩
  clear cJ0 cJ1 cJ2 cJ3 cJ4 cJ5 cJ6 cR0
  have HGn := hide (grownBy_trans HG.out hg)
  have HJn := hide (box_grown HJ.out hg (by simp))
  have HRn := hide (box_grown HR.out hg (by simp))
  clear HG HJ HR
  have HG := HGn
  have HJ := HJn
  have HR := HRn
  clear HGn HJn HRn
  clear hg
  go_wp2_with (first | fail)
  go_ret2
  exact ⟨rfl, HG.out⟩
set_option maxRecDepth 100000 in
set_option maxHeartbeats 4000000 in
theorem put_b1 {lo : Nat} (a : Option Addr) (n cap : Nat) (js : List JobV) (j : JobV) (w w0 : World) (hg0 : w.grownBy w0 none) (hv : RowAt shJ lo w (.slice a n cap) js) (hm : rowMay js = true) (hj : jobMay j = false) :
    Calls Tryz.prog 92 #[.slice a n cap, jobVal j] w0 fun e w' => e = .returned (.tuple #[.slice none 0 0, .int .i64 1200]) ∧ w.grownBy w' none := by
  have CO := hide (fun W => rowOf_any (.slice a n cap) rfl a n cap W rfl)
  have CM := hide (fun W (hg : w.grownBy W none) => rmay_any (.slice a n cap) js W (hv.grown hg))
  have CJ := hide (fun W => job_any j W)
  rw [hm] at CM
  rw [hj] at CJ
  have HG := hide hg0
  clear hg0 hv hm hj
  obtain ⟨y0, y1, y2, y3, y4, y5, y6⟩ := j
  dsimp only [jobVal] at *
  go_enter Tryz.func92, Tryz.ntmps92
  go_upto_region 1 with (first | fail)
  have hg := World.grownBy_alloc w0 (.cells #[.int .i64 y0, .int .i64 y1, .int .i64 y2, .int .i64 y3, .int .i64 y4, .int .i64 y5, .int .i64 y6] 70) none
  have HJq := hide (heap_alloc_new w0 (.cells #[.int .i64 y0, .int .i64 y1, .int .i64 y2, .int .i64 y3, .int .i64 y4, .int .i64 y5, .int .i64 y6] 70))
  have LJ := hide HG.out.size
  have HGn := hide (grownBy_trans HG.out hg)
  clear HG
  have HG := HGn
  clear HGn
  clear hg
  have HJ := HJq
  clear HJq
  generalize hWx : w0.alloc (.cells #[.int .i64 y0, .int .i64 y1, .int .i64 y2, .int .i64 y3, .int .i64 y4, .int .i64 y5, .int .i64 y6] 70) = w1 at *
  generalize hBx : w0.heap.size = BJ at *
  clear hWx hBx
  go_wp2_with (first | fail)
  refine (CO.out _).mono ?_; rintro e w2 ⟨rfl, hg⟩
  have HGn := hide (grownBy_trans HG.out hg)
  have HJn := hide (box_grown HJ.out hg (by simp))
  clear HG HJ
  have HG := HGn
  have HJ := HJn
  clear HGn HJn
  clear hg
  go_upto_region 2 with (first | fail)
  have hg := World.grownBy_alloc w2 (.cells #[.slice a n cap] 161) none
  have HRq := hide (heap_alloc_new w2 (.cells #[.slice a n cap] 161))
  have LR := hide HG.out.size
  have HGn := hide (grownBy_trans HG.out hg)
  have HJn := hide (box_grown HJ.out hg (by simp))
  clear HG HJ
  have HG := HGn
  have HJ := HJn
  clear HGn HJn
  clear hg
  have HR := HRq
  clear HRq
  generalize hWx : w2.alloc (.cells #[.slice a n cap] 161) = w3 at *
  generalize hBx : w2.heap.size = BR at *
  clear hWx hBx
  have cJ0 : w3.cell? ⟨BJ, 0, none⟩ = some (.int .i64 y0) := blk_cell HJ.out 0
  have cJ1 : w3.cell? ⟨BJ, 1, none⟩ = some (.int .i64 y1) := blk_cell HJ.out 1
  have cJ2 : w3.cell? ⟨BJ, 2, none⟩ = some (.int .i64 y2) := blk_cell HJ.out 2
  have cJ3 : w3.cell? ⟨BJ, 3, none⟩ = some (.int .i64 y3) := blk_cell HJ.out 3
  have cJ4 : w3.cell? ⟨BJ, 4, none⟩ = some (.int .i64 y4) := blk_cell HJ.out 4
  have cJ5 : w3.cell? ⟨BJ, 5, none⟩ = some (.int .i64 y5) := blk_cell HJ.out 5
  have cJ6 : w3.cell? ⟨BJ, 6, none⟩ = some (.int .i64 y6) := blk_cell HJ.out 6
  have cR0 : w3.cell? ⟨BR, 0, none⟩ = some (.slice a n cap) := blk_cell HR.out 0
  go_wp2_with (first | fail)
  refine (CM.out _ HG.out).mono ?_; rintro e w4 ⟨rfl, hg⟩
  clear cJ0 cJ1 cJ2 cJ3 cJ4 cJ5 cJ6 cR0
  have HGn := hide (grownBy_trans HG.out hg)
  have HJn := hide (box_grown HJ.out hg (by simp))
  have HRn := hide (box_grown HR.out hg (by simp))
  clear HG HJ HR
  have HG := HGn
  have HJ := HJn
  have HR := HRn
  clear HGn HJn HRn
  clear hg
  have cJ0 : w4.cell? ⟨BJ, 0, none⟩ = some (.int .i64 y0) := blk_cell HJ.out 0
  have cJ1 : w4.cell? ⟨BJ, 1, none⟩ = some (.int .i64 y1) := blk_cell HJ.out 1
  have cJ2 : w4.cell? ⟨BJ, 2, none⟩ = some (.int .i64 y2) := blk_cell HJ.out 2
  have cJ3 : w4.cell? ⟨BJ, 3, none⟩ = some (.int .i64 y3) := blk_cell HJ.out 3
  have cJ4 : w4.cell? ⟨BJ, 4, none⟩ = some (.int .i64 y4) := blk_cell HJ.out 4
  have cJ5 : w4.cell? ⟨BJ, 5, none⟩ = some (.int .i64 y5) := blk_cell HJ.out 5
  have cJ6 : w4.cell? ⟨BJ, 6, none⟩ = some (.int .i64 y6) := blk_cell HJ.out 6
  have cR0 : w4.cell? ⟨BR, 0, none⟩ = some (.slice a n cap) := blk_cell HR.out 0
  go_wp2_with (first | fail)
  refine (CJ.out _).mono ?_; rintro e w5 ⟨rfl, hg⟩
  clear cJ0 cJ1 cJ2 cJ3 cJ4 cJ5 cJ6 cR0
  have HGn := hide (grownBy_trans HG.out hg)
  have HJn := hide (box_grown HJ.out hg (by simp))
  have HRn := hide (box_grown HR.out hg (by simp))
  clear HG HJ HR
  have HG := HGn
  have HJ := HJn
  have HR := HRn
  clear HGn HJn HRn
  clear hg
  go_wp2_with (first | fail)
  go_ret2
  exact ⟨rfl, HG.out⟩
set_option maxRecDepth 100000 in
set_option maxHeartbeats 4000000 in
theorem put_b2 {lo : Nat} (a : Option Addr) (n cap : Nat) (js : List JobV) (j : JobV) (w w0 : World) (hg0 : w.grownBy w0 none) (hv : RowAt shJ lo w (.slice a n cap) js) (hm : rowMay js = true) (hj : jobMay j = true) (hh : hasB js j = true) :
    Calls Tryz.prog 92 #[.slice a n cap, jobVal j] w0 fun e w' => e = .returned (.tuple #[.slice none 0 0, .int .i64 1200]) ∧ w.grownBy w' none := by
  have CO := hide (fun W => rowOf_any (.slice a n cap) rfl a n cap W rfl)
  have CM := hide (fun W (hg : w.grownBy W none) => rmay_any (.slice a n cap) js W (hv.grown hg))
  have CJ := hide (fun W => job_any j W)
  rw [hm] at CM
  have CH := hide (fun W (hg : w.grownBy W none) => has_any (.slice a n cap) js j W (hv.grown hg) (rowMay_iff.1 hm).2.2 (rowMay_iff.1 hm).1)
  rw [hj] at CJ
  rw [hh] at CH
  have HG := hide hg0
  clear hg0 hv hm hj hh
  obtain ⟨y0, y1, y2, y3, y4, y5, y6⟩ := j
  dsimp only [jobVal] at *
  go_enter Tryz.func92, Tryz.ntmps92
  go_upto_region 1 with (first | fail)
  have hg := World.grownBy_alloc w0 (.cells #[.int .i64 y0, .int .i64 y1, .int .i64 y2, .int .i64 y3, .int .i64 y4, .int .i64 y5, .int .i64 y6] 70) none
  have HJq := hide (heap_alloc_new w0 (.cells #[.int .i64 y0, .int .i64 y1, .int .i64 y2, .int .i64 y3, .int .i64 y4, .int .i64 y5, .int .i64 y6] 70))
  have LJ := hide HG.out.size
  have HGn := hide (grownBy_trans HG.out hg)
  clear HG
  have HG := HGn
  clear HGn
  clear hg
  have HJ := HJq
  clear HJq
  generalize hWx : w0.alloc (.cells #[.int .i64 y0, .int .i64 y1, .int .i64 y2, .int .i64 y3, .int .i64 y4, .int .i64 y5, .int .i64 y6] 70) = w1 at *
  generalize hBx : w0.heap.size = BJ at *
  clear hWx hBx
  go_wp2_with (first | fail)
  refine (CO.out _).mono ?_; rintro e w2 ⟨rfl, hg⟩
  have HGn := hide (grownBy_trans HG.out hg)
  have HJn := hide (box_grown HJ.out hg (by simp))
  clear HG HJ
  have HG := HGn
  have HJ := HJn
  clear HGn HJn
  clear hg
  go_upto_region 2 with (first | fail)
  have hg := World.grownBy_alloc w2 (.cells #[.slice a n cap] 161) none
  have HRq := hide (heap_alloc_new w2 (.cells #[.slice a n cap] 161))
  have LR := hide HG.out.size
  have HGn := hide (grownBy_trans HG.out hg)
  have HJn := hide (box_grown HJ.out hg (by simp))
  clear HG HJ
  have HG := HGn
  have HJ := HJn
  clear HGn HJn
  clear hg
  have HR := HRq
  clear HRq
  generalize hWx : w2.alloc (.cells #[.slice a n cap] 161) = w3 at *
  generalize hBx : w2.heap.size = BR at *
  clear hWx hBx
  have cJ0 : w3.cell? ⟨BJ, 0, none⟩ = some (.int .i64 y0) := blk_cell HJ.out 0
  have cJ1 : w3.cell? ⟨BJ, 1, none⟩ = some (.int .i64 y1) := blk_cell HJ.out 1
  have cJ2 : w3.cell? ⟨BJ, 2, none⟩ = some (.int .i64 y2) := blk_cell HJ.out 2
  have cJ3 : w3.cell? ⟨BJ, 3, none⟩ = some (.int .i64 y3) := blk_cell HJ.out 3
  have cJ4 : w3.cell? ⟨BJ, 4, none⟩ = some (.int .i64 y4) := blk_cell HJ.out 4
  have cJ5 : w3.cell? ⟨BJ, 5, none⟩ = some (.int .i64 y5) := blk_cell HJ.out 5
  have cJ6 : w3.cell? ⟨BJ, 6, none⟩ = some (.int .i64 y6) := blk_cell HJ.out 6
  have cR0 : w3.cell? ⟨BR, 0, none⟩ = some (.slice a n cap) := blk_cell HR.out 0
  go_wp2_with (first | fail)
  refine (CM.out _ HG.out).mono ?_; rintro e w4 ⟨rfl, hg⟩
  clear cJ0 cJ1 cJ2 cJ3 cJ4 cJ5 cJ6 cR0
  have HGn := hide (grownBy_trans HG.out hg)
  have HJn := hide (box_grown HJ.out hg (by simp))
  have HRn := hide (box_grown HR.out hg (by simp))
  clear HG HJ HR
  have HG := HGn
  have HJ := HJn
  have HR := HRn
  clear HGn HJn HRn
  clear hg
  have cJ0 : w4.cell? ⟨BJ, 0, none⟩ = some (.int .i64 y0) := blk_cell HJ.out 0
  have cJ1 : w4.cell? ⟨BJ, 1, none⟩ = some (.int .i64 y1) := blk_cell HJ.out 1
  have cJ2 : w4.cell? ⟨BJ, 2, none⟩ = some (.int .i64 y2) := blk_cell HJ.out 2
  have cJ3 : w4.cell? ⟨BJ, 3, none⟩ = some (.int .i64 y3) := blk_cell HJ.out 3
  have cJ4 : w4.cell? ⟨BJ, 4, none⟩ = some (.int .i64 y4) := blk_cell HJ.out 4
  have cJ5 : w4.cell? ⟨BJ, 5, none⟩ = some (.int .i64 y5) := blk_cell HJ.out 5
  have cJ6 : w4.cell? ⟨BJ, 6, none⟩ = some (.int .i64 y6) := blk_cell HJ.out 6
  have cR0 : w4.cell? ⟨BR, 0, none⟩ = some (.slice a n cap) := blk_cell HR.out 0
  go_wp2_with (first | fail)
  refine (CJ.out _).mono ?_; rintro e w5 ⟨rfl, hg⟩
  clear cJ0 cJ1 cJ2 cJ3 cJ4 cJ5 cJ6 cR0
  have HGn := hide (grownBy_trans HG.out hg)
  have HJn := hide (box_grown HJ.out hg (by simp))
  have HRn := hide (box_grown HR.out hg (by simp))
  clear HG HJ HR
  have HG := HGn
  have HJ := HJn
  have HR := HRn
  clear HGn HJn HRn
  clear hg
  have cJ0 : w5.cell? ⟨BJ, 0, none⟩ = some (.int .i64 y0) := blk_cell HJ.out 0
  have cJ1 : w5.cell? ⟨BJ, 1, none⟩ = some (.int .i64 y1) := blk_cell HJ.out 1
  have cJ2 : w5.cell? ⟨BJ, 2, none⟩ = some (.int .i64 y2) := blk_cell HJ.out 2
  have cJ3 : w5.cell? ⟨BJ, 3, none⟩ = some (.int .i64 y3) := blk_cell HJ.out 3
  have cJ4 : w5.cell? ⟨BJ, 4, none⟩ = some (.int .i64 y4) := blk_cell HJ.out 4
  have cJ5 : w5.cell? ⟨BJ, 5, none⟩ = some (.int .i64 y5) := blk_cell HJ.out 5
  have cJ6 : w5.cell? ⟨BJ, 6, none⟩ = some (.int .i64 y6) := blk_cell HJ.out 6
  have cR0 : w5.cell? ⟨BR, 0, none⟩ = some (.slice a n cap) := blk_cell HR.out 0
  go_wp2_with (first | fail)
  refine (CH.out _ HG.out).mono ?_; rintro e w6 ⟨rfl, hg⟩
  clear cJ0 cJ1 cJ2 cJ3 cJ4 cJ5 cJ6 cR0
  have HGn := hide (grownBy_trans HG.out hg)
  have HJn := hide (box_grown HJ.out hg (by simp))
  have HRn := hide (box_grown HR.out hg (by simp))
  clear HG HJ HR
  have HG := HGn
  have HJ := HJn
  have HR := HRn
  clear HGn HJn HRn
  clear hg
  go_wp2_with (first | fail)
  go_ret2
  exact ⟨rfl, HG.out⟩
set_option maxRecDepth 100000 in
set_option maxHeartbeats 4000000 in
theorem put_full {lo : Nat} (a : Option Addr) (n cap : Nat) (js : List JobV) (j : JobV) (w w0 : World) (hg0 : w.grownBy w0 none) (hv : RowAt shJ lo w (.slice a n cap) js) (hm : rowMay js = true) (hj : jobMay j = true) (hh : hasB js j = false) (h16 : 16 ≤ n) :
    Calls Tryz.prog 92 #[.slice a n cap, jobVal j] w0 fun e w' => e = .returned (.tuple #[.slice none 0 0, .int .i64 1201]) ∧ w.grownBy w' none := by
  have CO := hide (fun W => rowOf_any (.slice a n cap) rfl a n cap W rfl)
  have CM := hide (fun W (hg : w.grownBy W none) => rmay_any (.slice a n cap) js W (hv.grown hg))
  have CJ := hide (fun W => job_any j W)
  rw [hm] at CM
  have CH := hide (fun W (hg : w.grownBy W none) => has_any (.slice a n cap) js j W (hv.grown hg) (rowMay_iff.1 hm).2.2 (rowMay_iff.1 hm).1)
  rw [hj] at CJ
  rw [hh] at CH
  have HG := hide hg0
  clear hg0 hv hm hj hh
  obtain ⟨y0, y1, y2, y3, y4, y5, y6⟩ := j
  dsimp only [jobVal] at *
  go_enter Tryz.func92, Tryz.ntmps92
  go_upto_region 1 with (first | fail)
  have hg := World.grownBy_alloc w0 (.cells #[.int .i64 y0, .int .i64 y1, .int .i64 y2, .int .i64 y3, .int .i64 y4, .int .i64 y5, .int .i64 y6] 70) none
  have HJq := hide (heap_alloc_new w0 (.cells #[.int .i64 y0, .int .i64 y1, .int .i64 y2, .int .i64 y3, .int .i64 y4, .int .i64 y5, .int .i64 y6] 70))
  have LJ := hide HG.out.size
  have HGn := hide (grownBy_trans HG.out hg)
  clear HG
  have HG := HGn
  clear HGn
  clear hg
  have HJ := HJq
  clear HJq
  generalize hWx : w0.alloc (.cells #[.int .i64 y0, .int .i64 y1, .int .i64 y2, .int .i64 y3, .int .i64 y4, .int .i64 y5, .int .i64 y6] 70) = w1 at *
  generalize hBx : w0.heap.size = BJ at *
  clear hWx hBx
  go_wp2_with (first | fail)
  refine (CO.out _).mono ?_; rintro e w2 ⟨rfl, hg⟩
  have HGn := hide (grownBy_trans HG.out hg)
  have HJn := hide (box_grown HJ.out hg (by simp))
  clear HG HJ
  have HG := HGn
  have HJ := HJn
  clear HGn HJn
  clear hg
  go_upto_region 2 with (first | fail)
  have hg := World.grownBy_alloc w2 (.cells #[.slice a n cap] 161) none
  have HRq := hide (heap_alloc_new w2 (.cells #[.slice a n cap] 161))
  have LR := hide HG.out.size
  have HGn := hide (grownBy_trans HG.out hg)
  have HJn := hide (box_grown HJ.out hg (by simp))
  clear HG HJ
  have HG := HGn
  have HJ := HJn
  clear HGn HJn
  clear hg
  have HR := HRq
  clear HRq
  generalize hWx : w2.alloc (.cells #[.slice a n cap] 161) = w3 at *
  generalize hBx : w2.heap.size = BR at *
  clear hWx hBx
  have cJ0 : w3.cell? ⟨BJ, 0, none⟩ = some (.int .i64 y0) := blk_cell HJ.out 0
  have cJ1 : w3.cell? ⟨BJ, 1, none⟩ = some (.int .i64 y1) := blk_cell HJ.out 1
  have cJ2 : w3.cell? ⟨BJ, 2, none⟩ = some (.int .i64 y2) := blk_cell HJ.out 2
  have cJ3 : w3.cell? ⟨BJ, 3, none⟩ = some (.int .i64 y3) := blk_cell HJ.out 3
  have cJ4 : w3.cell? ⟨BJ, 4, none⟩ = some (.int .i64 y4) := blk_cell HJ.out 4
  have cJ5 : w3.cell? ⟨BJ, 5, none⟩ = some (.int .i64 y5) := blk_cell HJ.out 5
  have cJ6 : w3.cell? ⟨BJ, 6, none⟩ = some (.int .i64 y6) := blk_cell HJ.out 6
  have cR0 : w3.cell? ⟨BR, 0, none⟩ = some (.slice a n cap) := blk_cell HR.out 0
  go_wp2_with (first | fail)
  refine (CM.out _ HG.out).mono ?_; rintro e w4 ⟨rfl, hg⟩
  clear cJ0 cJ1 cJ2 cJ3 cJ4 cJ5 cJ6 cR0
  have HGn := hide (grownBy_trans HG.out hg)
  have HJn := hide (box_grown HJ.out hg (by simp))
  have HRn := hide (box_grown HR.out hg (by simp))
  clear HG HJ HR
  have HG := HGn
  have HJ := HJn
  have HR := HRn
  clear HGn HJn HRn
  clear hg
  have cJ0 : w4.cell? ⟨BJ, 0, none⟩ = some (.int .i64 y0) := blk_cell HJ.out 0
  have cJ1 : w4.cell? ⟨BJ, 1, none⟩ = some (.int .i64 y1) := blk_cell HJ.out 1
  have cJ2 : w4.cell? ⟨BJ, 2, none⟩ = some (.int .i64 y2) := blk_cell HJ.out 2
  have cJ3 : w4.cell? ⟨BJ, 3, none⟩ = some (.int .i64 y3) := blk_cell HJ.out 3
  have cJ4 : w4.cell? ⟨BJ, 4, none⟩ = some (.int .i64 y4) := blk_cell HJ.out 4
  have cJ5 : w4.cell? ⟨BJ, 5, none⟩ = some (.int .i64 y5) := blk_cell HJ.out 5
  have cJ6 : w4.cell? ⟨BJ, 6, none⟩ = some (.int .i64 y6) := blk_cell HJ.out 6
  have cR0 : w4.cell? ⟨BR, 0, none⟩ = some (.slice a n cap) := blk_cell HR.out 0
  go_wp2_with (first | fail)
  refine (CJ.out _).mono ?_; rintro e w5 ⟨rfl, hg⟩
  clear cJ0 cJ1 cJ2 cJ3 cJ4 cJ5 cJ6 cR0
  have HGn := hide (grownBy_trans HG.out hg)
  have HJn := hide (box_grown HJ.out hg (by simp))
  have HRn := hide (box_grown HR.out hg (by simp))
  clear HG HJ HR
  have HG := HGn
  have HJ := HJn
  have HR := HRn
  clear HGn HJn HRn
  clear hg
  have cJ0 : w5.cell? ⟨BJ, 0, none⟩ = some (.int .i64 y0) := blk_cell HJ.out 0
  have cJ1 : w5.cell? ⟨BJ, 1, none⟩ = some (.int .i64 y1) := blk_cell HJ.out 1
  have cJ2 : w5.cell? ⟨BJ, 2, none⟩ = some (.int .i64 y2) := blk_cell HJ.out 2
  have cJ3 : w5.cell? ⟨BJ, 3, none⟩ = some (.int .i64 y3) := blk_cell HJ.out 3
  have cJ4 : w5.cell? ⟨BJ, 4, none⟩ = some (.int .i64 y4) := blk_cell HJ.out 4
  have cJ5 : w5.cell? ⟨BJ, 5, none⟩ = some (.int .i64 y5) := blk_cell HJ.out 5
  have cJ6 : w5.cell? ⟨BJ, 6, none⟩ = some (.int .i64 y6) := blk_cell HJ.out 6
  have cR0 : w5.cell? ⟨BR, 0, none⟩ = some (.slice a n cap) := blk_cell HR.out 0
  go_wp2_with (first | fail)
  refine (CH.out _ HG.out).mono ?_; rintro e w6 ⟨rfl, hg⟩
  clear cJ0 cJ1 cJ2 cJ3 cJ4 cJ5 cJ6 cR0
  have HGn := hide (grownBy_trans HG.out hg)
  have HJn := hide (box_grown HJ.out hg (by simp))
  have HRn := hide (box_grown HR.out hg (by simp))
  clear HG HJ HR
  have HG := HGn
  have HJ := HJn
  have HR := HRn
  clear HGn HJn HRn
  clear hg
  have cJ0 : w6.cell? ⟨BJ, 0, none⟩ = some (.int .i64 y0) := blk_cell HJ.out 0
  have cJ1 : w6.cell? ⟨BJ, 1, none⟩ = some (.int .i64 y1) := blk_cell HJ.out 1
  have cJ2 : w6.cell? ⟨BJ, 2, none⟩ = some (.int .i64 y2) := blk_cell HJ.out 2
  have cJ3 : w6.cell? ⟨BJ, 3, none⟩ = some (.int .i64 y3) := blk_cell HJ.out 3
  have cJ4 : w6.cell? ⟨BJ, 4, none⟩ = some (.int .i64 y4) := blk_cell HJ.out 4
  have cJ5 : w6.cell? ⟨BJ, 5, none⟩ = some (.int .i64 y5) := blk_cell HJ.out 5
  have cJ6 : w6.cell? ⟨BJ, 6, none⟩ = some (.int .i64 y6) := blk_cell HJ.out 6
  have cR0 : w6.cell? ⟨BR, 0, none⟩ = some (.slice a n cap) := blk_cell HR.out 0
  go_wp2_with (first | fail)
  refine (full_any a n cap _).mono ?_; rintro e w7 ⟨rfl, hg⟩
  clear cJ0 cJ1 cJ2 cJ3 cJ4 cJ5 cJ6 cR0
  have HGn := hide (grownBy_trans HG.out hg)
  have HJn := hide (box_grown HJ.out hg (by simp))
  have HRn := hide (box_grown HR.out hg (by simp))
  clear HG HJ HR
  have HG := HGn
  have HJ := HJn
  have HR := HRn
  clear HGn HJn HRn
  clear hg
  go_wp2_with (first | fail)
  go_ret2
  exact ⟨rfl, HG.out⟩
set_option maxRecDepth 100000 in
set_option maxHeartbeats 4000000 in
theorem put_ok {lo : Nat} (a : Option Addr) (n cap : Nat) (js : List JobV) (j : JobV) (w w0 : World) (hg0 : w.grownBy w0 none) (hv : RowAt shJ lo w (.slice a n cap) js) (hm : rowMay js = true) (hj : jobMay j = true) (hh : hasB js j = false) (h16 : ¬16 ≤ n) :
    Calls Tryz.prog 92 #[.slice a n cap, jobVal j] w0 fun e w' => ∃ v', e = .returned (.tuple #[v', .int .i64 0]) ∧ Own w.heap.size w' v' (putL js j) ∧ w.grownBy w' none := by
  have CO := hide (fun W => rowOf_any (.slice a n cap) rfl a n cap W rfl)
  have CM := hide (fun W (hg : w.grownBy W none) => rmay_any (.slice a n cap) js W (hv.grown hg))
  have CJ := hide (fun W => job_any j W)
  rw [hm] at CM
  have CH := hide (fun W (hg : w.grownBy W none) => has_any (.slice a n cap) js j W (hv.grown hg) (rowMay_iff.1 hm).2.2 (rowMay_iff.1 hm).1)
  rw [hj] at CJ
  rw [hh] at CH
  have CI := hide (fun W (hg : w.grownBy W none) => ins_any (.slice a n cap) js j W (hv.grown hg) (rowMay_iff.1 hm).2.2 (rowMay_iff.1 hm).1)
  have HG := hide hg0
  clear hg0 hv hm hj hh
  generalize putL js j = PL at *
  obtain ⟨y0, y1, y2, y3, y4, y5, y6⟩ := j
  dsimp only [jobVal] at *
  go_enter Tryz.func92, Tryz.ntmps92
  go_upto_region 1 with (first | fail)
  have hg := World.grownBy_alloc w0 (.cells #[.int .i64 y0, .int .i64 y1, .int .i64 y2, .int .i64 y3, .int .i64 y4, .int .i64 y5, .int .i64 y6] 70) none
  have HJq := hide (heap_alloc_new w0 (.cells #[.int .i64 y0, .int .i64 y1, .int .i64 y2, .int .i64 y3, .int .i64 y4, .int .i64 y5, .int .i64 y6] 70))
  have LJ := hide HG.out.size
  have HGn := hide (grownBy_trans HG.out hg)
  clear HG
  have HG := HGn
  clear HGn
  clear hg
  have HJ := HJq
  clear HJq
  generalize hWx : w0.alloc (.cells #[.int .i64 y0, .int .i64 y1, .int .i64 y2, .int .i64 y3, .int .i64 y4, .int .i64 y5, .int .i64 y6] 70) = w1 at *
  generalize hBx : w0.heap.size = BJ at *
  clear hWx hBx
  go_wp2_with (first | fail)
  refine (CO.out _).mono ?_; rintro e w2 ⟨rfl, hg⟩
  have HGn := hide (grownBy_trans HG.out hg)
  have HJn := hide (box_grown HJ.out hg (by simp))
  clear HG HJ
  have HG := HGn
  have HJ := HJn
  clear HGn HJn
  clear hg
  go_upto_region 2 with (first | fail)
  have hg := World.grownBy_alloc w2 (.cells #[.slice a n cap] 161) none
  have HRq := hide (heap_alloc_new w2 (.cells #[.slice a n cap] 161))
  have LR := hide HG.out.size
  have HGn := hide (grownBy_trans HG.out hg)
  have HJn := hide (box_grown HJ.out hg (by simp))
  clear HG HJ
  have HG := HGn
  have HJ := HJn
  clear HGn HJn
  clear hg
  have HR := HRq
  clear HRq
  generalize hWx : w2.alloc (.cells #[.slice a n cap] 161) = w3 at *
  generalize hBx : w2.heap.size = BR at *
  clear hWx hBx
  have cJ0 : w3.cell? ⟨BJ, 0, none⟩ = some (.int .i64 y0) := blk_cell HJ.out 0
  have cJ1 : w3.cell? ⟨BJ, 1, none⟩ = some (.int .i64 y1) := blk_cell HJ.out 1
  have cJ2 : w3.cell? ⟨BJ, 2, none⟩ = some (.int .i64 y2) := blk_cell HJ.out 2
  have cJ3 : w3.cell? ⟨BJ, 3, none⟩ = some (.int .i64 y3) := blk_cell HJ.out 3
  have cJ4 : w3.cell? ⟨BJ, 4, none⟩ = some (.int .i64 y4) := blk_cell HJ.out 4
  have cJ5 : w3.cell? ⟨BJ, 5, none⟩ = some (.int .i64 y5) := blk_cell HJ.out 5
  have cJ6 : w3.cell? ⟨BJ, 6, none⟩ = some (.int .i64 y6) := blk_cell HJ.out 6
  have cR0 : w3.cell? ⟨BR, 0, none⟩ = some (.slice a n cap) := blk_cell HR.out 0
  go_wp2_with (first | fail)
  refine (CM.out _ HG.out).mono ?_; rintro e w4 ⟨rfl, hg⟩
  clear cJ0 cJ1 cJ2 cJ3 cJ4 cJ5 cJ6 cR0
  have HGn := hide (grownBy_trans HG.out hg)
  have HJn := hide (box_grown HJ.out hg (by simp))
  have HRn := hide (box_grown HR.out hg (by simp))
  clear HG HJ HR
  have HG := HGn
  have HJ := HJn
  have HR := HRn
  clear HGn HJn HRn
  clear hg
  have cJ0 : w4.cell? ⟨BJ, 0, none⟩ = some (.int .i64 y0) := blk_cell HJ.out 0
  have cJ1 : w4.cell? ⟨BJ, 1, none⟩ = some (.int .i64 y1) := blk_cell HJ.out 1
  have cJ2 : w4.cell? ⟨BJ, 2, none⟩ = some (.int .i64 y2) := blk_cell HJ.out 2
  have cJ3 : w4.cell? ⟨BJ, 3, none⟩ = some (.int .i64 y3) := blk_cell HJ.out 3
  have cJ4 : w4.cell? ⟨BJ, 4, none⟩ = some (.int .i64 y4) := blk_cell HJ.out 4
  have cJ5 : w4.cell? ⟨BJ, 5, none⟩ = some (.int .i64 y5) := blk_cell HJ.out 5
  have cJ6 : w4.cell? ⟨BJ, 6, none⟩ = some (.int .i64 y6) := blk_cell HJ.out 6
  have cR0 : w4.cell? ⟨BR, 0, none⟩ = some (.slice a n cap) := blk_cell HR.out 0
  go_wp2_with (first | fail)
  refine (CJ.out _).mono ?_; rintro e w5 ⟨rfl, hg⟩
  clear cJ0 cJ1 cJ2 cJ3 cJ4 cJ5 cJ6 cR0
  have HGn := hide (grownBy_trans HG.out hg)
  have HJn := hide (box_grown HJ.out hg (by simp))
  have HRn := hide (box_grown HR.out hg (by simp))
  clear HG HJ HR
  have HG := HGn
  have HJ := HJn
  have HR := HRn
  clear HGn HJn HRn
  clear hg
  have cJ0 : w5.cell? ⟨BJ, 0, none⟩ = some (.int .i64 y0) := blk_cell HJ.out 0
  have cJ1 : w5.cell? ⟨BJ, 1, none⟩ = some (.int .i64 y1) := blk_cell HJ.out 1
  have cJ2 : w5.cell? ⟨BJ, 2, none⟩ = some (.int .i64 y2) := blk_cell HJ.out 2
  have cJ3 : w5.cell? ⟨BJ, 3, none⟩ = some (.int .i64 y3) := blk_cell HJ.out 3
  have cJ4 : w5.cell? ⟨BJ, 4, none⟩ = some (.int .i64 y4) := blk_cell HJ.out 4
  have cJ5 : w5.cell? ⟨BJ, 5, none⟩ = some (.int .i64 y5) := blk_cell HJ.out 5
  have cJ6 : w5.cell? ⟨BJ, 6, none⟩ = some (.int .i64 y6) := blk_cell HJ.out 6
  have cR0 : w5.cell? ⟨BR, 0, none⟩ = some (.slice a n cap) := blk_cell HR.out 0
  go_wp2_with (first | fail)
  refine (CH.out _ HG.out).mono ?_; rintro e w6 ⟨rfl, hg⟩
  clear cJ0 cJ1 cJ2 cJ3 cJ4 cJ5 cJ6 cR0
  have HGn := hide (grownBy_trans HG.out hg)
  have HJn := hide (box_grown HJ.out hg (by simp))
  have HRn := hide (box_grown HR.out hg (by simp))
  clear HG HJ HR
  have HG := HGn
  have HJ := HJn
  have HR := HRn
  clear HGn HJn HRn
  clear hg
  have cJ0 : w6.cell? ⟨BJ, 0, none⟩ = some (.int .i64 y0) := blk_cell HJ.out 0
  have cJ1 : w6.cell? ⟨BJ, 1, none⟩ = some (.int .i64 y1) := blk_cell HJ.out 1
  have cJ2 : w6.cell? ⟨BJ, 2, none⟩ = some (.int .i64 y2) := blk_cell HJ.out 2
  have cJ3 : w6.cell? ⟨BJ, 3, none⟩ = some (.int .i64 y3) := blk_cell HJ.out 3
  have cJ4 : w6.cell? ⟨BJ, 4, none⟩ = some (.int .i64 y4) := blk_cell HJ.out 4
  have cJ5 : w6.cell? ⟨BJ, 5, none⟩ = some (.int .i64 y5) := blk_cell HJ.out 5
  have cJ6 : w6.cell? ⟨BJ, 6, none⟩ = some (.int .i64 y6) := blk_cell HJ.out 6
  have cR0 : w6.cell? ⟨BR, 0, none⟩ = some (.slice a n cap) := blk_cell HR.out 0
  go_wp2_with (first | fail)
  refine (full_any a n cap _).mono ?_; rintro e w7 ⟨rfl, hg⟩
  clear cJ0 cJ1 cJ2 cJ3 cJ4 cJ5 cJ6 cR0
  have HGn := hide (grownBy_trans HG.out hg)
  have HJn := hide (box_grown HJ.out hg (by simp))
  have HRn := hide (box_grown HR.out hg (by simp))
  clear HG HJ HR
  have HG := HGn
  have HJ := HJn
  have HR := HRn
  clear HGn HJn HRn
  clear hg
  have cJ0 : w7.cell? ⟨BJ, 0, none⟩ = some (.int .i64 y0) := blk_cell HJ.out 0
  have cJ1 : w7.cell? ⟨BJ, 1, none⟩ = some (.int .i64 y1) := blk_cell HJ.out 1
  have cJ2 : w7.cell? ⟨BJ, 2, none⟩ = some (.int .i64 y2) := blk_cell HJ.out 2
  have cJ3 : w7.cell? ⟨BJ, 3, none⟩ = some (.int .i64 y3) := blk_cell HJ.out 3
  have cJ4 : w7.cell? ⟨BJ, 4, none⟩ = some (.int .i64 y4) := blk_cell HJ.out 4
  have cJ5 : w7.cell? ⟨BJ, 5, none⟩ = some (.int .i64 y5) := blk_cell HJ.out 5
  have cJ6 : w7.cell? ⟨BJ, 6, none⟩ = some (.int .i64 y6) := blk_cell HJ.out 6
  have cR0 : w7.cell? ⟨BR, 0, none⟩ = some (.slice a n cap) := blk_cell HR.out 0
  have HBS := hide HG.out.size
  go_wp2_with (first | fail)
  refine (CI.out _ HG.out).mono ?_; rintro e w8 ⟨v9, rfl, ho, hg⟩
  clear cJ0 cJ1 cJ2 cJ3 cJ4 cJ5 cJ6 cR0
  have HO := hide (ho.base HBS.out)
  have HGn := hide (grownBy_trans HG.out hg)
  clear hg ho HG HJ HR
  go_wp2
  go_ret2
  exact ⟨_, rfl, HO.out, HGn.out⟩

theorem put_any {lo : Nat} (v : Value) (js : List JobV) (j : JobV) (w w0 : World) (hg : w.grownBy w0 none) (hv : RowAt shJ lo w v js) :
    Calls Tryz.prog 92 #[v, jobVal j] w0 fun e w' => ∃ v', e = .returned (.tuple #[v', .int .i64 (putE js j)]) ∧ Own w.heap.size w' v' (putV js j) ∧ w.grownBy w' none := by
  obtain ⟨hl, a, cap, rfl, -⟩ := id hv
  cases hm : rowMay js with
  | false =>
    rw [show putE js j = 1200 by simp [putE, okB, hm], show putV js j = [] by simp [putV, okB, hm]]
    exact (put_b0 a _ cap js j w w0 hg hv hm).mono fun e w' h => ⟨_, h.1, own_nil _ _, h.2⟩
  | true =>
    cases hj : jobMay j with
    | false =>
      rw [show putE js j = 1200 by simp [putE, okB, hj], show putV js j = [] by simp [putV, okB, hj]]
      exact (put_b1 a _ cap js j w w0 hg hv hm hj).mono fun e w' h => ⟨_, h.1, own_nil _ _, h.2⟩
    | true =>
      cases hh : hasB js j with
      | true =>
        rw [show putE js j = 1200 by simp [putE, okB, hh], show putV js j = [] by simp [putV, okB, hh]]
        exact (put_b2 a _ cap js j w w0 hg hv hm hj hh).mono fun e w' h => ⟨_, h.1, own_nil _ _, h.2⟩
      | false =>
        by_cases h16 : js.length = 16
        · rw [show putE js j = 1201 by simp [putE, okB, hm, hj, hh, h16], show putV js j = [] by simp [putV, okB, h16]]
          exact (put_full a _ cap js j w w0 hg hv hm hj hh (by omega)).mono fun e w' h => ⟨_, h.1, own_nil _ _, h.2⟩
        · rw [show putE js j = 0 by simp [putE, okB, hm, hj, hh, h16], show putV js j = putL js j by simp [putV, okB, hm, hj, hh, h16]]
          exact put_ok a _ cap js j w w0 hg hv hm hj hh (by have := (rowMay_iff.1 hm).1; omega)

#print axioms put_any
end Go.Proofs.YtlppfocoonnpjaaGreatDoor.J
