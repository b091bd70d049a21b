/- The statements' own awake, proved over the translation. -/
import Derived.Test.YtlppfocoonnpjaaGreatDoorAw14h
namespace Go.Proofs.YtlppfocoonnpjaaGreatDoor.L
open Go.RowKit
open Go.Proofs.YtlppfocoonnpjaaGreatDoor.J (JobV jobAt jobVal shJ blk_cell box_lt box_grown type_box type_own own_type own_mono row_cell)
attribute [local go_sem] alloc_drewN setCell_drewN

theorem ev_row (W : World) (es : List EvV) (h : es.length ≤ 100) : (W.alloc (.cells (shE.cells es).toArray 68)).ownsRow W.heap.size 68 4 (.slice (some ⟨W.heap.size, 0, none⟩) es.length es.length) es.length (shE.cells es) := by
  have hl : (shE.cells es).length = es.length * 4 := by rw [shE.cells_length]; rfl
  refine ⟨hl, .inr ⟨W.heap.size, es.length, _, rfl, Nat.le_refl _, heap_alloc_new _ _, Nat.le_refl _, by unfold maxLen; omega, by simpa using hl, ?_⟩⟩
  rw [List.toList_toArray, ← hl, List.take_length]
set_option maxRecDepth 100000 in
set_option maxHeartbeats 16000000 in
theorem awake_any (w : World) (hT : Tab w) : Calls Tryz.prog 14 #[] w fun e w' => e = .returned (.bool true) ∧ w.grownBy w' none := by
  have HT := hide (fun V (hg : w.grownBy V none) => hT.grown hg)
  have HG := hide (grownBy_refl w none)
  clear hT
  go_enter Tryz.func14, Tryz.ntmps14
  go_wp2_with (first | (go_at_call 13; refine (num_any _ _).mono ?_; rintro e w' ⟨rfl, rfl⟩) | fail)
  refine (two_any 1 _).mono ?_; rintro e W1 ⟨g1, rfl, hp, hg⟩
  have HGn := hide (grownBy_trans HG.out hg)
  clear HG
  have HG := HGn
  clear HGn
  clear hg
  have HP := hide hp
  clear hp
  go_wp2_with (first | (go_at_call 13; refine (num_any _ _).mono ?_; rintro e w' ⟨rfl, rfl⟩) | fail)
  refine (lnew (q := twoM 1 g1) (p := twoP 1) 3 HG.out (HT.out _ HG.out) (HP.out.mono (Nat.zero_le _)) aw_ok).mono ?_; rintro e W2 ⟨b, rfl, hX, hg, -⟩
  rw [aw_new] at hX
  have HGn := hide (hg)
  clear HG
  have HG := HGn
  clear HGn
  have HX := hide hX
  clear hX hg HP
  go_wp2_with (first | (go_at_call 13; refine (num_any _ _).mono ?_; rintro e w' ⟨rfl, rfl⟩) | fail)
  refine (two_any 1 _).mono ?_; rintro e W3 ⟨g2, rfl, hp, hg⟩
  have HGn := hide (grownBy_trans HG.out hg)
  have HXn := hide (HX.out.grown hg)
  clear HG HX
  have HG := HGn
  have HX := HXn
  clear HGn HXn
  clear hg
  have HP := hide hp
  clear hp
  go_wp2_with (first | (go_at_call 13; refine (num_any _ _).mono ?_; rintro e w' ⟨rfl, rfl⟩) | fail)
  refine (new_no (q := twoM 1 g2) (p := twoP 1) 8 _ (HT.out _ HG.out) (HP.out.mono (Nat.zero_le _)) aw_no).mono ?_; rintro e W4 ⟨rfl, hg⟩
  have HGn := hide (grownBy_trans HG.out hg)
  have HXn := hide (HX.out.grown hg)
  clear HG HX
  have HG := HGn
  have HX := HXn
  clear HGn HXn
  clear hg
  clear HP
  go_wp2_with (first | (go_at_call 13; refine (num_any _ _).mono ?_; rintro e w' ⟨rfl, rfl⟩) | fail)
  refine (lpick 1 3 0 HG.out HX.out aw1.1 aw1.2.1 aw1.2.2 rfl).mono ?_; rintro e W5 ⟨az1, cz1, rfl, hX, ho, hg, hk⟩
  have HGn := hide (hg)
  have HXn := hide (hX)
  clear HG HX
  have HG := HGn
  have HX := HXn
  clear HGn HXn
  clear hX ho hg hk
  go_wp2_with (first | (go_at_call 13; refine (num_any _ _).mono ?_; rintro e w' ⟨rfl, rfl⟩) | fail)
  refine (lbegin 0 HG.out HX.out (by decide) aw2.1 aw2.2.1 aw2.2.2 rfl).mono ?_; rintro e W6 ⟨abe, cbe, rfl, hX, ho, hg, hk⟩
  have HGn := hide (hg)
  have HXn := hide (hX)
  clear HG HX
  have HG := HGn
  have HX := HXn
  clear HGn HXn
  have Ebe := hide ho
  clear hX ho hg hk
  go_wp2_with (first | (go_at_call 13; refine (num_any _ _).mono ?_; rintro e w' ⟨rfl, rfl⟩) | fail)
  refine (lpick 2 1 0 HG.out HX.out aw3.1 aw3.2.1 aw3.2.2 rfl).mono ?_; rintro e W7 ⟨az3, cz3, rfl, hX, ho, hg, hk⟩
  have HGn := hide (hg)
  have HXn := hide (hX)
  have Eben := hide (show OwnE w.heap.size W7 _ _ from hk.row Ebe.out (by decide) (by decide) (by decide))
  clear HG HX Ebe
  have HG := HGn
  have HX := HXn
  have Ebe := Eben
  clear HGn HXn Eben
  clear hX ho hg hk
  go_wp2_with (first | (go_at_call 13; refine (num_any _ _).mono ?_; rintro e w' ⟨rfl, rfl⟩) | fail)
  refine (lrun HG.out HX.out aw4.1 aw4.2.1 aw4.2.2.1 aw4.2.2.2.1 aw4.2.2.2.2.1 aw4.2.2.2.2.2 rfl).mono ?_; rintro e W8 ⟨az4, cz4, rfl, hX, ho, hg, hk⟩
  have HGn := hide (hg)
  have HXn := hide (hX)
  have Eben := hide (show OwnE w.heap.size W8 _ _ from hk.row Ebe.out (by decide) (by decide) (by decide))
  clear HG HX Ebe
  have HG := HGn
  have HX := HXn
  have Ebe := Eben
  clear HGn HXn Eben
  clear hX ho hg hk
  go_upto_region 9 with (first | (go_at_call 13; refine (num_any _ _).mono ?_; rintro e w' ⟨rfl, rfl⟩) | fail)
  have hg := World.grownBy_alloc W8 (.cells #[.bool false, .bool false, .bool false] 50) none
  have Hv1q := hide (heap_alloc_new W8 (.cells #[.bool false, .bool false, .bool false] 50))
  have Lv1 := hide (show w.heap.size ≤ W8.heap.size from HG.out.size)
  have HGn := hide (grownBy_trans HG.out hg)
  have HXn := hide (HX.out.grown hg)
  have Eben := hide (OwnE.grown Ebe.out hg)
  clear HG HX Ebe
  have HG := HGn
  have HX := HXn
  have Ebe := Eben
  clear HGn HXn Eben
  clear hg
  have Hv1 := Hv1q
  clear Hv1q
  generalize W8.alloc (.cells #[.bool false, .bool false, .bool false] 50) = W9 at *
  generalize hBx : W8.heap.size = Bv1 at *
  clear hBx
  go_wp2_with (first | (go_at_call 13; refine (num_any _ _).mono ?_; rintro e w' ⟨rfl, rfl⟩) | fail)
  refine (lpick 1 9 2 HG.out HX.out aw5.1 aw5.2.1 aw5.2.2 rfl).mono ?_; rintro e W10 ⟨acc, ccc, rfl, hX, ho, hg, hk⟩
  have HGn := hide (hg)
  have HXn := hide (hX)
  have Eben := hide (show OwnE w.heap.size W10 _ _ from hk.row Ebe.out (by decide) (by decide) (by decide))
  have Hv1n := hide (hk.box Hv1.out (by decide) (by decide) (by decide))
  clear HG HX Ebe Hv1
  have HG := HGn
  have HX := HXn
  have Ebe := Eben
  have Hv1 := Hv1n
  clear HGn HXn Eben Hv1n
  have Ecc := hide ho
  clear hX ho hg hk
  go_wp2_with (first | (go_at_call 13; refine (num_any _ _).mono ?_; rintro e w' ⟨rfl, rfl⟩) | fail)
  refine (lrun HG.out HX.out aw6.1 aw6.2.1 aw6.2.2.1 aw6.2.2.2.1 aw6.2.2.2.2.1 aw6.2.2.2.2.2 rfl).mono ?_; rintro e W11 ⟨az6, cz6, rfl, hX, ho, hg, hk⟩
  have HGn := hide (hg)
  have HXn := hide (hX)
  have Eben := hide (show OwnE w.heap.size W11 _ _ from hk.row Ebe.out (by decide) (by decide) (by decide))
  have Eccn := hide (show OwnE w.heap.size W11 _ _ from hk.row Ecc.out (by decide) (by decide) (by decide))
  have Hv1n := hide (hk.box Hv1.out (by decide) (by decide) (by decide))
  clear HG HX Ebe Ecc Hv1
  have HG := HGn
  have HX := HXn
  have Ebe := Eben
  have Ecc := Eccn
  have Hv1 := Hv1n
  clear HGn HXn Eben Eccn Hv1n
  clear hX ho hg hk
  go_upto_region 11 with (first | (go_at_call 13; refine (num_any _ _).mono ?_; rintro e w' ⟨rfl, rfl⟩) | fail)
  have hg := World.grownBy_alloc W11 (.cells #[.bool false, .bool false, .bool false] 50) none
  have Hv2q := hide (heap_alloc_new W11 (.cells #[.bool false, .bool false, .bool false] 50))
  have Lv2 := hide (show w.heap.size ≤ W11.heap.size from HG.out.size)
  have HGn := hide (grownBy_trans HG.out hg)
  have HXn := hide (HX.out.grown hg)
  have Eben := hide (OwnE.grown Ebe.out hg)
  have Eccn := hide (OwnE.grown Ecc.out hg)
  have Hv1n := hide (box_grown Hv1.out hg (by simp))
  clear HG HX Ebe Ecc Hv1
  have HG := HGn
  have HX := HXn
  have Ebe := Eben
  have Ecc := Eccn
  have Hv1 := Hv1n
  clear HGn HXn Eben Eccn Hv1n
  clear hg
  have Hv2 := Hv2q
  clear Hv2q
  generalize W11.alloc (.cells #[.bool false, .bool false, .bool false] 50) = W12 at *
  generalize hBx : W11.heap.size = Bv2 at *
  clear hBx
  go_wp2_with (first | (go_at_call 13; refine (num_any _ _).mono ?_; rintro e w' ⟨rfl, rfl⟩) | fail)
  refine (ljobs (ln := 2) HG.out HX.out rfl).mono ?_; rintro e W13 ⟨aj, cj, rfl, ho, hX, hg, hg2⟩
  have HGn := hide (hg)
  have HXn := hide (hX)
  have Eben := hide (OwnE.grown Ebe.out hg2)
  have Eccn := hide (OwnE.grown Ecc.out hg2)
  have Hv1n := hide (box_grown Hv1.out hg2 (by simp))
  have Hv2n := hide (box_grown Hv2.out hg2 (by simp))
  clear HG HX Ebe Ecc Hv1 Hv2
  have HG := HGn
  have HX := HXn
  have Ebe := Eben
  have Ecc := Eccn
  have Hv1 := Hv1n
  have Hv2 := Hv2n
  clear HGn HXn Eben Eccn Hv1n Hv2n
  have HJ := hide ho
  clear ho hX hg hg2
  go_wp2_with (first | (go_at_call 13; refine (num_any _ _).mono ?_; rintro e w' ⟨rfl, rfl⟩) | fail)
  have hg := World.grownBy_alloc W13 (.cells #[.int .i64 1, .int .i64 3, .int .i64 0, .int .i64 2, .int .i64 1, .int .i64 3, .int .i64 1, .int .i64 3] 68) none
  have El := hide (show OwnE w.heap.size (W13.alloc (.cells #[.int .i64 1, .int .i64 3, .int .i64 0, .int .i64 2, .int .i64 1, .int .i64 3, .int .i64 1, .int .i64 3] 68)) (.slice (some ⟨W13.heap.size, 0, none⟩) 2 2) [⟨1, 3, 0, 2⟩, ⟨1, 3, 1, 3⟩] from own_mono (ev_row W13 [⟨1, 3, 0, 2⟩, ⟨1, 3, 1, 3⟩] (by decide)) HG.out.size)
  have HGn := hide (grownBy_trans HG.out hg)
  have HXn := hide (HX.out.grown hg)
  have HJn := hide (HJ.out.grown hg)
  have Eben := hide (OwnE.grown Ebe.out hg)
  have Eccn := hide (OwnE.grown Ecc.out hg)
  have Hv1n := hide (box_grown Hv1.out hg (by simp))
  have Hv2n := hide (box_grown Hv2.out hg (by simp))
  clear HG HX HJ Ebe Ecc Hv1 Hv2
  have HG := HGn
  have HX := HXn
  have HJ := HJn
  have Ebe := Eben
  have Ecc := Eccn
  have Hv1 := Hv1n
  have Hv2 := Hv2n
  clear HGn HXn HJn Eben Eccn Hv1n Hv2n
  clear hg
  refine (lsame HG.out Ebe.out El.out).mono ?_; rintro e W15 ⟨rfl, hg, -⟩
  clear El
  have HGn := hide (grownBy_trans HG.out hg)
  have HXn := hide (HX.out.grown hg)
  have HJn := hide (HJ.out.grown hg)
  have Eben := hide (OwnE.grown Ebe.out hg)
  have Eccn := hide (OwnE.grown Ecc.out hg)
  have Hv1n := hide (box_grown Hv1.out hg (by simp))
  have Hv2n := hide (box_grown Hv2.out hg (by simp))
  clear HG HX HJ Ebe Ecc Hv1 Hv2
  have HG := HGn
  have HX := HXn
  have HJ := HJn
  have Ebe := Eben
  have Ecc := Eccn
  have Hv1 := Hv1n
  have Hv2 := Hv2n
  clear HGn HXn HJn Eben Eccn Hv1n Hv2n
  clear hg
  go_wp2_with (first | (go_at_call 13; refine (num_any _ _).mono ?_; rintro e w' ⟨rfl, rfl⟩) | fail)
  have hg := World.grownBy_alloc W15 (.cells #[.int .i64 2, .int .i64 3, .int .i64 1, .int .i64 4] 68) none
  have El := hide (show OwnE w.heap.size (W15.alloc (.cells #[.int .i64 2, .int .i64 3, .int .i64 1, .int .i64 4] 68)) (.slice (some ⟨W15.heap.size, 0, none⟩) 1 1) [⟨2, 3, 1, 4⟩] from own_mono (ev_row W15 [⟨2, 3, 1, 4⟩] (by decide)) HG.out.size)
  have HGn := hide (grownBy_trans HG.out hg)
  have HXn := hide (HX.out.grown hg)
  have HJn := hide (HJ.out.grown hg)
  have Eben := hide (OwnE.grown Ebe.out hg)
  have Eccn := hide (OwnE.grown Ecc.out hg)
  have Hv1n := hide (box_grown Hv1.out hg (by simp))
  have Hv2n := hide (box_grown Hv2.out hg (by simp))
  clear HG HX HJ Ebe Ecc Hv1 Hv2
  have HG := HGn
  have HX := HXn
  have HJ := HJn
  have Ebe := Eben
  have Ecc := Eccn
  have Hv1 := Hv1n
  have Hv2 := Hv2n
  clear HGn HXn HJn Eben Eccn Hv1n Hv2n
  clear hg
  refine (lsame HG.out Ecc.out El.out).mono ?_; rintro e W17 ⟨rfl, hg, -⟩
  clear El
  have HGn := hide (grownBy_trans HG.out hg)
  have HXn := hide (HX.out.grown hg)
  have HJn := hide (HJ.out.grown hg)
  have Eben := hide (OwnE.grown Ebe.out hg)
  have Eccn := hide (OwnE.grown Ecc.out hg)
  have Hv1n := hide (box_grown Hv1.out hg (by simp))
  have Hv2n := hide (box_grown Hv2.out hg (by simp))
  clear HG HX HJ Ebe Ecc Hv1 Hv2
  have HG := HGn
  have HX := HXn
  have HJ := HJn
  have Ebe := Eben
  have Ecc := Eccn
  have Hv1 := Hv1n
  have Hv2 := Hv2n
  clear HGn HXn HJn Eben Eccn Hv1n Hv2n
  clear hg
  have cv20 := blk_cell Hv2.out 0
  have cv21 := blk_cell Hv2.out 1
  have cv22 := blk_cell Hv2.out 2
  obtain ⟨gj, oj, hj⟩ := J.row_addr HJ.out.row (by decide)
  subst hj
  have hr := HJ.out.row
  have j06 : W17.cell? ⟨gj, oj + 6, none⟩ = some (.int .i64 2) := by have := row_cell (S := shJ) (j := 0) hr (x := _) rfl (k := 6) rfl; simpa [shJ, awE] using this
  have j00 : W17.cell? ⟨gj, oj, none⟩ = some (.int .i64 1) := by have := row_cell (S := shJ) (j := 0) hr (x := _) rfl (k := 0) rfl; simpa [shJ, awE] using this
  clear hr
  go_wp2_with (first | (go_at_call 13; refine (num_any _ _).mono ?_; rintro e w' ⟨rfl, rfl⟩) | fail)
  refine (lready (B := true) HX.out (by decide)).mono ?_; rintro e w' ⟨rfl, rfl⟩
  go_wp2_with (first | (go_at_call 13; refine (num_any _ _).mono ?_; rintro e w' ⟨rfl, rfl⟩) | fail)
  go_ret
  exact ⟨rfl, HG.out⟩
#print axioms awake_any
end Go.Proofs.YtlppfocoonnpjaaGreatDoor.L
