/- The walk of the statement JobKills: a job alone, tick by tick; proved over the translation. -/
import Derived.Test.YtlppfocoonnpjaaGreatDoorAw14
import Derived.Test.YtlppfocoonnpjaaGreatDoorKmath
namespace Go.Proofs.YtlppfocoonnpjaaGreatDoor.L
open Go.RowKit
open Go.Proofs.YtlppfocoonnpjaaGreatDoor.J (JobV jobAt jobVal shJ blk_cell box_lt box_grown type_box type_own own_type own_mono row_cell)
attribute [local go_sem] alloc_drewN setCell_drewN

set_option maxRecDepth 100000 in
set_option maxHeartbeats 16000000 in
theorem kills_hi (a0 a1 a2 : Int) (w : World) (hT : Tab w) : Calls Tryz.prog 5 #[.int .i64 a0, .int .i64 a1, .int .i64 a2, .bool true] w fun e w' => e = .returned (.bool true) ∧ w.grownBy w' none := by
  have HT := hide (fun V (hg : w.grownBy V none) => hT.grown hg)
  have HG := hide (grownBy_refl w none)
  obtain ⟨c1, hc1, ec1⟩ := and3 a1
  obtain ⟨c2, hc2, ec2⟩ := and3 a2
  obtain ⟨c3, hc3, ec3⟩ := and5 a0
  have k1 : 1 ≤ (1 + (c1 : Int)) := by omega
  have k2 : (1 + (c1 : Int)) ≤ (1 + (c1 : Int) + c2) := by omega
  have k3 : (1 + (c1 : Int) + c2) ≤ 15 := by omega
  have k4 : 1 ≤ (1 + (c3 : Int)) := by omega
  have k5 : (1 + (c3 : Int)) ≤ 32 := by omega
  have kl : (1 : Int) = 0 ∨ (1 : Int) = 1 := by decide
  have kb : (1 : Int) = 0 → (1 + (c1 : Int) + c2) = (1 + (c1 : Int)) := fun h => absurd h (by decide)
  have HOK := hide (one_ok (i := 2) (l := 1) (t := tK (1 + (c1 : Int)) (1 + (c1 : Int) + c2)) (by decide) (by decide) kl (tK_may k1 k2 k3) kb)
  have HPK := hide (kilPick (lv := 1) k1 k2 k3 k4 k5)
  have HBG := hide (kilBeg (lv := 1) k1 k2 k3 k4 k5)
  clear hT
  have CA := hide (fun V hT => awake_any V hT)
  clear kl kb k2
  go_enter Tryz.func5, Tryz.ntmps5
  go_wp2_with (first | (go_at_call 13; refine (num_any _ _).mono ?_; rintro e w' ⟨rfl, rfl⟩) | fail)
  refine (CA.out _ (HT.out _ HG.out)).mono ?_; rintro e W1 ⟨rfl, hg⟩
  have HGn := hide (grownBy_trans HG.out hg)
  clear HG
  have HG := HGn
  clear HGn
  clear hg
  go_wp2_with (first | (go_at_call 13; refine (num_any _ _).mono ?_; rintro e w' ⟨rfl, rfl⟩) | fail)
  have hg := World.grownBy_alloc W1 (.cells #[.int .i64 1, .int .i64 40, .int .i64 40, .int .i64 (1 + (c1 : Int)), .int .i64 (1 + (c1 : Int) + c2), .int .i64 0] 73) none
  have HPI : Hid (PartIs 0 (W1.alloc (.cells #[.int .i64 1, .int .i64 40, .int .i64 40, .int .i64 (1 + (c1 : Int)), .int .i64 (1 + (c1 : Int) + c2), .int .i64 0] 73)) ⟨1, some ⟨W1.heap.size, 0, none⟩, 1, 1, none, 0, 0⟩ ⟨1, [tK (1 + (c1 : Int)) (1 + (c1 : Int) + c2)], []⟩) := hide ⟨rfl, RowAt.mono (rowAt_lit (S := shT) W1 [tK (1 + (c1 : Int)) (1 + (c1 : Int) + c2)] 73 (by simp)) (Nat.zero_le _), rowAt_nil _ _ _ _⟩
  have HGn := hide (grownBy_trans HG.out hg)
  clear HG
  have HG := HGn
  clear HGn
  clear hg
  refine (lnew 2 HG.out (HT.out _ HG.out) HPI.out HOK.out).mono ?_; rintro e W2 ⟨b, rfl, hX, hg, -⟩
  have HGn := hide (hg)
  clear HG
  have HG := HGn
  clear HGn
  have HX := hide (show PX w W2 b (kilN (1 + (c1 : Int)) (1 + (c1 : Int) + c2) 1) 0 from hX)
  clear hX hg HPI HOK CA HT
  go_wp2_with (first | (go_at_call 13; refine (num_any _ _).mono ?_; rintro e w' ⟨rfl, rfl⟩) | fail)
  refine (lpick 0 (1 + (c3 : Int)) 7 HG.out HX.out HPK.out.1 HPK.out.2.1 HPK.out.2.2 (ln := 0) rfl).mono ?_; rintro e W3 ⟨az1, cz1, rfl, hX, ho, hg, hk⟩
  have HGn := hide (hg)
  have HXn := hide (hX)
  clear HG HX
  have HG := HGn
  have HX := HXn
  clear HGn HXn
  clear hX ho hg hk
  go_wp2_with (first | (go_at_call 13; refine (num_any _ _).mono ?_; rintro e w' ⟨rfl, rfl⟩) | fail)
  refine (lbegin 7 HG.out HX.out (by decide) (N := 0) (by rfl) HBG.out.1 HBG.out.2 (ln := 1) rfl).mono ?_; rintro e W4 ⟨aes, ces, rfl, hX, ho, hg, hk⟩
  have HGn := hide (hg)
  have HXn := hide (hX)
  clear HG HX
  have HG := HGn
  have HX := HXn
  clear HGn HXn
  have Ees := hide ho
  clear hX ho hg hk
  go_wp2_with (first | (go_at_call 13; refine (num_any _ _).mono ?_; rintro e w' ⟨rfl, rfl⟩) | fail)
  have hg := World.grownBy_alloc W4 (.cells #[.int .i64 1, .int .i64 2, .int .i64 0, .int .i64 (1 + (c3 : Int))] 68) none
  have El := hide (show OwnE w.heap.size (W4.alloc (.cells #[.int .i64 1, .int .i64 2, .int .i64 0, .int .i64 (1 + (c3 : Int))] 68)) (.slice (some ⟨W4.heap.size, 0, none⟩) 1 1) [⟨1, 2, 0, (1 + (c3 : Int))⟩] from own_mono (ev_row W4 [⟨1, 2, 0, (1 + (c3 : Int))⟩] (by simp)) HG.out.size)
  have HGn := hide (grownBy_trans HG.out hg)
  have HXn := hide (HX.out.grown hg)
  have Eesn := hide (OwnE.grown Ees.out hg)
  clear HG HX Ees
  have HG := HGn
  have HX := HXn
  have Ees := Eesn
  clear HGn HXn Eesn
  clear hg
  refine (lsame HG.out Ees.out El.out).mono ?_; rintro e W6 ⟨rfl, hg, -⟩
  clear El
  have HGn := hide (grownBy_trans HG.out hg)
  have HXn := hide (HX.out.grown hg)
  have Eesn := hide (OwnE.grown Ees.out hg)
  clear HG HX Ees
  have HG := HGn
  have HX := HXn
  have Ees := Eesn
  clear HGn HXn Eesn
  clear hg
  clear Ees
  go_wp2_with (first | (go_at_call 13; refine (num_any _ _).mono ?_; rintro e w' ⟨rfl, rfl⟩) | fail)
  clear ec1 ec2 ec3 HPK HBG
  have kl : (1 : Int) = 0 ∨ (1 : Int) = 1 := by decide
  have HKB : Hid ((1 : Int) = 0 → (1 + (c1 : Int) + c2) = (1 + (c1 : Int))) := hide (fun h => absurd h (by decide))
  go_loopw [19] (fun i V => ∃ (k : Nat), 1 ≤ k ∧ (k : Int) ≤ (1 + (c3 : Int)) ∧ (k : Int) ≤ (1 + (c1 : Int) + c2) ∧ i = .int .i64 k ∧ Hid (PX w V b (kilA (1 + (c1 : Int)) (1 + (c1 : Int) + c2) 1 (1 + (c3 : Int)) ((k : Int) - 1)) (0 + 6)) ∧ Hid (w.grownBy V none)) (fun i _ => 40 - (intOf i).toNat)
  case atStart => exact ⟨1, by omega, by omega, by omega, rfl, HX, HG⟩
  case round =>
    clear HX HG
    obtain ⟨k, hk1, hkd, hkb, rfl, HX, HG⟩ := hrel
    have hk32 : (k : Int) ≤ 32 := by omega
    have HR := hide (kilRun (lv := 1) (u := (k : Int) - 1) k1 (show (1 + (c1 : Int)) ≤ (1 + (c1 : Int) + c2) by omega) k3 k4 k5 (by omega) (by omega) kl HKB.out)
    have HV := hide (kilV (lv := 1) (u := (k : Int) - 1) k1 (show (1 + (c1 : Int)) ≤ (1 + (c1 : Int) + c2) by omega) k3 k4 k5 (by omega) (by omega) kl HKB.out)
    rw [Int.sub_add_cancel] at HR HV
    have HR0 := hide HR.out.1
    rcases (by omega : (k : Int) = (1 + (c3 : Int)) ∨ ((k : Int) < (1 + (c3 : Int)) ∧ (k : Int) = (1 + (c1 : Int) + c2)) ∨ ((k : Int) < (1 + (c3 : Int)) ∧ (k : Int) < (1 + (c1 : Int) + c2))) with hd | ⟨hd, hb⟩ | ⟨hd, hb⟩
    · skip
      have HQD := hide hd
      have HQB : Hid True := hide trivial
      have q1 : ((k : Int) == (1 + (c3 : Int))) = true := beq_iff_eq.2 hd
      have q2 : ¬((k : Int) < (1 + (c3 : Int))) := by omega
      clear hd
      by_cases hqb : (k : Int) = (1 + (c1 : Int) + c2)
      · skip
        have q3 : ((k : Int) == (1 + (c1 : Int) + c2)) = true := beq_iff_eq.2 hqb
        clear hqb
        by_cases hqa : (k : Int) = (1 + (c1 : Int))
        · skip
          have q4 : ((k : Int) == (1 + (c1 : Int))) = true := beq_iff_eq.2 hqa
          clear hqa
          have HO := hide (show runO (kilA (1 + (c1 : Int)) (1 + (c1 : Int) + c2) 1 (1 + (c3 : Int)) ((k : Int) - 1)) = false from HR.out.2.1.trans (by rw [decide_eq_false (show ¬(k : Int) < (1 + (c3 : Int)) by have := HQD.out; omega), Bool.and_false, Bool.and_false]))
          have HD := hide (show runD (kilA (1 + (c1 : Int)) (1 + (c1 : Int) + c2) 1 (1 + (c3 : Int)) ((k : Int) - 1)) = true from HR.out.2.2.1.trans (decide_eq_true HQD.out))
          have HK := hide (show runK (kilA (1 + (c1 : Int)) (1 + (c1 : Int) + c2) 1 (1 + (c3 : Int)) ((k : Int) - 1)) = false from HR.out.2.2.2.trans (by rw [decide_eq_false (show ¬(k : Int) < (1 + (c3 : Int)) by have := HQD.out; omega), Bool.and_false]))
          have HE := hide (show runV (kilA (1 + (c1 : Int)) (1 + (c1 : Int) + c2) 1 (1 + (c3 : Int)) ((k : Int) - 1)) = [⟨5, 2, 0, (k : Int)⟩] from HV.out.trans (by rw [if_neg (show ¬((1 : Int) = 1 ∧ (k : Int) = (1 + (c1 : Int)) ∧ (k : Int) < (1 + (c3 : Int))) by have := HQD.out; omega)]; rw [if_pos HQD.out]; rfl))
          have HL := hide (show runL (kilA (1 + (c1 : Int)) (1 + (c1 : Int) + c2) 1 (1 + (c3 : Int)) ((k : Int) - 1)) = kilE (1 + (c1 : Int)) (1 + (c1 : Int) + c2) 1 from kilEnd (u := (k : Int) - 1) k1 (by omega) k3 k4 k5 (by omega) (by omega) kl HKB.out (by have := HQD.out; have := HQB.out; omega))
          clear HR HV
          go_wp2_with (first | (go_at_call 13; refine (num_any _ _).mono ?_; rintro e w' ⟨rfl, rfl⟩) | fail)
          refine (lrun HG.out HX.out HO.out HD.out HK.out HR0.out HL.out HE.out (ln := 1) rfl).mono ?_; rintro e W51 ⟨aes, ces, rfl, hX, ho, hg, hk⟩
          have HGn := hide (hg)
          have HXn := hide (hX)
          clear HG HX
          have HG := HGn
          have HX := HXn
          clear HGn HXn
          have Ees := hide ho
          clear hX ho hg hk
          clear HO HD HK HE HL HR0
          go_upto_region 21 with (first | (go_at_call 13; refine (num_any _ _).mono ?_; rintro e w' ⟨rfl, rfl⟩) | fail)
          have hg := World.grownBy_alloc W51 (.cells #[.bool false, .bool true, .bool false] 50) none
          have Hvq := hide (heap_alloc_new W51 (.cells #[.bool false, .bool true, .bool false] 50))
          have Lv := hide (show w.heap.size ≤ W51.heap.size from HG.out.size)
          have HGn := hide (grownBy_trans HG.out hg)
          have HXn := hide (HX.out.grown hg)
          have Eesn := hide (OwnE.grown Ees.out hg)
          clear HG HX Ees
          have HG := HGn
          have HX := HXn
          have Ees := Eesn
          clear HGn HXn Eesn
          clear hg
          have Hv := Hvq
          clear Hvq
          generalize W51.alloc (.cells #[.bool false, .bool true, .bool false] 50) = W52 at *
          generalize hBx : W51.heap.size = Bv at *
          clear hBx
          go_upto_region 25 with (first | (go_at_call 13; refine (num_any _ _).mono ?_; rintro e w' ⟨rfl, rfl⟩) | fail)
          have LEes := hide (fun k hk => (World.ownsRow.lt (show W52.ownsRow w.heap.size 68 4 _ _ _ from Ees.out) k hk).2)
          have LBw5 := hide HG.out.size
          have hg := World.grownBy_alloc W52 (.cells #[.int .i64 5, .int .i64 2, .int .i64 0, .int .i64 (k : Int)] 68) none
          have HLIT := hide (heap_alloc_new W52 (.cells #[.int .i64 5, .int .i64 2, .int .i64 0, .int .i64 (k : Int)] 68))
          have HSZ := hide hg.size
          have HGn := hide (grownBy_trans HG.out hg)
          have HXn := hide (HX.out.grown hg)
          have Eesn := hide (OwnE.grown Ees.out hg)
          have Hvn := hide (box_grown Hv.out hg (by simp))
          clear HG HX Ees Hv
          have HG := HGn
          have HX := HXn
          have Ees := Eesn
          have Hv := Hvn
          clear HGn HXn Eesn Hvn
          clear hg
          go_wp2_with (first | (at_builtin; refine app_row (S := shE) _ rfl _ _ 41 68 (.agg #[.int .i64 0, .int .i64 0, .int .i64 0, .int .i64 0]) 32 Tryz.underlying41 infoE rfl rfl (W52.heap.size) (.slice none 0 0) 0 ([] : List EvV) rfl (World.ownsRow_nil _ _ _ _) ⟨W52.heap.size, 0, none⟩ 1 1 [(⟨5, 2, 0, (k : Int)⟩ : EvV)] rfl rfl (J.one_at shE (⟨5, 2, 0, (k : Int)⟩ : EvV) HLIT.out) (by omega) (by omega) HSZ.out ?_) | fail)
          intro aw5 cw5 W53 ho hgA hb9
          clear hb9 HLIT HSZ
          replace hgA : _root_.Go.World.grownBy _ W53 none := hgA
          have HGn := hide (grownBy_trans HG.out hgA)
          have HXn := hide (HX.out.grown hgA)
          have Eesn := hide (OwnE.grown Ees.out hgA)
          have Hvn := hide (box_grown Hv.out hgA (by simp))
          clear HG HX Ees Hv
          have HG := HGn
          have HX := HXn
          have Ees := Eesn
          have Hv := Hvn
          clear HGn HXn Eesn Hvn
          have Pw5 := hide (show W53.ownsRow (W52.heap.size) 68 4 (.slice aw5 1 cw5) 1 (shE.cells [⟨5, 2, 0, (k : Int)⟩]) from ho)
          have Ew5 := hide (show OwnE w.heap.size W53 (.slice aw5 1 cw5) [⟨5, 2, 0, (k : Int)⟩] from own_mono Pw5.out LBw5.out)
          have Sw5 := hide (show W52.heap.size ≤ W53.heap.size from Nat.le_trans (World.grownBy_alloc W52 (.cells #[.int .i64 5, .int .i64 2, .int .i64 0, .int .i64 (k : Int)] 68) none).size hgA.size)
          clear ho hgA
          have cv1 := blk_cell Hv.out 1
          have cv2 := blk_cell Hv.out 2
          go_wp2_with (first | (go_at_call 13; refine (num_any _ _).mono ?_; rintro e w' ⟨rfl, rfl⟩) | fail)
          refine (lsame HG.out Ees.out Ew5.out).mono ?_; rintro e W54 ⟨rfl, hg, -⟩
          clear cv1 cv2
          have HGn := hide (grownBy_trans HG.out hg)
          have HXn := hide (HX.out.grown hg)
          have Eesn := hide (OwnE.grown Ees.out hg)
          have Ew5n := hide (OwnE.grown Ew5.out hg)
          have Hvn := hide (box_grown Hv.out hg (by simp))
          clear HG HX Ees Ew5 Hv
          have HG := HGn
          have HX := HXn
          have Ees := Eesn
          have Ew5 := Ew5n
          have Hv := Hvn
          clear HGn HXn Eesn Ew5n Hvn
          clear hg
          have cv1 := blk_cell Hv.out 1
          have cv2 := blk_cell Hv.out 2
          go_wp2_with (first | (go_at_call 13; refine (num_any _ _).mono ?_; rintro e w' ⟨rfl, rfl⟩) | fail)
          clear cv1 cv2
          refine (lrun (L := kilE (1 + (c1 : Int)) (1 + (c1 : Int) + c2) 1) HG.out HX.out one_none.1 one_none.2.1 one_none.2.2.1 one_none.2.2.2.1 one_none.2.2.2.2.1 one_none.2.2.2.2.2.1 (ln := 0) rfl).mono ?_; rintro e W55 ⟨az4, cz4, rfl, hX, ho, hg, hk⟩
          have HGn := hide (hg)
          have HXn := hide (hX)
          have Eesn := hide (show OwnE w.heap.size W55 _ _ from hk.row Ees.out (by decide) (by decide) (by decide))
          have Ew5n := hide (show OwnE w.heap.size W55 _ _ from hk.row Ew5.out (by decide) (by decide) (by decide))
          have Hvn := hide (hk.box Hv.out (by decide) (by decide) (by decide))
          clear HG HX Ees Ew5 Hv
          have HG := HGn
          have HX := HXn
          have Ees := Eesn
          have Ew5 := Ew5n
          have Hv := Hvn
          clear HGn HXn Eesn Ew5n Hvn
          clear hX ho hg hk
          go_upto_region 32 with (first | (go_at_call 13; refine (num_any _ _).mono ?_; rintro e w' ⟨rfl, rfl⟩) | fail)
          have hg := World.grownBy_alloc W55 (.cells #[.bool false, .bool false, .bool false] 50) none
          have Hvvq := hide (heap_alloc_new W55 (.cells #[.bool false, .bool false, .bool false] 50))
          have Lvv := hide (show w.heap.size ≤ W55.heap.size from HG.out.size)
          have HGn := hide (grownBy_trans HG.out hg)
          have HXn := hide (HX.out.grown hg)
          have Eesn := hide (OwnE.grown Ees.out hg)
          have Ew5n := hide (OwnE.grown Ew5.out hg)
          have Hvn := hide (box_grown Hv.out hg (by simp))
          clear HG HX Ees Ew5 Hv
          have HG := HGn
          have HX := HXn
          have Ees := Eesn
          have Ew5 := Ew5n
          have Hv := Hvn
          clear HGn HXn Eesn Ew5n Hvn
          clear hg
          have Hvv := Hvvq
          clear Hvvq
          generalize W55.alloc (.cells #[.bool false, .bool false, .bool false] 50) = W56 at *
          generalize hBx : W55.heap.size = Bvv at *
          clear hBx
          go_wp2_with (first | (go_at_call 13; refine (num_any _ _).mono ?_; rintro e w' ⟨rfl, rfl⟩) | fail)
          refine (lfail (L := kilE (1 + (c1 : Int)) (1 + (c1 : Int) + c2) 1) HG.out HX.out one_none.2.2.2.1 one_none.2.2.2.2.2.2.1 one_none.2.2.2.2.2.2.2 (ln := 0) rfl).mono ?_; rintro e W57 ⟨az5, cz5, rfl, hX, ho, hg, hk⟩
          have HGn := hide (hg)
          have HXn := hide (hX)
          have Eesn := hide (show OwnE w.heap.size W57 _ _ from hk.row Ees.out (by decide) (by decide) (by decide))
          have Ew5n := hide (show OwnE w.heap.size W57 _ _ from hk.row Ew5.out (by decide) (by decide) (by decide))
          have Hvn := hide (hk.box Hv.out (by decide) (by decide) (by decide))
          have Hvvn := hide (hk.box Hvv.out (by decide) (by decide) (by decide))
          clear HG HX Ees Ew5 Hv Hvv
          have HG := HGn
          have HX := HXn
          have Ees := Eesn
          have Ew5 := Ew5n
          have Hv := Hvn
          have Hvv := Hvvn
          clear HGn HXn Eesn Ew5n Hvn Hvvn
          clear hX ho hg hk
          go_wp2_with (first | (go_at_call 13; refine (num_any _ _).mono ?_; rintro e w' ⟨rfl, rfl⟩) | fail)
          refine (lready (L := kilE (1 + (c1 : Int)) (1 + (c1 : Int) + c2) 1) (B := false) HX.out rfl).mono ?_; rintro e w' ⟨rfl, rfl⟩
          go_wp2_with (first | (go_at_call 13; refine (num_any _ _).mono ?_; rintro e w' ⟨rfl, rfl⟩) | fail)
          refine (ljobs (L := kilE (1 + (c1 : Int)) (1 + (c1 : Int) + c2) 1) (ln := 0) HG.out HX.out rfl).mono ?_; rintro e W58 ⟨aj, cj, rfl, ho, hX, hg, hg2⟩
          have HF := hide hg
          clear ho hX hg hg2
          go_wp2
          go_ret
          exact ⟨rfl, HF.out⟩
        · skip
          have q4 : ((k : Int) == (1 + (c1 : Int))) = false := beq_eq_false_iff_ne.2 hqa
          clear hqa
          have HO := hide (show runO (kilA (1 + (c1 : Int)) (1 + (c1 : Int) + c2) 1 (1 + (c3 : Int)) ((k : Int) - 1)) = false from HR.out.2.1.trans (by rw [decide_eq_false (show ¬(k : Int) < (1 + (c3 : Int)) by have := HQD.out; omega), Bool.and_false, Bool.and_false]))
          have HD := hide (show runD (kilA (1 + (c1 : Int)) (1 + (c1 : Int) + c2) 1 (1 + (c3 : Int)) ((k : Int) - 1)) = true from HR.out.2.2.1.trans (decide_eq_true HQD.out))
          have HK := hide (show runK (kilA (1 + (c1 : Int)) (1 + (c1 : Int) + c2) 1 (1 + (c3 : Int)) ((k : Int) - 1)) = false from HR.out.2.2.2.trans (by rw [decide_eq_false (show ¬(k : Int) < (1 + (c3 : Int)) by have := HQD.out; omega), Bool.and_false]))
          have HE := hide (show runV (kilA (1 + (c1 : Int)) (1 + (c1 : Int) + c2) 1 (1 + (c3 : Int)) ((k : Int) - 1)) = [⟨5, 2, 0, (k : Int)⟩] from HV.out.trans (by rw [if_neg (show ¬((1 : Int) = 1 ∧ (k : Int) = (1 + (c1 : Int)) ∧ (k : Int) < (1 + (c3 : Int))) by have := HQD.out; omega)]; rw [if_pos HQD.out]; rfl))
          have HL := hide (show runL (kilA (1 + (c1 : Int)) (1 + (c1 : Int) + c2) 1 (1 + (c3 : Int)) ((k : Int) - 1)) = kilE (1 + (c1 : Int)) (1 + (c1 : Int) + c2) 1 from kilEnd (u := (k : Int) - 1) k1 (by omega) k3 k4 k5 (by omega) (by omega) kl HKB.out (by have := HQD.out; have := HQB.out; omega))
          clear HR HV
          go_wp2_with (first | (go_at_call 13; refine (num_any _ _).mono ?_; rintro e w' ⟨rfl, rfl⟩) | fail)
          refine (lrun HG.out HX.out HO.out HD.out HK.out HR0.out HL.out HE.out (ln := 1) rfl).mono ?_; rintro e W51 ⟨aes, ces, rfl, hX, ho, hg, hk⟩
          have HGn := hide (hg)
          have HXn := hide (hX)
          clear HG HX
          have HG := HGn
          have HX := HXn
          clear HGn HXn
          have Ees := hide ho
          clear hX ho hg hk
          clear HO HD HK HE HL HR0
          go_upto_region 21 with (first | (go_at_call 13; refine (num_any _ _).mono ?_; rintro e w' ⟨rfl, rfl⟩) | fail)
          have hg := World.grownBy_alloc W51 (.cells #[.bool false, .bool true, .bool false] 50) none
          have Hvq := hide (heap_alloc_new W51 (.cells #[.bool false, .bool true, .bool false] 50))
          have Lv := hide (show w.heap.size ≤ W51.heap.size from HG.out.size)
          have HGn := hide (grownBy_trans HG.out hg)
          have HXn := hide (HX.out.grown hg)
          have Eesn := hide (OwnE.grown Ees.out hg)
          clear HG HX Ees
          have HG := HGn
          have HX := HXn
          have Ees := Eesn
          clear HGn HXn Eesn
          clear hg
          have Hv := Hvq
          clear Hvq
          generalize W51.alloc (.cells #[.bool false, .bool true, .bool false] 50) = W52 at *
          generalize hBx : W51.heap.size = Bv at *
          clear hBx
          go_upto_region 25 with (first | (go_at_call 13; refine (num_any _ _).mono ?_; rintro e w' ⟨rfl, rfl⟩) | fail)
          have LEes := hide (fun k hk => (World.ownsRow.lt (show W52.ownsRow w.heap.size 68 4 _ _ _ from Ees.out) k hk).2)
          have LBw5 := hide HG.out.size
          have hg := World.grownBy_alloc W52 (.cells #[.int .i64 5, .int .i64 2, .int .i64 0, .int .i64 (k : Int)] 68) none
          have HLIT := hide (heap_alloc_new W52 (.cells #[.int .i64 5, .int .i64 2, .int .i64 0, .int .i64 (k : Int)] 68))
          have HSZ := hide hg.size
          have HGn := hide (grownBy_trans HG.out hg)
          have HXn := hide (HX.out.grown hg)
          have Eesn := hide (OwnE.grown Ees.out hg)
          have Hvn := hide (box_grown Hv.out hg (by simp))
          clear HG HX Ees Hv
          have HG := HGn
          have HX := HXn
          have Ees := Eesn
          have Hv := Hvn
          clear HGn HXn Eesn Hvn
          clear hg
          go_wp2_with (first | (at_builtin; refine app_row (S := shE) _ rfl _ _ 41 68 (.agg #[.int .i64 0, .int .i64 0, .int .i64 0, .int .i64 0]) 32 Tryz.underlying41 infoE rfl rfl (W52.heap.size) (.slice none 0 0) 0 ([] : List EvV) rfl (World.ownsRow_nil _ _ _ _) ⟨W52.heap.size, 0, none⟩ 1 1 [(⟨5, 2, 0, (k : Int)⟩ : EvV)] rfl rfl (J.one_at shE (⟨5, 2, 0, (k : Int)⟩ : EvV) HLIT.out) (by omega) (by omega) HSZ.out ?_) | fail)
          intro aw5 cw5 W53 ho hgA hb9
          clear hb9 HLIT HSZ
          replace hgA : _root_.Go.World.grownBy _ W53 none := hgA
          have HGn := hide (grownBy_trans HG.out hgA)
          have HXn := hide (HX.out.grown hgA)
          have Eesn := hide (OwnE.grown Ees.out hgA)
          have Hvn := hide (box_grown Hv.out hgA (by simp))
          clear HG HX Ees Hv
          have HG := HGn
          have HX := HXn
          have Ees := Eesn
          have Hv := Hvn
          clear HGn HXn Eesn Hvn
          have Pw5 := hide (show W53.ownsRow (W52.heap.size) 68 4 (.slice aw5 1 cw5) 1 (shE.cells [⟨5, 2, 0, (k : Int)⟩]) from ho)
          have Ew5 := hide (show OwnE w.heap.size W53 (.slice aw5 1 cw5) [⟨5, 2, 0, (k : Int)⟩] from own_mono Pw5.out LBw5.out)
          have Sw5 := hide (show W52.heap.size ≤ W53.heap.size from Nat.le_trans (World.grownBy_alloc W52 (.cells #[.int .i64 5, .int .i64 2, .int .i64 0, .int .i64 (k : Int)] 68) none).size hgA.size)
          clear ho hgA
          have cv1 := blk_cell Hv.out 1
          have cv2 := blk_cell Hv.out 2
          go_wp2_with (first | (go_at_call 13; refine (num_any _ _).mono ?_; rintro e w' ⟨rfl, rfl⟩) | fail)
          refine (lsame HG.out Ees.out Ew5.out).mono ?_; rintro e W54 ⟨rfl, hg, -⟩
          clear cv1 cv2
          have HGn := hide (grownBy_trans HG.out hg)
          have HXn := hide (HX.out.grown hg)
          have Eesn := hide (OwnE.grown Ees.out hg)
          have Ew5n := hide (OwnE.grown Ew5.out hg)
          have Hvn := hide (box_grown Hv.out hg (by simp))
          clear HG HX Ees Ew5 Hv
          have HG := HGn
          have HX := HXn
          have Ees := Eesn
          have Ew5 := Ew5n
          have Hv := Hvn
          clear HGn HXn Eesn Ew5n Hvn
          clear hg
          have cv1 := blk_cell Hv.out 1
          have cv2 := blk_cell Hv.out 2
          go_wp2_with (first | (go_at_call 13; refine (num_any _ _).mono ?_; rintro e w' ⟨rfl, rfl⟩) | fail)
          clear cv1 cv2
          refine (lrun (L := kilE (1 + (c1 : Int)) (1 + (c1 : Int) + c2) 1) HG.out HX.out one_none.1 one_none.2.1 one_none.2.2.1 one_none.2.2.2.1 one_none.2.2.2.2.1 one_none.2.2.2.2.2.1 (ln := 0) rfl).mono ?_; rintro e W55 ⟨az4, cz4, rfl, hX, ho, hg, hk⟩
          have HGn := hide (hg)
          have HXn := hide (hX)
          have Eesn := hide (show OwnE w.heap.size W55 _ _ from hk.row Ees.out (by decide) (by decide) (by decide))
          have Ew5n := hide (show OwnE w.heap.size W55 _ _ from hk.row Ew5.out (by decide) (by decide) (by decide))
          have Hvn := hide (hk.box Hv.out (by decide) (by decide) (by decide))
          clear HG HX Ees Ew5 Hv
          have HG := HGn
          have HX := HXn
          have Ees := Eesn
          have Ew5 := Ew5n
          have Hv := Hvn
          clear HGn HXn Eesn Ew5n Hvn
          clear hX ho hg hk
          go_upto_region 32 with (first | (go_at_call 13; refine (num_any _ _).mono ?_; rintro e w' ⟨rfl, rfl⟩) | fail)
          have hg := World.grownBy_alloc W55 (.cells #[.bool false, .bool false, .bool false] 50) none
          have Hvvq := hide (heap_alloc_new W55 (.cells #[.bool false, .bool false, .bool false] 50))
          have Lvv := hide (show w.heap.size ≤ W55.heap.size from HG.out.size)
          have HGn := hide (grownBy_trans HG.out hg)
          have HXn := hide (HX.out.grown hg)
          have Eesn := hide (OwnE.grown Ees.out hg)
          have Ew5n := hide (OwnE.grown Ew5.out hg)
          have Hvn := hide (box_grown Hv.out hg (by simp))
          clear HG HX Ees Ew5 Hv
          have HG := HGn
          have HX := HXn
          have Ees := Eesn
          have Ew5 := Ew5n
          have Hv := Hvn
          clear HGn HXn Eesn Ew5n Hvn
          clear hg
          have Hvv := Hvvq
          clear Hvvq
          generalize W55.alloc (.cells #[.bool false, .bool false, .bool false] 50) = W56 at *
          generalize hBx : W55.heap.size = Bvv at *
          clear hBx
          go_wp2_with (first | (go_at_call 13; refine (num_any _ _).mono ?_; rintro e w' ⟨rfl, rfl⟩) | fail)
          refine (lfail (L := kilE (1 + (c1 : Int)) (1 + (c1 : Int) + c2) 1) HG.out HX.out one_none.2.2.2.1 one_none.2.2.2.2.2.2.1 one_none.2.2.2.2.2.2.2 (ln := 0) rfl).mono ?_; rintro e W57 ⟨az5, cz5, rfl, hX, ho, hg, hk⟩
          have HGn := hide (hg)
          have HXn := hide (hX)
          have Eesn := hide (show OwnE w.heap.size W57 _ _ from hk.row Ees.out (by decide) (by decide) (by decide))
          have Ew5n := hide (show OwnE w.heap.size W57 _ _ from hk.row Ew5.out (by decide) (by decide) (by decide))
          have Hvn := hide (hk.box Hv.out (by decide) (by decide) (by decide))
          have Hvvn := hide (hk.box Hvv.out (by decide) (by decide) (by decide))
          clear HG HX Ees Ew5 Hv Hvv
          have HG := HGn
          have HX := HXn
          have Ees := Eesn
          have Ew5 := Ew5n
          have Hv := Hvn
          have Hvv := Hvvn
          clear HGn HXn Eesn Ew5n Hvn Hvvn
          clear hX ho hg hk
          go_wp2_with (first | (go_at_call 13; refine (num_any _ _).mono ?_; rintro e w' ⟨rfl, rfl⟩) | fail)
          refine (lready (L := kilE (1 + (c1 : Int)) (1 + (c1 : Int) + c2) 1) (B := false) HX.out rfl).mono ?_; rintro e w' ⟨rfl, rfl⟩
          go_wp2_with (first | (go_at_call 13; refine (num_any _ _).mono ?_; rintro e w' ⟨rfl, rfl⟩) | fail)
          refine (ljobs (L := kilE (1 + (c1 : Int)) (1 + (c1 : Int) + c2) 1) (ln := 0) HG.out HX.out rfl).mono ?_; rintro e W58 ⟨aj, cj, rfl, ho, hX, hg, hg2⟩
          have HF := hide hg
          clear ho hX hg hg2
          go_wp2
          go_ret
          exact ⟨rfl, HF.out⟩
      · skip
        have q3 : ((k : Int) == (1 + (c1 : Int) + c2)) = false := beq_eq_false_iff_ne.2 hqb
        clear hqb
        by_cases hqa : (k : Int) = (1 + (c1 : Int))
        · skip
          have q4 : ((k : Int) == (1 + (c1 : Int))) = true := beq_iff_eq.2 hqa
          clear hqa
          have HO := hide (show runO (kilA (1 + (c1 : Int)) (1 + (c1 : Int) + c2) 1 (1 + (c3 : Int)) ((k : Int) - 1)) = false from HR.out.2.1.trans (by rw [decide_eq_false (show ¬(k : Int) < (1 + (c3 : Int)) by have := HQD.out; omega), Bool.and_false, Bool.and_false]))
          have HD := hide (show runD (kilA (1 + (c1 : Int)) (1 + (c1 : Int) + c2) 1 (1 + (c3 : Int)) ((k : Int) - 1)) = true from HR.out.2.2.1.trans (decide_eq_true HQD.out))
          have HK := hide (show runK (kilA (1 + (c1 : Int)) (1 + (c1 : Int) + c2) 1 (1 + (c3 : Int)) ((k : Int) - 1)) = false from HR.out.2.2.2.trans (by rw [decide_eq_false (show ¬(k : Int) < (1 + (c3 : Int)) by have := HQD.out; omega), Bool.and_false]))
          have HE := hide (show runV (kilA (1 + (c1 : Int)) (1 + (c1 : Int) + c2) 1 (1 + (c3 : Int)) ((k : Int) - 1)) = [⟨5, 2, 0, (k : Int)⟩] from HV.out.trans (by rw [if_neg (show ¬((1 : Int) = 1 ∧ (k : Int) = (1 + (c1 : Int)) ∧ (k : Int) < (1 + (c3 : Int))) by have := HQD.out; omega)]; rw [if_pos HQD.out]; rfl))
          have HL := hide (show runL (kilA (1 + (c1 : Int)) (1 + (c1 : Int) + c2) 1 (1 + (c3 : Int)) ((k : Int) - 1)) = kilE (1 + (c1 : Int)) (1 + (c1 : Int) + c2) 1 from kilEnd (u := (k : Int) - 1) k1 (by omega) k3 k4 k5 (by omega) (by omega) kl HKB.out (by have := HQD.out; have := HQB.out; omega))
          clear HR HV
          go_wp2_with (first | (go_at_call 13; refine (num_any _ _).mono ?_; rintro e w' ⟨rfl, rfl⟩) | fail)
          refine (lrun HG.out HX.out HO.out HD.out HK.out HR0.out HL.out HE.out (ln := 1) rfl).mono ?_; rintro e W51 ⟨aes, ces, rfl, hX, ho, hg, hk⟩
          have HGn := hide (hg)
          have HXn := hide (hX)
          clear HG HX
          have HG := HGn
          have HX := HXn
          clear HGn HXn
          have Ees := hide ho
          clear hX ho hg hk
          clear HO HD HK HE HL HR0
          go_upto_region 21 with (first | (go_at_call 13; refine (num_any _ _).mono ?_; rintro e w' ⟨rfl, rfl⟩) | fail)
          have hg := World.grownBy_alloc W51 (.cells #[.bool false, .bool true, .bool false] 50) none
          have Hvq := hide (heap_alloc_new W51 (.cells #[.bool false, .bool true, .bool false] 50))
          have Lv := hide (show w.heap.size ≤ W51.heap.size from HG.out.size)
          have HGn := hide (grownBy_trans HG.out hg)
          have HXn := hide (HX.out.grown hg)
          have Eesn := hide (OwnE.grown Ees.out hg)
          clear HG HX Ees
          have HG := HGn
          have HX := HXn
          have Ees := Eesn
          clear HGn HXn Eesn
          clear hg
          have Hv := Hvq
          clear Hvq
          generalize W51.alloc (.cells #[.bool false, .bool true, .bool false] 50) = W52 at *
          generalize hBx : W51.heap.size = Bv at *
          clear hBx
          go_upto_region 25 with (first | (go_at_call 13; refine (num_any _ _).mono ?_; rintro e w' ⟨rfl, rfl⟩) | fail)
          have LEes := hide (fun k hk => (World.ownsRow.lt (show W52.ownsRow w.heap.size 68 4 _ _ _ from Ees.out) k hk).2)
          have LBw5 := hide HG.out.size
          have hg := World.grownBy_alloc W52 (.cells #[.int .i64 5, .int .i64 2, .int .i64 0, .int .i64 (k : Int)] 68) none
          have HLIT := hide (heap_alloc_new W52 (.cells #[.int .i64 5, .int .i64 2, .int .i64 0, .int .i64 (k : Int)] 68))
          have HSZ := hide hg.size
          have HGn := hide (grownBy_trans HG.out hg)
          have HXn := hide (HX.out.grown hg)
          have Eesn := hide (OwnE.grown Ees.out hg)
          have Hvn := hide (box_grown Hv.out hg (by simp))
          clear HG HX Ees Hv
          have HG := HGn
          have HX := HXn
          have Ees := Eesn
          have Hv := Hvn
          clear HGn HXn Eesn Hvn
          clear hg
          go_wp2_with (first | (at_builtin; refine app_row (S := shE) _ rfl _ _ 41 68 (.agg #[.int .i64 0, .int .i64 0, .int .i64 0, .int .i64 0]) 32 Tryz.underlying41 infoE rfl rfl (W52.heap.size) (.slice none 0 0) 0 ([] : List EvV) rfl (World.ownsRow_nil _ _ _ _) ⟨W52.heap.size, 0, none⟩ 1 1 [(⟨5, 2, 0, (k : Int)⟩ : EvV)] rfl rfl (J.one_at shE (⟨5, 2, 0, (k : Int)⟩ : EvV) HLIT.out) (by omega) (by omega) HSZ.out ?_) | fail)
          intro aw5 cw5 W53 ho hgA hb9
          clear hb9 HLIT HSZ
          replace hgA : _root_.Go.World.grownBy _ W53 none := hgA
          have HGn := hide (grownBy_trans HG.out hgA)
          have HXn := hide (HX.out.grown hgA)
          have Eesn := hide (OwnE.grown Ees.out hgA)
          have Hvn := hide (box_grown Hv.out hgA (by simp))
          clear HG HX Ees Hv
          have HG := HGn
          have HX := HXn
          have Ees := Eesn
          have Hv := Hvn
          clear HGn HXn Eesn Hvn
          have Pw5 := hide (show W53.ownsRow (W52.heap.size) 68 4 (.slice aw5 1 cw5) 1 (shE.cells [⟨5, 2, 0, (k : Int)⟩]) from ho)
          have Ew5 := hide (show OwnE w.heap.size W53 (.slice aw5 1 cw5) [⟨5, 2, 0, (k : Int)⟩] from own_mono Pw5.out LBw5.out)
          have Sw5 := hide (show W52.heap.size ≤ W53.heap.size from Nat.le_trans (World.grownBy_alloc W52 (.cells #[.int .i64 5, .int .i64 2, .int .i64 0, .int .i64 (k : Int)] 68) none).size hgA.size)
          clear ho hgA
          have cv1 := blk_cell Hv.out 1
          have cv2 := blk_cell Hv.out 2
          go_wp2_with (first | (go_at_call 13; refine (num_any _ _).mono ?_; rintro e w' ⟨rfl, rfl⟩) | fail)
          refine (lsame HG.out Ees.out Ew5.out).mono ?_; rintro e W54 ⟨rfl, hg, -⟩
          clear cv1 cv2
          have HGn := hide (grownBy_trans HG.out hg)
          have HXn := hide (HX.out.grown hg)
          have Eesn := hide (OwnE.grown Ees.out hg)
          have Ew5n := hide (OwnE.grown Ew5.out hg)
          have Hvn := hide (box_grown Hv.out hg (by simp))
          clear HG HX Ees Ew5 Hv
          have HG := HGn
          have HX := HXn
          have Ees := Eesn
          have Ew5 := Ew5n
          have Hv := Hvn
          clear HGn HXn Eesn Ew5n Hvn
          clear hg
          have cv1 := blk_cell Hv.out 1
          have cv2 := blk_cell Hv.out 2
          go_wp2_with (first | (go_at_call 13; refine (num_any _ _).mono ?_; rintro e w' ⟨rfl, rfl⟩) | fail)
          clear cv1 cv2
          refine (lrun (L := kilE (1 + (c1 : Int)) (1 + (c1 : Int) + c2) 1) HG.out HX.out one_none.1 one_none.2.1 one_none.2.2.1 one_none.2.2.2.1 one_none.2.2.2.2.1 one_none.2.2.2.2.2.1 (ln := 0) rfl).mono ?_; rintro e W55 ⟨az4, cz4, rfl, hX, ho, hg, hk⟩
          have HGn := hide (hg)
          have HXn := hide (hX)
          have Eesn := hide (show OwnE w.heap.size W55 _ _ from hk.row Ees.out (by decide) (by decide) (by decide))
          have Ew5n := hide (show OwnE w.heap.size W55 _ _ from hk.row Ew5.out (by decide) (by decide) (by decide))
          have Hvn := hide (hk.box Hv.out (by decide) (by decide) (by decide))
          clear HG HX Ees Ew5 Hv
          have HG := HGn
          have HX := HXn
          have Ees := Eesn
          have Ew5 := Ew5n
          have Hv := Hvn
          clear HGn HXn Eesn Ew5n Hvn
          clear hX ho hg hk
          go_upto_region 32 with (first | (go_at_call 13; refine (num_any _ _).mono ?_; rintro e w' ⟨rfl, rfl⟩) | fail)
          have hg := World.grownBy_alloc W55 (.cells #[.bool false, .bool false, .bool false] 50) none
          have Hvvq := hide (heap_alloc_new W55 (.cells #[.bool false, .bool false, .bool false] 50))
          have Lvv := hide (show w.heap.size ≤ W55.heap.size from HG.out.size)
          have HGn := hide (grownBy_trans HG.out hg)
          have HXn := hide (HX.out.grown hg)
          have Eesn := hide (OwnE.grown Ees.out hg)
          have Ew5n := hide (OwnE.grown Ew5.out hg)
          have Hvn := hide (box_grown Hv.out hg (by simp))
          clear HG HX Ees Ew5 Hv
          have HG := HGn
          have HX := HXn
          have Ees := Eesn
          have Ew5 := Ew5n
          have Hv := Hvn
          clear HGn HXn Eesn Ew5n Hvn
          clear hg
          have Hvv := Hvvq
          clear Hvvq
          generalize W55.alloc (.cells #[.bool false, .bool false, .bool false] 50) = W56 at *
          generalize hBx : W55.heap.size = Bvv at *
          clear hBx
          go_wp2_with (first | (go_at_call 13; refine (num_any _ _).mono ?_; rintro e w' ⟨rfl, rfl⟩) | fail)
          refine (lfail (L := kilE (1 + (c1 : Int)) (1 + (c1 : Int) + c2) 1) HG.out HX.out one_none.2.2.2.1 one_none.2.2.2.2.2.2.1 one_none.2.2.2.2.2.2.2 (ln := 0) rfl).mono ?_; rintro e W57 ⟨az5, cz5, rfl, hX, ho, hg, hk⟩
          have HGn := hide (hg)
          have HXn := hide (hX)
          have Eesn := hide (show OwnE w.heap.size W57 _ _ from hk.row Ees.out (by decide) (by decide) (by decide))
          have Ew5n := hide (show OwnE w.heap.size W57 _ _ from hk.row Ew5.out (by decide) (by decide) (by decide))
          have Hvn := hide (hk.box Hv.out (by decide) (by decide) (by decide))
          have Hvvn := hide (hk.box Hvv.out (by decide) (by decide) (by decide))
          clear HG HX Ees Ew5 Hv Hvv
          have HG := HGn
          have HX := HXn
          have Ees := Eesn
          have Ew5 := Ew5n
          have Hv := Hvn
          have Hvv := Hvvn
          clear HGn HXn Eesn Ew5n Hvn Hvvn
          clear hX ho hg hk
          go_wp2_with (first | (go_at_call 13; refine (num_any _ _).mono ?_; rintro e w' ⟨rfl, rfl⟩) | fail)
          refine (lready (L := kilE (1 + (c1 : Int)) (1 + (c1 : Int) + c2) 1) (B := false) HX.out rfl).mono ?_; rintro e w' ⟨rfl, rfl⟩
          go_wp2_with (first | (go_at_call 13; refine (num_any _ _).mono ?_; rintro e w' ⟨rfl, rfl⟩) | fail)
          refine (ljobs (L := kilE (1 + (c1 : Int)) (1 + (c1 : Int) + c2) 1) (ln := 0) HG.out HX.out rfl).mono ?_; rintro e W58 ⟨aj, cj, rfl, ho, hX, hg, hg2⟩
          have HF := hide hg
          clear ho hX hg hg2
          go_wp2
          go_ret
          exact ⟨rfl, HF.out⟩
        · skip
          have q4 : ((k : Int) == (1 + (c1 : Int))) = false := beq_eq_false_iff_ne.2 hqa
          clear hqa
          have HO := hide (show runO (kilA (1 + (c1 : Int)) (1 + (c1 : Int) + c2) 1 (1 + (c3 : Int)) ((k : Int) - 1)) = false from HR.out.2.1.trans (by rw [decide_eq_false (show ¬(k : Int) < (1 + (c3 : Int)) by have := HQD.out; omega), Bool.and_false, Bool.and_false]))
          have HD := hide (show runD (kilA (1 + (c1 : Int)) (1 + (c1 : Int) + c2) 1 (1 + (c3 : Int)) ((k : Int) - 1)) = true from HR.out.2.2.1.trans (decide_eq_true HQD.out))
          have HK := hide (show runK (kilA (1 + (c1 : Int)) (1 + (c1 : Int) + c2) 1 (1 + (c3 : Int)) ((k : Int) - 1)) = false from HR.out.2.2.2.trans (by rw [decide_eq_false (show ¬(k : Int) < (1 + (c3 : Int)) by have := HQD.out; omega), Bool.and_false]))
          have HE := hide (show runV (kilA (1 + (c1 : Int)) (1 + (c1 : Int) + c2) 1 (1 + (c3 : Int)) ((k : Int) - 1)) = [⟨5, 2, 0, (k : Int)⟩] from HV.out.trans (by rw [if_neg (show ¬((1 : Int) = 1 ∧ (k : Int) = (1 + (c1 : Int)) ∧ (k : Int) < (1 + (c3 : Int))) by have := HQD.out; omega)]; rw [if_pos HQD.out]; rfl))
          have HL := hide (show runL (kilA (1 + (c1 : Int)) (1 + (c1 : Int) + c2) 1 (1 + (c3 : Int)) ((k : Int) - 1)) = kilE (1 + (c1 : Int)) (1 + (c1 : Int) + c2) 1 from kilEnd (u := (k : Int) - 1) k1 (by omega) k3 k4 k5 (by omega) (by omega) kl HKB.out (by have := HQD.out; have := HQB.out; omega))
          clear HR HV
          go_wp2_with (first | (go_at_call 13; refine (num_any _ _).mono ?_; rintro e w' ⟨rfl, rfl⟩) | fail)
          refine (lrun HG.out HX.out HO.out HD.out HK.out HR0.out HL.out HE.out (ln := 1) rfl).mono ?_; rintro e W51 ⟨aes, ces, rfl, hX, ho, hg, hk⟩
          have HGn := hide (hg)
          have HXn := hide (hX)
          clear HG HX
          have HG := HGn
          have HX := HXn
          clear HGn HXn
          have Ees := hide ho
          clear hX ho hg hk
          clear HO HD HK HE HL HR0
          go_upto_region 21 with (first | (go_at_call 13; refine (num_any _ _).mono ?_; rintro e w' ⟨rfl, rfl⟩) | fail)
          have hg := World.grownBy_alloc W51 (.cells #[.bool false, .bool true, .bool false] 50) none
          have Hvq := hide (heap_alloc_new W51 (.cells #[.bool false, .bool true, .bool false] 50))
          have Lv := hide (show w.heap.size ≤ W51.heap.size from HG.out.size)
          have HGn := hide (grownBy_trans HG.out hg)
          have HXn := hide (HX.out.grown hg)
          have Eesn := hide (OwnE.grown Ees.out hg)
          clear HG HX Ees
          have HG := HGn
          have HX := HXn
          have Ees := Eesn
          clear HGn HXn Eesn
          clear hg
          have Hv := Hvq
          clear Hvq
          generalize W51.alloc (.cells #[.bool false, .bool true, .bool false] 50) = W52 at *
          generalize hBx : W51.heap.size = Bv at *
          clear hBx
          go_upto_region 25 with (first | (go_at_call 13; refine (num_any _ _).mono ?_; rintro e w' ⟨rfl, rfl⟩) | fail)
          have LEes := hide (fun k hk => (World.ownsRow.lt (show W52.ownsRow w.heap.size 68 4 _ _ _ from Ees.out) k hk).2)
          have LBw5 := hide HG.out.size
          have hg := World.grownBy_alloc W52 (.cells #[.int .i64 5, .int .i64 2, .int .i64 0, .int .i64 (k : Int)] 68) none
          have HLIT := hide (heap_alloc_new W52 (.cells #[.int .i64 5, .int .i64 2, .int .i64 0, .int .i64 (k : Int)] 68))
          have HSZ := hide hg.size
          have HGn := hide (grownBy_trans HG.out hg)
          have HXn := hide (HX.out.grown hg)
          have Eesn := hide (OwnE.grown Ees.out hg)
          have Hvn := hide (box_grown Hv.out hg (by simp))
          clear HG HX Ees Hv
          have HG := HGn
          have HX := HXn
          have Ees := Eesn
          have Hv := Hvn
          clear HGn HXn Eesn Hvn
          clear hg
          go_wp2_with (first | (at_builtin; refine app_row (S := shE) _ rfl _ _ 41 68 (.agg #[.int .i64 0, .int .i64 0, .int .i64 0, .int .i64 0]) 32 Tryz.underlying41 infoE rfl rfl (W52.heap.size) (.slice none 0 0) 0 ([] : List EvV) rfl (World.ownsRow_nil _ _ _ _) ⟨W52.heap.size, 0, none⟩ 1 1 [(⟨5, 2, 0, (k : Int)⟩ : EvV)] rfl rfl (J.one_at shE (⟨5, 2, 0, (k : Int)⟩ : EvV) HLIT.out) (by omega) (by omega) HSZ.out ?_) | fail)
          intro aw5 cw5 W53 ho hgA hb9
          clear hb9 HLIT HSZ
          replace hgA : _root_.Go.World.grownBy _ W53 none := hgA
          have HGn := hide (grownBy_trans HG.out hgA)
          have HXn := hide (HX.out.grown hgA)
          have Eesn := hide (OwnE.grown Ees.out hgA)
          have Hvn := hide (box_grown Hv.out hgA (by simp))
          clear HG HX Ees Hv
          have HG := HGn
          have HX := HXn
          have Ees := Eesn
          have Hv := Hvn
          clear HGn HXn Eesn Hvn
          have Pw5 := hide (show W53.ownsRow (W52.heap.size) 68 4 (.slice aw5 1 cw5) 1 (shE.cells [⟨5, 2, 0, (k : Int)⟩]) from ho)
          have Ew5 := hide (show OwnE w.heap.size W53 (.slice aw5 1 cw5) [⟨5, 2, 0, (k : Int)⟩] from own_mono Pw5.out LBw5.out)
          have Sw5 := hide (show W52.heap.size ≤ W53.heap.size from Nat.le_trans (World.grownBy_alloc W52 (.cells #[.int .i64 5, .int .i64 2, .int .i64 0, .int .i64 (k : Int)] 68) none).size hgA.size)
          clear ho hgA
          have cv1 := blk_cell Hv.out 1
          have cv2 := blk_cell Hv.out 2
          go_wp2_with (first | (go_at_call 13; refine (num_any _ _).mono ?_; rintro e w' ⟨rfl, rfl⟩) | fail)
          refine (lsame HG.out Ees.out Ew5.out).mono ?_; rintro e W54 ⟨rfl, hg, -⟩
          clear cv1 cv2
          have HGn := hide (grownBy_trans HG.out hg)
          have HXn := hide (HX.out.grown hg)
          have Eesn := hide (OwnE.grown Ees.out hg)
          have Ew5n := hide (OwnE.grown Ew5.out hg)
          have Hvn := hide (box_grown Hv.out hg (by simp))
          clear HG HX Ees Ew5 Hv
          have HG := HGn
          have HX := HXn
          have Ees := Eesn
          have Ew5 := Ew5n
          have Hv := Hvn
          clear HGn HXn Eesn Ew5n Hvn
          clear hg
          have cv1 := blk_cell Hv.out 1
          have cv2 := blk_cell Hv.out 2
          go_wp2_with (first | (go_at_call 13; refine (num_any _ _).mono ?_; rintro e w' ⟨rfl, rfl⟩) | fail)
          clear cv1 cv2
          refine (lrun (L := kilE (1 + (c1 : Int)) (1 + (c1 : Int) + c2) 1) HG.out HX.out one_none.1 one_none.2.1 one_none.2.2.1 one_none.2.2.2.1 one_none.2.2.2.2.1 one_none.2.2.2.2.2.1 (ln := 0) rfl).mono ?_; rintro e W55 ⟨az4, cz4, rfl, hX, ho, hg, hk⟩
          have HGn := hide (hg)
          have HXn := hide (hX)
          have Eesn := hide (show OwnE w.heap.size W55 _ _ from hk.row Ees.out (by decide) (by decide) (by decide))
          have Ew5n := hide (show OwnE w.heap.size W55 _ _ from hk.row Ew5.out (by decide) (by decide) (by decide))
          have Hvn := hide (hk.box Hv.out (by decide) (by decide) (by decide))
          clear HG HX Ees Ew5 Hv
          have HG := HGn
          have HX := HXn
          have Ees := Eesn
          have Ew5 := Ew5n
          have Hv := Hvn
          clear HGn HXn Eesn Ew5n Hvn
          clear hX ho hg hk
          go_upto_region 32 with (first | (go_at_call 13; refine (num_any _ _).mono ?_; rintro e w' ⟨rfl, rfl⟩) | fail)
          have hg := World.grownBy_alloc W55 (.cells #[.bool false, .bool false, .bool false] 50) none
          have Hvvq := hide (heap_alloc_new W55 (.cells #[.bool false, .bool false, .bool false] 50))
          have Lvv := hide (show w.heap.size ≤ W55.heap.size from HG.out.size)
          have HGn := hide (grownBy_trans HG.out hg)
          have HXn := hide (HX.out.grown hg)
          have Eesn := hide (OwnE.grown Ees.out hg)
          have Ew5n := hide (OwnE.grown Ew5.out hg)
          have Hvn := hide (box_grown Hv.out hg (by simp))
          clear HG HX Ees Ew5 Hv
          have HG := HGn
          have HX := HXn
          have Ees := Eesn
          have Ew5 := Ew5n
          have Hv := Hvn
          clear HGn HXn Eesn Ew5n Hvn
          clear hg
          have Hvv := Hvvq
          clear Hvvq
          generalize W55.alloc (.cells #[.bool false, .bool false, .bool false] 50) = W56 at *
          generalize hBx : W55.heap.size = Bvv at *
          clear hBx
          go_wp2_with (first | (go_at_call 13; refine (num_any _ _).mono ?_; rintro e w' ⟨rfl, rfl⟩) | fail)
          refine (lfail (L := kilE (1 + (c1 : Int)) (1 + (c1 : Int) + c2) 1) HG.out HX.out one_none.2.2.2.1 one_none.2.2.2.2.2.2.1 one_none.2.2.2.2.2.2.2 (ln := 0) rfl).mono ?_; rintro e W57 ⟨az5, cz5, rfl, hX, ho, hg, hk⟩
          have HGn := hide (hg)
          have HXn := hide (hX)
          have Eesn := hide (show OwnE w.heap.size W57 _ _ from hk.row Ees.out (by decide) (by decide) (by decide))
          have Ew5n := hide (show OwnE w.heap.size W57 _ _ from hk.row Ew5.out (by decide) (by decide) (by decide))
          have Hvn := hide (hk.box Hv.out (by decide) (by decide) (by decide))
          have Hvvn := hide (hk.box Hvv.out (by decide) (by decide) (by decide))
          clear HG HX Ees Ew5 Hv Hvv
          have HG := HGn
          have HX := HXn
          have Ees := Eesn
          have Ew5 := Ew5n
          have Hv := Hvn
          have Hvv := Hvvn
          clear HGn HXn Eesn Ew5n Hvn Hvvn
          clear hX ho hg hk
          go_wp2_with (first | (go_at_call 13; refine (num_any _ _).mono ?_; rintro e w' ⟨rfl, rfl⟩) | fail)
          refine (lready (L := kilE (1 + (c1 : Int)) (1 + (c1 : Int) + c2) 1) (B := false) HX.out rfl).mono ?_; rintro e w' ⟨rfl, rfl⟩
          go_wp2_with (first | (go_at_call 13; refine (num_any _ _).mono ?_; rintro e w' ⟨rfl, rfl⟩) | fail)
          refine (ljobs (L := kilE (1 + (c1 : Int)) (1 + (c1 : Int) + c2) 1) (ln := 0) HG.out HX.out rfl).mono ?_; rintro e W58 ⟨aj, cj, rfl, ho, hX, hg, hg2⟩
          have HF := hide hg
          clear ho hX hg hg2
          go_wp2
          go_ret
          exact ⟨rfl, HF.out⟩
    · skip
      have HQD := hide (show ¬(k : Int) = (1 + (c3 : Int)) by omega)
      have HQB := hide hb
      have q1 : ((k : Int) == (1 + (c3 : Int))) = false := beq_eq_false_iff_ne.2 (by omega)
      have q2 : (k : Int) < (1 + (c3 : Int)) := hd
      have q3 : ((k : Int) == (1 + (c1 : Int) + c2)) = true := beq_iff_eq.2 hb
      clear hb hd
      by_cases hqa : (k : Int) = (1 + (c1 : Int))
      · skip
        have q4 : ((k : Int) == (1 + (c1 : Int))) = true := beq_iff_eq.2 hqa
        have HQA := hide hqa
        clear hqa
        have HO := hide (show runO (kilA (1 + (c1 : Int)) (1 + (c1 : Int) + c2) 1 (1 + (c3 : Int)) ((k : Int) - 1)) = true from HR.out.2.1.trans (by rw [decide_eq_true HQA.out, decide_eq_true q2]; rfl))
        have HD := hide (show runD (kilA (1 + (c1 : Int)) (1 + (c1 : Int) + c2) 1 (1 + (c3 : Int)) ((k : Int) - 1)) = false from HR.out.2.2.1.trans (decide_eq_false HQD.out))
        have HK := hide (show runK (kilA (1 + (c1 : Int)) (1 + (c1 : Int) + c2) 1 (1 + (c3 : Int)) ((k : Int) - 1)) = true from HR.out.2.2.2.trans (by rw [decide_eq_true HQB.out, decide_eq_true (by have := HQD.out; omega)]; rfl))
        have HE := hide (show runV (kilA (1 + (c1 : Int)) (1 + (c1 : Int) + c2) 1 (1 + (c3 : Int)) ((k : Int) - 1)) = [⟨4, 2, 0, (k : Int)⟩, ⟨6, 2, 0, (k : Int)⟩] from HV.out.trans (by rw [if_pos ⟨rfl, HQA.out, q2⟩]; rw [if_neg HQD.out, if_pos HQB.out]; rfl))
        have HL := hide (show runL (kilA (1 + (c1 : Int)) (1 + (c1 : Int) + c2) 1 (1 + (c3 : Int)) ((k : Int) - 1)) = kilE (1 + (c1 : Int)) (1 + (c1 : Int) + c2) 1 from kilEnd (u := (k : Int) - 1) k1 (by omega) k3 k4 k5 (by omega) (by omega) kl HKB.out (by have := HQD.out; have := HQB.out; omega))
        clear HR HV
        go_wp2_with (first | (go_at_call 13; refine (num_any _ _).mono ?_; rintro e w' ⟨rfl, rfl⟩) | fail)
        refine (lrun HG.out HX.out HO.out HD.out HK.out HR0.out HL.out HE.out (ln := 2) rfl).mono ?_; rintro e W51 ⟨aes, ces, rfl, hX, ho, hg, hk⟩
        have HGn := hide (hg)
        have HXn := hide (hX)
        clear HG HX
        have HG := HGn
        have HX := HXn
        clear HGn HXn
        have Ees := hide ho
        clear hX ho hg hk
        clear HO HD HK HE HL HR0
        go_upto_region 21 with (first | (go_at_call 13; refine (num_any _ _).mono ?_; rintro e w' ⟨rfl, rfl⟩) | fail)
        have hg := World.grownBy_alloc W51 (.cells #[.bool true, .bool false, .bool true] 50) none
        have Hvq := hide (heap_alloc_new W51 (.cells #[.bool true, .bool false, .bool true] 50))
        have Lv := hide (show w.heap.size ≤ W51.heap.size from HG.out.size)
        have HGn := hide (grownBy_trans HG.out hg)
        have HXn := hide (HX.out.grown hg)
        have Eesn := hide (OwnE.grown Ees.out hg)
        clear HG HX Ees
        have HG := HGn
        have HX := HXn
        have Ees := Eesn
        clear HGn HXn Eesn
        clear hg
        have Hv := Hvq
        clear Hvq
        generalize W51.alloc (.cells #[.bool true, .bool false, .bool true] 50) = W52 at *
        generalize hBx : W51.heap.size = Bv at *
        clear hBx
        go_upto_region 23 with (first | (go_at_call 13; refine (num_any _ _).mono ?_; rintro e w' ⟨rfl, rfl⟩) | fail)
        have LEes := hide (fun k hk => (World.ownsRow.lt (show W52.ownsRow w.heap.size 68 4 _ _ _ from Ees.out) k hk).2)
        have LBw4 := hide HG.out.size
        have hg := World.grownBy_alloc W52 (.cells #[.int .i64 4, .int .i64 2, .int .i64 0, .int .i64 (k : Int)] 68) none
        have HLIT := hide (heap_alloc_new W52 (.cells #[.int .i64 4, .int .i64 2, .int .i64 0, .int .i64 (k : Int)] 68))
        have HSZ := hide hg.size
        have HGn := hide (grownBy_trans HG.out hg)
        have HXn := hide (HX.out.grown hg)
        have Eesn := hide (OwnE.grown Ees.out hg)
        have Hvn := hide (box_grown Hv.out hg (by simp))
        clear HG HX Ees Hv
        have HG := HGn
        have HX := HXn
        have Ees := Eesn
        have Hv := Hvn
        clear HGn HXn Eesn Hvn
        clear hg
        go_wp2_with (first | (at_builtin; refine app_row (S := shE) _ rfl _ _ 41 68 (.agg #[.int .i64 0, .int .i64 0, .int .i64 0, .int .i64 0]) 32 Tryz.underlying41 infoE rfl rfl (W52.heap.size) (.slice none 0 0) 0 ([] : List EvV) rfl (World.ownsRow_nil _ _ _ _) ⟨W52.heap.size, 0, none⟩ 1 1 [(⟨4, 2, 0, (k : Int)⟩ : EvV)] rfl rfl (J.one_at shE (⟨4, 2, 0, (k : Int)⟩ : EvV) HLIT.out) (by omega) (by omega) HSZ.out ?_) | fail)
        intro aw4 cw4 W53 ho hgA hb9
        clear hb9 HLIT HSZ
        replace hgA : _root_.Go.World.grownBy _ W53 none := hgA
        have HGn := hide (grownBy_trans HG.out hgA)
        have HXn := hide (HX.out.grown hgA)
        have Eesn := hide (OwnE.grown Ees.out hgA)
        have Hvn := hide (box_grown Hv.out hgA (by simp))
        clear HG HX Ees Hv
        have HG := HGn
        have HX := HXn
        have Ees := Eesn
        have Hv := Hvn
        clear HGn HXn Eesn Hvn
        have Pw4 := hide (show W53.ownsRow (W52.heap.size) 68 4 (.slice aw4 1 cw4) 1 (shE.cells [⟨4, 2, 0, (k : Int)⟩]) from ho)
        have Ew4 := hide (show OwnE w.heap.size W53 (.slice aw4 1 cw4) [⟨4, 2, 0, (k : Int)⟩] from own_mono Pw4.out LBw4.out)
        have Sw4 := hide (show W52.heap.size ≤ W53.heap.size from Nat.le_trans (World.grownBy_alloc W52 (.cells #[.int .i64 4, .int .i64 2, .int .i64 0, .int .i64 (k : Int)] 68) none).size hgA.size)
        clear ho hgA
        go_upto_region 27 with (first | (go_at_call 13; refine (num_any _ _).mono ?_; rintro e w' ⟨rfl, rfl⟩) | fail)
        have hg := World.grownBy_alloc W53 (.cells #[.int .i64 6, .int .i64 2, .int .i64 0, .int .i64 (k : Int)] 68) none
        have HLIT := hide (heap_alloc_new W53 (.cells #[.int .i64 6, .int .i64 2, .int .i64 0, .int .i64 (k : Int)] 68))
        have HSZ := hide hg.size
        have HGn := hide (grownBy_trans HG.out hg)
        have HXn := hide (HX.out.grown hg)
        have Eesn := hide (OwnE.grown Ees.out hg)
        have Hvn := hide (box_grown Hv.out hg (by simp))
        have Pw4n := hide (own_kept Pw4.out hg)
        clear HG HX Ees Hv Pw4
        have HG := HGn
        have HX := HXn
        have Ees := Eesn
        have Hv := Hvn
        have Pw4 := Pw4n
        clear HGn HXn Eesn Hvn Pw4n
        clear hg
        go_wp2_with (first | (at_builtin; refine app_row (S := shE) _ rfl _ _ 41 68 (.agg #[.int .i64 0, .int .i64 0, .int .i64 0, .int .i64 0]) 32 Tryz.underlying41 infoE rfl rfl (W52.heap.size) (.slice aw4 1 cw4) 1 ([⟨4, 2, 0, (k : Int)⟩] : List EvV) rfl Pw4.out ⟨W53.heap.size, 0, none⟩ 1 1 [(⟨6, 2, 0, (k : Int)⟩ : EvV)] rfl rfl (J.one_at shE (⟨6, 2, 0, (k : Int)⟩ : EvV) HLIT.out) (by omega) (by omega) (Nat.le_trans Sw4.out HSZ.out) ?_) | fail)
        intro aw6 cw6 W54 ho hgA hb9
        clear hb9 HLIT HSZ
        have hown := Pw4.out
        have HGn := hide (J.grown_app HG.out hown LBw4.out hgA)
        have HXn := hide (HX.out.app hown hgA)
        have Eesn := hide (show OwnE w.heap.size W54 _ _ from own_apart Ees.out hown LEes.out hgA)
        have Hvn := hide (J.box_app Hv.out hown hgA (by decide))
        clear HG HX Ees Hv
        have HG := HGn
        have HX := HXn
        have Ees := Eesn
        have Hv := Hvn
        clear HGn HXn Eesn Hvn
        have Pw6 := hide (show W54.ownsRow (W52.heap.size) 68 4 (.slice aw6 2 cw6) 2 (shE.cells [⟨4, 2, 0, (k : Int)⟩, ⟨6, 2, 0, (k : Int)⟩]) from ho)
        have Ew6 := hide (show OwnE w.heap.size W54 (.slice aw6 2 cw6) [⟨4, 2, 0, (k : Int)⟩, ⟨6, 2, 0, (k : Int)⟩] from own_mono Pw6.out LBw4.out)
        have Sw6 := hide (show W52.heap.size ≤ W54.heap.size from Nat.le_trans Sw4.out (Nat.le_trans (World.grownBy_alloc W53 (.cells #[.int .i64 6, .int .i64 2, .int .i64 0, .int .i64 (k : Int)] 68) none).size hgA.size))
        clear ho hgA hown Pw4 Ew4
        have cv1 := blk_cell Hv.out 1
        have cv2 := blk_cell Hv.out 2
        go_wp2_with (first | (go_at_call 13; refine (num_any _ _).mono ?_; rintro e w' ⟨rfl, rfl⟩) | fail)
        refine (lsame HG.out Ees.out Ew6.out).mono ?_; rintro e W55 ⟨rfl, hg, -⟩
        clear cv1 cv2
        have HGn := hide (grownBy_trans HG.out hg)
        have HXn := hide (HX.out.grown hg)
        have Eesn := hide (OwnE.grown Ees.out hg)
        have Ew6n := hide (OwnE.grown Ew6.out hg)
        have Hvn := hide (box_grown Hv.out hg (by simp))
        clear HG HX Ees Ew6 Hv
        have HG := HGn
        have HX := HXn
        have Ees := Eesn
        have Ew6 := Ew6n
        have Hv := Hvn
        clear HGn HXn Eesn Ew6n Hvn
        clear hg
        have cv1 := blk_cell Hv.out 1
        have cv2 := blk_cell Hv.out 2
        go_wp2_with (first | (go_at_call 13; refine (num_any _ _).mono ?_; rintro e w' ⟨rfl, rfl⟩) | fail)
        clear cv1 cv2
        refine (lrun (L := kilE (1 + (c1 : Int)) (1 + (c1 : Int) + c2) 1) HG.out HX.out one_none.1 one_none.2.1 one_none.2.2.1 one_none.2.2.2.1 one_none.2.2.2.2.1 one_none.2.2.2.2.2.1 (ln := 0) rfl).mono ?_; rintro e W56 ⟨az4, cz4, rfl, hX, ho, hg, hk⟩
        have HGn := hide (hg)
        have HXn := hide (hX)
        have Eesn := hide (show OwnE w.heap.size W56 _ _ from hk.row Ees.out (by decide) (by decide) (by decide))
        have Ew6n := hide (show OwnE w.heap.size W56 _ _ from hk.row Ew6.out (by decide) (by decide) (by decide))
        have Hvn := hide (hk.box Hv.out (by decide) (by decide) (by decide))
        clear HG HX Ees Ew6 Hv
        have HG := HGn
        have HX := HXn
        have Ees := Eesn
        have Ew6 := Ew6n
        have Hv := Hvn
        clear HGn HXn Eesn Ew6n Hvn
        clear hX ho hg hk
        go_upto_region 32 with (first | (go_at_call 13; refine (num_any _ _).mono ?_; rintro e w' ⟨rfl, rfl⟩) | fail)
        have hg := World.grownBy_alloc W56 (.cells #[.bool false, .bool false, .bool false] 50) none
        have Hvvq := hide (heap_alloc_new W56 (.cells #[.bool false, .bool false, .bool false] 50))
        have Lvv := hide (show w.heap.size ≤ W56.heap.size from HG.out.size)
        have HGn := hide (grownBy_trans HG.out hg)
        have HXn := hide (HX.out.grown hg)
        have Eesn := hide (OwnE.grown Ees.out hg)
        have Ew6n := hide (OwnE.grown Ew6.out hg)
        have Hvn := hide (box_grown Hv.out hg (by simp))
        clear HG HX Ees Ew6 Hv
        have HG := HGn
        have HX := HXn
        have Ees := Eesn
        have Ew6 := Ew6n
        have Hv := Hvn
        clear HGn HXn Eesn Ew6n Hvn
        clear hg
        have Hvv := Hvvq
        clear Hvvq
        generalize W56.alloc (.cells #[.bool false, .bool false, .bool false] 50) = W57 at *
        generalize hBx : W56.heap.size = Bvv at *
        clear hBx
        go_wp2_with (first | (go_at_call 13; refine (num_any _ _).mono ?_; rintro e w' ⟨rfl, rfl⟩) | fail)
        refine (lfail (L := kilE (1 + (c1 : Int)) (1 + (c1 : Int) + c2) 1) HG.out HX.out one_none.2.2.2.1 one_none.2.2.2.2.2.2.1 one_none.2.2.2.2.2.2.2 (ln := 0) rfl).mono ?_; rintro e W58 ⟨az5, cz5, rfl, hX, ho, hg, hk⟩
        have HGn := hide (hg)
        have HXn := hide (hX)
        have Eesn := hide (show OwnE w.heap.size W58 _ _ from hk.row Ees.out (by decide) (by decide) (by decide))
        have Ew6n := hide (show OwnE w.heap.size W58 _ _ from hk.row Ew6.out (by decide) (by decide) (by decide))
        have Hvn := hide (hk.box Hv.out (by decide) (by decide) (by decide))
        have Hvvn := hide (hk.box Hvv.out (by decide) (by decide) (by decide))
        clear HG HX Ees Ew6 Hv Hvv
        have HG := HGn
        have HX := HXn
        have Ees := Eesn
        have Ew6 := Ew6n
        have Hv := Hvn
        have Hvv := Hvvn
        clear HGn HXn Eesn Ew6n Hvn Hvvn
        clear hX ho hg hk
        go_wp2_with (first | (go_at_call 13; refine (num_any _ _).mono ?_; rintro e w' ⟨rfl, rfl⟩) | fail)
        refine (lready (L := kilE (1 + (c1 : Int)) (1 + (c1 : Int) + c2) 1) (B := false) HX.out rfl).mono ?_; rintro e w' ⟨rfl, rfl⟩
        go_wp2_with (first | (go_at_call 13; refine (num_any _ _).mono ?_; rintro e w' ⟨rfl, rfl⟩) | fail)
        refine (ljobs (L := kilE (1 + (c1 : Int)) (1 + (c1 : Int) + c2) 1) (ln := 0) HG.out HX.out rfl).mono ?_; rintro e W59 ⟨aj, cj, rfl, ho, hX, hg, hg2⟩
        have HF := hide hg
        clear ho hX hg hg2
        go_wp2
        go_ret
        exact ⟨rfl, HF.out⟩
      · skip
        have q4 : ((k : Int) == (1 + (c1 : Int))) = false := beq_eq_false_iff_ne.2 hqa
        have HQA := hide hqa
        clear hqa
        have HO := hide (show runO (kilA (1 + (c1 : Int)) (1 + (c1 : Int) + c2) 1 (1 + (c3 : Int)) ((k : Int) - 1)) = false from HR.out.2.1.trans (by rw [decide_eq_false HQA.out]; rfl))
        have HD := hide (show runD (kilA (1 + (c1 : Int)) (1 + (c1 : Int) + c2) 1 (1 + (c3 : Int)) ((k : Int) - 1)) = false from HR.out.2.2.1.trans (decide_eq_false HQD.out))
        have HK := hide (show runK (kilA (1 + (c1 : Int)) (1 + (c1 : Int) + c2) 1 (1 + (c3 : Int)) ((k : Int) - 1)) = true from HR.out.2.2.2.trans (by rw [decide_eq_true HQB.out, decide_eq_true (by have := HQD.out; omega)]; rfl))
        have HE := hide (show runV (kilA (1 + (c1 : Int)) (1 + (c1 : Int) + c2) 1 (1 + (c3 : Int)) ((k : Int) - 1)) = [⟨6, 2, 0, (k : Int)⟩] from HV.out.trans (by rw [if_neg (fun h => HQA.out h.2.1)]; rw [if_neg HQD.out, if_pos HQB.out]; rfl))
        have HL := hide (show runL (kilA (1 + (c1 : Int)) (1 + (c1 : Int) + c2) 1 (1 + (c3 : Int)) ((k : Int) - 1)) = kilE (1 + (c1 : Int)) (1 + (c1 : Int) + c2) 1 from kilEnd (u := (k : Int) - 1) k1 (by omega) k3 k4 k5 (by omega) (by omega) kl HKB.out (by have := HQD.out; have := HQB.out; omega))
        clear HR HV
        go_wp2_with (first | (go_at_call 13; refine (num_any _ _).mono ?_; rintro e w' ⟨rfl, rfl⟩) | fail)
        refine (lrun HG.out HX.out HO.out HD.out HK.out HR0.out HL.out HE.out (ln := 1) rfl).mono ?_; rintro e W51 ⟨aes, ces, rfl, hX, ho, hg, hk⟩
        have HGn := hide (hg)
        have HXn := hide (hX)
        clear HG HX
        have HG := HGn
        have HX := HXn
        clear HGn HXn
        have Ees := hide ho
        clear hX ho hg hk
        clear HO HD HK HE HL HR0
        go_upto_region 21 with (first | (go_at_call 13; refine (num_any _ _).mono ?_; rintro e w' ⟨rfl, rfl⟩) | fail)
        have hg := World.grownBy_alloc W51 (.cells #[.bool false, .bool false, .bool true] 50) none
        have Hvq := hide (heap_alloc_new W51 (.cells #[.bool false, .bool false, .bool true] 50))
        have Lv := hide (show w.heap.size ≤ W51.heap.size from HG.out.size)
        have HGn := hide (grownBy_trans HG.out hg)
        have HXn := hide (HX.out.grown hg)
        have Eesn := hide (OwnE.grown Ees.out hg)
        clear HG HX Ees
        have HG := HGn
        have HX := HXn
        have Ees := Eesn
        clear HGn HXn Eesn
        clear hg
        have Hv := Hvq
        clear Hvq
        generalize W51.alloc (.cells #[.bool false, .bool false, .bool true] 50) = W52 at *
        generalize hBx : W51.heap.size = Bv at *
        clear hBx
        go_upto_region 27 with (first | (go_at_call 13; refine (num_any _ _).mono ?_; rintro e w' ⟨rfl, rfl⟩) | fail)
        have LEes := hide (fun k hk => (World.ownsRow.lt (show W52.ownsRow w.heap.size 68 4 _ _ _ from Ees.out) k hk).2)
        have LBw6 := hide HG.out.size
        have hg := World.grownBy_alloc W52 (.cells #[.int .i64 6, .int .i64 2, .int .i64 0, .int .i64 (k : Int)] 68) none
        have HLIT := hide (heap_alloc_new W52 (.cells #[.int .i64 6, .int .i64 2, .int .i64 0, .int .i64 (k : Int)] 68))
        have HSZ := hide hg.size
        have HGn := hide (grownBy_trans HG.out hg)
        have HXn := hide (HX.out.grown hg)
        have Eesn := hide (OwnE.grown Ees.out hg)
        have Hvn := hide (box_grown Hv.out hg (by simp))
        clear HG HX Ees Hv
        have HG := HGn
        have HX := HXn
        have Ees := Eesn
        have Hv := Hvn
        clear HGn HXn Eesn Hvn
        clear hg
        go_wp2_with (first | (at_builtin; refine app_row (S := shE) _ rfl _ _ 41 68 (.agg #[.int .i64 0, .int .i64 0, .int .i64 0, .int .i64 0]) 32 Tryz.underlying41 infoE rfl rfl (W52.heap.size) (.slice none 0 0) 0 ([] : List EvV) rfl (World.ownsRow_nil _ _ _ _) ⟨W52.heap.size, 0, none⟩ 1 1 [(⟨6, 2, 0, (k : Int)⟩ : EvV)] rfl rfl (J.one_at shE (⟨6, 2, 0, (k : Int)⟩ : EvV) HLIT.out) (by omega) (by omega) HSZ.out ?_) | fail)
        intro aw6 cw6 W53 ho hgA hb9
        clear hb9 HLIT HSZ
        replace hgA : _root_.Go.World.grownBy _ W53 none := hgA
        have HGn := hide (grownBy_trans HG.out hgA)
        have HXn := hide (HX.out.grown hgA)
        have Eesn := hide (OwnE.grown Ees.out hgA)
        have Hvn := hide (box_grown Hv.out hgA (by simp))
        clear HG HX Ees Hv
        have HG := HGn
        have HX := HXn
        have Ees := Eesn
        have Hv := Hvn
        clear HGn HXn Eesn Hvn
        have Pw6 := hide (show W53.ownsRow (W52.heap.size) 68 4 (.slice aw6 1 cw6) 1 (shE.cells [⟨6, 2, 0, (k : Int)⟩]) from ho)
        have Ew6 := hide (show OwnE w.heap.size W53 (.slice aw6 1 cw6) [⟨6, 2, 0, (k : Int)⟩] from own_mono Pw6.out LBw6.out)
        have Sw6 := hide (show W52.heap.size ≤ W53.heap.size from Nat.le_trans (World.grownBy_alloc W52 (.cells #[.int .i64 6, .int .i64 2, .int .i64 0, .int .i64 (k : Int)] 68) none).size hgA.size)
        clear ho hgA
        have cv1 := blk_cell Hv.out 1
        have cv2 := blk_cell Hv.out 2
        go_wp2_with (first | (go_at_call 13; refine (num_any _ _).mono ?_; rintro e w' ⟨rfl, rfl⟩) | fail)
        refine (lsame HG.out Ees.out Ew6.out).mono ?_; rintro e W54 ⟨rfl, hg, -⟩
        clear cv1 cv2
        have HGn := hide (grownBy_trans HG.out hg)
        have HXn := hide (HX.out.grown hg)
        have Eesn := hide (OwnE.grown Ees.out hg)
        have Ew6n := hide (OwnE.grown Ew6.out hg)
        have Hvn := hide (box_grown Hv.out hg (by simp))
        clear HG HX Ees Ew6 Hv
        have HG := HGn
        have HX := HXn
        have Ees := Eesn
        have Ew6 := Ew6n
        have Hv := Hvn
        clear HGn HXn Eesn Ew6n Hvn
        clear hg
        have cv1 := blk_cell Hv.out 1
        have cv2 := blk_cell Hv.out 2
        go_wp2_with (first | (go_at_call 13; refine (num_any _ _).mono ?_; rintro e w' ⟨rfl, rfl⟩) | fail)
        clear cv1 cv2
        refine (lrun (L := kilE (1 + (c1 : Int)) (1 + (c1 : Int) + c2) 1) HG.out HX.out one_none.1 one_none.2.1 one_none.2.2.1 one_none.2.2.2.1 one_none.2.2.2.2.1 one_none.2.2.2.2.2.1 (ln := 0) rfl).mono ?_; rintro e W55 ⟨az4, cz4, rfl, hX, ho, hg, hk⟩
        have HGn := hide (hg)
        have HXn := hide (hX)
        have Eesn := hide (show OwnE w.heap.size W55 _ _ from hk.row Ees.out (by decide) (by decide) (by decide))
        have Ew6n := hide (show OwnE w.heap.size W55 _ _ from hk.row Ew6.out (by decide) (by decide) (by decide))
        have Hvn := hide (hk.box Hv.out (by decide) (by decide) (by decide))
        clear HG HX Ees Ew6 Hv
        have HG := HGn
        have HX := HXn
        have Ees := Eesn
        have Ew6 := Ew6n
        have Hv := Hvn
        clear HGn HXn Eesn Ew6n Hvn
        clear hX ho hg hk
        go_upto_region 32 with (first | (go_at_call 13; refine (num_any _ _).mono ?_; rintro e w' ⟨rfl, rfl⟩) | fail)
        have hg := World.grownBy_alloc W55 (.cells #[.bool false, .bool false, .bool false] 50) none
        have Hvvq := hide (heap_alloc_new W55 (.cells #[.bool false, .bool false, .bool false] 50))
        have Lvv := hide (show w.heap.size ≤ W55.heap.size from HG.out.size)
        have HGn := hide (grownBy_trans HG.out hg)
        have HXn := hide (HX.out.grown hg)
        have Eesn := hide (OwnE.grown Ees.out hg)
        have Ew6n := hide (OwnE.grown Ew6.out hg)
        have Hvn := hide (box_grown Hv.out hg (by simp))
        clear HG HX Ees Ew6 Hv
        have HG := HGn
        have HX := HXn
        have Ees := Eesn
        have Ew6 := Ew6n
        have Hv := Hvn
        clear HGn HXn Eesn Ew6n Hvn
        clear hg
        have Hvv := Hvvq
        clear Hvvq
        generalize W55.alloc (.cells #[.bool false, .bool false, .bool false] 50) = W56 at *
        generalize hBx : W55.heap.size = Bvv at *
        clear hBx
        go_wp2_with (first | (go_at_call 13; refine (num_any _ _).mono ?_; rintro e w' ⟨rfl, rfl⟩) | fail)
        refine (lfail (L := kilE (1 + (c1 : Int)) (1 + (c1 : Int) + c2) 1) HG.out HX.out one_none.2.2.2.1 one_none.2.2.2.2.2.2.1 one_none.2.2.2.2.2.2.2 (ln := 0) rfl).mono ?_; rintro e W57 ⟨az5, cz5, rfl, hX, ho, hg, hk⟩
        have HGn := hide (hg)
        have HXn := hide (hX)
        have Eesn := hide (show OwnE w.heap.size W57 _ _ from hk.row Ees.out (by decide) (by decide) (by decide))
        have Ew6n := hide (show OwnE w.heap.size W57 _ _ from hk.row Ew6.out (by decide) (by decide) (by decide))
        have Hvn := hide (hk.box Hv.out (by decide) (by decide) (by decide))
        have Hvvn := hide (hk.box Hvv.out (by decide) (by decide) (by decide))
        clear HG HX Ees Ew6 Hv Hvv
        have HG := HGn
        have HX := HXn
        have Ees := Eesn
        have Ew6 := Ew6n
        have Hv := Hvn
        have Hvv := Hvvn
        clear HGn HXn Eesn Ew6n Hvn Hvvn
        clear hX ho hg hk
        go_wp2_with (first | (go_at_call 13; refine (num_any _ _).mono ?_; rintro e w' ⟨rfl, rfl⟩) | fail)
        refine (lready (L := kilE (1 + (c1 : Int)) (1 + (c1 : Int) + c2) 1) (B := false) HX.out rfl).mono ?_; rintro e w' ⟨rfl, rfl⟩
        go_wp2_with (first | (go_at_call 13; refine (num_any _ _).mono ?_; rintro e w' ⟨rfl, rfl⟩) | fail)
        refine (ljobs (L := kilE (1 + (c1 : Int)) (1 + (c1 : Int) + c2) 1) (ln := 0) HG.out HX.out rfl).mono ?_; rintro e W58 ⟨aj, cj, rfl, ho, hX, hg, hg2⟩
        have HF := hide hg
        clear ho hX hg hg2
        go_wp2
        go_ret
        exact ⟨rfl, HF.out⟩
    · skip
      have HQD := hide (show ¬(k : Int) = (1 + (c3 : Int)) by omega)
      have HQB := hide (show ¬(k : Int) = (1 + (c1 : Int) + c2) by omega)
      have q1 : ((k : Int) == (1 + (c3 : Int))) = false := beq_eq_false_iff_ne.2 (by omega)
      have q2 : (k : Int) < (1 + (c3 : Int)) := hd
      have q3 : ((k : Int) == (1 + (c1 : Int) + c2)) = false := beq_eq_false_iff_ne.2 (by omega)
      clear hd
      by_cases hqa : (k : Int) = (1 + (c1 : Int))
      · skip
        have q4 : ((k : Int) == (1 + (c1 : Int))) = true := beq_iff_eq.2 hqa
        have HQA := hide hqa
        clear hqa
        have HO := hide (show runO (kilA (1 + (c1 : Int)) (1 + (c1 : Int) + c2) 1 (1 + (c3 : Int)) ((k : Int) - 1)) = true from HR.out.2.1.trans (by rw [decide_eq_true HQA.out, decide_eq_true q2]; rfl))
        have HD := hide (show runD (kilA (1 + (c1 : Int)) (1 + (c1 : Int) + c2) 1 (1 + (c3 : Int)) ((k : Int) - 1)) = false from HR.out.2.2.1.trans (decide_eq_false HQD.out))
        have HK := hide (show runK (kilA (1 + (c1 : Int)) (1 + (c1 : Int) + c2) 1 (1 + (c3 : Int)) ((k : Int) - 1)) = false from HR.out.2.2.2.trans (by rw [decide_eq_false HQB.out]; rfl))
        have HE := hide (show runV (kilA (1 + (c1 : Int)) (1 + (c1 : Int) + c2) 1 (1 + (c3 : Int)) ((k : Int) - 1)) = [⟨4, 2, 0, (k : Int)⟩] from HV.out.trans (by rw [if_pos ⟨rfl, HQA.out, q2⟩]; rw [if_neg HQD.out, if_neg HQB.out]; rfl))
        have HL := hide (show runL (kilA (1 + (c1 : Int)) (1 + (c1 : Int) + c2) 1 (1 + (c3 : Int)) ((k : Int) - 1)) = kilA (1 + (c1 : Int)) (1 + (c1 : Int) + c2) 1 (1 + (c3 : Int)) (k : Int) from by have := kilOn (a := (1 + (c1 : Int))) (b := (1 + (c1 : Int) + c2)) (lv := 1) (d := (1 + (c3 : Int))) (u := (k : Int) - 1) kl HKB.out (by have := HQD.out; omega) (by have := HQB.out; omega); rwa [Int.sub_add_cancel] at this)
        clear HR HV
        go_wp2_with (first | (go_at_call 13; refine (num_any _ _).mono ?_; rintro e w' ⟨rfl, rfl⟩) | fail)
        refine (lrun HG.out HX.out HO.out HD.out HK.out HR0.out HL.out HE.out (ln := 1) rfl).mono ?_; rintro e W51 ⟨aes, ces, rfl, hX, ho, hg, hk⟩
        have HGn := hide (hg)
        have HXn := hide (hX)
        clear HG HX
        have HG := HGn
        have HX := HXn
        clear HGn HXn
        have Ees := hide ho
        clear hX ho hg hk
        clear HO HD HK HE HL HR0
        go_upto_region 21 with (first | (go_at_call 13; refine (num_any _ _).mono ?_; rintro e w' ⟨rfl, rfl⟩) | fail)
        have hg := World.grownBy_alloc W51 (.cells #[.bool true, .bool false, .bool false] 50) none
        have Hvq := hide (heap_alloc_new W51 (.cells #[.bool true, .bool false, .bool false] 50))
        have Lv := hide (show w.heap.size ≤ W51.heap.size from HG.out.size)
        have HGn := hide (grownBy_trans HG.out hg)
        have HXn := hide (HX.out.grown hg)
        have Eesn := hide (OwnE.grown Ees.out hg)
        clear HG HX Ees
        have HG := HGn
        have HX := HXn
        have Ees := Eesn
        clear HGn HXn Eesn
        clear hg
        have Hv := Hvq
        clear Hvq
        generalize W51.alloc (.cells #[.bool true, .bool false, .bool false] 50) = W52 at *
        generalize hBx : W51.heap.size = Bv at *
        clear hBx
        go_upto_region 23 with (first | (go_at_call 13; refine (num_any _ _).mono ?_; rintro e w' ⟨rfl, rfl⟩) | fail)
        have LEes := hide (fun k hk => (World.ownsRow.lt (show W52.ownsRow w.heap.size 68 4 _ _ _ from Ees.out) k hk).2)
        have LBw4 := hide HG.out.size
        have hg := World.grownBy_alloc W52 (.cells #[.int .i64 4, .int .i64 2, .int .i64 0, .int .i64 (k : Int)] 68) none
        have HLIT := hide (heap_alloc_new W52 (.cells #[.int .i64 4, .int .i64 2, .int .i64 0, .int .i64 (k : Int)] 68))
        have HSZ := hide hg.size
        have HGn := hide (grownBy_trans HG.out hg)
        have HXn := hide (HX.out.grown hg)
        have Eesn := hide (OwnE.grown Ees.out hg)
        have Hvn := hide (box_grown Hv.out hg (by simp))
        clear HG HX Ees Hv
        have HG := HGn
        have HX := HXn
        have Ees := Eesn
        have Hv := Hvn
        clear HGn HXn Eesn Hvn
        clear hg
        go_wp2_with (first | (at_builtin; refine app_row (S := shE) _ rfl _ _ 41 68 (.agg #[.int .i64 0, .int .i64 0, .int .i64 0, .int .i64 0]) 32 Tryz.underlying41 infoE rfl rfl (W52.heap.size) (.slice none 0 0) 0 ([] : List EvV) rfl (World.ownsRow_nil _ _ _ _) ⟨W52.heap.size, 0, none⟩ 1 1 [(⟨4, 2, 0, (k : Int)⟩ : EvV)] rfl rfl (J.one_at shE (⟨4, 2, 0, (k : Int)⟩ : EvV) HLIT.out) (by omega) (by omega) HSZ.out ?_) | fail)
        intro aw4 cw4 W53 ho hgA hb9
        clear hb9 HLIT HSZ
        replace hgA : _root_.Go.World.grownBy _ W53 none := hgA
        have HGn := hide (grownBy_trans HG.out hgA)
        have HXn := hide (HX.out.grown hgA)
        have Eesn := hide (OwnE.grown Ees.out hgA)
        have Hvn := hide (box_grown Hv.out hgA (by simp))
        clear HG HX Ees Hv
        have HG := HGn
        have HX := HXn
        have Ees := Eesn
        have Hv := Hvn
        clear HGn HXn Eesn Hvn
        have Pw4 := hide (show W53.ownsRow (W52.heap.size) 68 4 (.slice aw4 1 cw4) 1 (shE.cells [⟨4, 2, 0, (k : Int)⟩]) from ho)
        have Ew4 := hide (show OwnE w.heap.size W53 (.slice aw4 1 cw4) [⟨4, 2, 0, (k : Int)⟩] from own_mono Pw4.out LBw4.out)
        have Sw4 := hide (show W52.heap.size ≤ W53.heap.size from Nat.le_trans (World.grownBy_alloc W52 (.cells #[.int .i64 4, .int .i64 2, .int .i64 0, .int .i64 (k : Int)] 68) none).size hgA.size)
        clear ho hgA
        have cv1 := blk_cell Hv.out 1
        have cv2 := blk_cell Hv.out 2
        go_wp2_with (first | (go_at_call 13; refine (num_any _ _).mono ?_; rintro e w' ⟨rfl, rfl⟩) | fail)
        refine (lsame HG.out Ees.out Ew4.out).mono ?_; rintro e W54 ⟨rfl, hg, -⟩
        clear cv1 cv2
        have HGn := hide (grownBy_trans HG.out hg)
        have HXn := hide (HX.out.grown hg)
        have Eesn := hide (OwnE.grown Ees.out hg)
        have Ew4n := hide (OwnE.grown Ew4.out hg)
        have Hvn := hide (box_grown Hv.out hg (by simp))
        clear HG HX Ees Ew4 Hv
        have HG := HGn
        have HX := HXn
        have Ees := Eesn
        have Ew4 := Ew4n
        have Hv := Hvn
        clear HGn HXn Eesn Ew4n Hvn
        clear hg
        have cv1 := blk_cell Hv.out 1
        have cv2 := blk_cell Hv.out 2
        go_wp2_with (first | (go_at_call 13; refine (num_any _ _).mono ?_; rintro e w' ⟨rfl, rfl⟩) | fail)
        clear cv1 cv2
        go_roundw
        case rel => exact ⟨k + 1, by omega, by have := HQD.out; omega, by have := HQB.out; omega, by first | rfl | go_num, hide (by have := HX.out; rw [show ((k + 1 : Nat) : Int) - 1 = (k : Int) by omega]; exact this), HG⟩
        case measure => first | (simp [intOf]; omega) | simp [intOf]
      · skip
        have q4 : ((k : Int) == (1 + (c1 : Int))) = false := beq_eq_false_iff_ne.2 hqa
        have HQA := hide hqa
        clear hqa
        have HO := hide (show runO (kilA (1 + (c1 : Int)) (1 + (c1 : Int) + c2) 1 (1 + (c3 : Int)) ((k : Int) - 1)) = false from HR.out.2.1.trans (by rw [decide_eq_false HQA.out]; rfl))
        have HD := hide (show runD (kilA (1 + (c1 : Int)) (1 + (c1 : Int) + c2) 1 (1 + (c3 : Int)) ((k : Int) - 1)) = false from HR.out.2.2.1.trans (decide_eq_false HQD.out))
        have HK := hide (show runK (kilA (1 + (c1 : Int)) (1 + (c1 : Int) + c2) 1 (1 + (c3 : Int)) ((k : Int) - 1)) = false from HR.out.2.2.2.trans (by rw [decide_eq_false HQB.out]; rfl))
        have HE := hide (show runV (kilA (1 + (c1 : Int)) (1 + (c1 : Int) + c2) 1 (1 + (c3 : Int)) ((k : Int) - 1)) = [] from HV.out.trans (by rw [if_neg (fun h => HQA.out h.2.1)]; rw [if_neg HQD.out, if_neg HQB.out]; rfl))
        have HL := hide (show runL (kilA (1 + (c1 : Int)) (1 + (c1 : Int) + c2) 1 (1 + (c3 : Int)) ((k : Int) - 1)) = kilA (1 + (c1 : Int)) (1 + (c1 : Int) + c2) 1 (1 + (c3 : Int)) (k : Int) from by have := kilOn (a := (1 + (c1 : Int))) (b := (1 + (c1 : Int) + c2)) (lv := 1) (d := (1 + (c3 : Int))) (u := (k : Int) - 1) kl HKB.out (by have := HQD.out; omega) (by have := HQB.out; omega); rwa [Int.sub_add_cancel] at this)
        clear HR HV
        go_wp2_with (first | (go_at_call 13; refine (num_any _ _).mono ?_; rintro e w' ⟨rfl, rfl⟩) | fail)
        refine (lrun HG.out HX.out HO.out HD.out HK.out HR0.out HL.out HE.out (ln := 0) rfl).mono ?_; rintro e W51 ⟨aes, ces, rfl, hX, ho, hg, hk⟩
        have HGn := hide (hg)
        have HXn := hide (hX)
        clear HG HX
        have HG := HGn
        have HX := HXn
        clear HGn HXn
        have Ees := hide ho
        clear hX ho hg hk
        clear HO HD HK HE HL HR0
        go_upto_region 21 with (first | (go_at_call 13; refine (num_any _ _).mono ?_; rintro e w' ⟨rfl, rfl⟩) | fail)
        have hg := World.grownBy_alloc W51 (.cells #[.bool false, .bool false, .bool false] 50) none
        have Hvq := hide (heap_alloc_new W51 (.cells #[.bool false, .bool false, .bool false] 50))
        have Lv := hide (show w.heap.size ≤ W51.heap.size from HG.out.size)
        have HGn := hide (grownBy_trans HG.out hg)
        have HXn := hide (HX.out.grown hg)
        have Eesn := hide (OwnE.grown Ees.out hg)
        clear HG HX Ees
        have HG := HGn
        have HX := HXn
        have Ees := Eesn
        clear HGn HXn Eesn
        clear hg
        have Hv := Hvq
        clear Hvq
        generalize W51.alloc (.cells #[.bool false, .bool false, .bool false] 50) = W52 at *
        generalize hBx : W51.heap.size = Bv at *
        clear hBx
        have cv1 := blk_cell Hv.out 1
        have cv2 := blk_cell Hv.out 2
        go_wp2_with (first | (go_at_call 13; refine (num_any _ _).mono ?_; rintro e w' ⟨rfl, rfl⟩) | fail)
        refine (lsame HG.out Ees.out (ownE_nil _ _)).mono ?_; rintro e W53 ⟨rfl, hg, -⟩
        clear cv1 cv2
        have HGn := hide (grownBy_trans HG.out hg)
        have HXn := hide (HX.out.grown hg)
        have Eesn := hide (OwnE.grown Ees.out hg)
        have Hvn := hide (box_grown Hv.out hg (by simp))
        clear HG HX Ees Hv
        have HG := HGn
        have HX := HXn
        have Ees := Eesn
        have Hv := Hvn
        clear HGn HXn Eesn Hvn
        clear hg
        have cv1 := blk_cell Hv.out 1
        have cv2 := blk_cell Hv.out 2
        go_wp2_with (first | (go_at_call 13; refine (num_any _ _).mono ?_; rintro e w' ⟨rfl, rfl⟩) | fail)
        clear cv1 cv2
        go_roundw
        case rel => exact ⟨k + 1, by omega, by have := HQD.out; omega, by have := HQB.out; omega, by first | rfl | go_num, hide (by have := HX.out; rw [show ((k + 1 : Nat) : Int) - 1 = (k : Int) by omega]; exact this), HG⟩
        case measure => first | (simp [intOf]; omega) | simp [intOf]
#print axioms kills_hi
end Go.Proofs.YtlppfocoonnpjaaGreatDoor.L
