/- The walk of the statement TaskApart: no two jobs of a task come less than a period apart; proved over the translation. -/
import Derived.Test.YtephnppanbckkaaOwn2
namespace Go.Proofs.Ytephnppanbckkaa
open Go.RowKit
attribute [local go_sem] alloc_drewN setCell_drewN

set_option maxRecDepth 100000 in
set_option maxHeartbeats 40000000 in
theorem taskApart_from (t : TaskV) (pa : Option Addr) (n pcap : Nat) (ps : List Int) (w w0 : World) (hg0 : w.grownBy w0 none) (hv : RowAt shN 0 w (.slice pa n pcap) ps) : Calls Try.prog 4 #[taskVal t, .slice pa n pcap] w0 fun e w' => e = .returned (.bool true) ∧ w.grownBy w' none := by
  have hn : ps.length = n := by obtain ⟨-, a2, c2, e, -⟩ := hv; simp only [Value.slice.injEq] at e; exact e.2.1.symm
  have hn63 : n ≤ 9223372036854775807 := by obtain ⟨h, -⟩ := hv; omega
  obtain ⟨TM, hTM⟩ : ∃ b, taskMay t = b := ⟨_, rfl⟩
  have CM := hide (fun W => may_at (t := t) W hTM)
  have HTM := hide hTM
  have HKIND := hide (fun (h : taskMay t = true) => (may_parts h).1)
  have HPER := hide (fun (h : taskMay t = true) => (may_parts h).2.1)
  have HI0 := hide (inv_zero t)
  have RV := hide (fun W (hg : w.grownBy W none) => hv.grown hg)
  have HW := hide (fun (j : Nat) (hj : j < n) => (⟨_, List.getElem?_eq_getElem (l := ps) (by omega)⟩ : ∃ q, ps[j]? = some q))
  have HNP := hide hn
  have NUM := hide num_to
  have HG := hide hg0
  clear hg0 hv hn hTM
  obtain ⟨x0, x1, x2, x3, x4, x5⟩ := t
  dsimp only at HKIND HPER
  go_enter Try.func4, Try.ntmps4
  go_upto_region 1 with (first | fail)
  have hg := World.grownBy_alloc w0 (.cells #[.int .i64 x0, .int .i64 x1, .int .i64 x2, .int .i64 x3, .int .i64 x4, .int .i64 x5] 23) none
  have HTq := hide (heap_alloc_new w0 (.cells #[.int .i64 x0, .int .i64 x1, .int .i64 x2, .int .i64 x3, .int .i64 x4, .int .i64 x5] 23))
  have LT := hide HG.out.size
  have HGn := hide (grownBy_trans HG.out hg)
  clear HG
  have HG := HGn
  clear HGn
  clear hg
  have HT := HTq
  clear HTq
  generalize hWx : w0.alloc (.cells #[.int .i64 x0, .int .i64 x1, .int .i64 x2, .int .i64 x3, .int .i64 x4, .int .i64 x5] 23) = w1 at *
  generalize hBx : w0.heap.size = BT at *
  clear hWx hBx
  go_wp2_with (first | fail)
  refine (awake_any _).mono ?_; rintro e w2 ⟨rfl, hg⟩
  have HGn := hide (grownBy_trans HG.out hg)
  have HTn := hide (box_grown HT.out hg (by simp))
  clear HG HT
  have HG := HGn
  have HT := HTn
  clear HGn HTn
  clear hg
  have cT0 : w2.cell? ⟨BT, 0, none⟩ = some (.int .i64 x0) := blk_cell HT.out 0
  have cT1 : w2.cell? ⟨BT, 1, none⟩ = some (.int .i64 x1) := blk_cell HT.out 1
  have cT2 : w2.cell? ⟨BT, 2, none⟩ = some (.int .i64 x2) := blk_cell HT.out 2
  have cT3 : w2.cell? ⟨BT, 3, none⟩ = some (.int .i64 x3) := blk_cell HT.out 3
  have cT4 : w2.cell? ⟨BT, 4, none⟩ = some (.int .i64 x4) := blk_cell HT.out 4
  have cT5 : w2.cell? ⟨BT, 5, none⟩ = some (.int .i64 x5) := blk_cell HT.out 5
  go_wp2_with (first | fail)
  refine (CM.out _).mono ?_; rintro e w3 ⟨rfl, hg⟩
  clear cT0 cT1 cT2 cT3 cT4 cT5
  have HGn := hide (grownBy_trans HG.out hg)
  have HTn := hide (box_grown HT.out hg (by simp))
  clear HG HT
  have HG := HGn
  have HT := HTn
  clear HGn HTn
  clear hg
  cases TM with
  | false =>
    go_wp2
    go_ret
    exact ⟨rfl, HG.out⟩
  | true =>
    have hk01 := HKIND.out HTM.out
    have hp := HPER.out HTM.out
    clear HKIND HPER CM
    go_upto_region 8 with (first | fail)
    have hg := World.grownBy_alloc w3 (.cells #[.int .i64 (-1), .slice none 0 0] 26) none
    have HSq := hide (heap_alloc_new w3 (.cells #[.int .i64 (-1), .slice none 0 0] 26))
    have LS := hide HG.out.size
    have HGn := hide (grownBy_trans HG.out hg)
    have HTn := hide (box_grown HT.out hg (by simp))
    clear HG HT
    have HG := HGn
    have HT := HTn
    clear HGn HTn
    clear hg
    have HS := HSq
    clear HSq
    generalize hWx : w3.alloc (.cells #[.int .i64 (-1), .slice none 0 0] 26) = w4 at *
    generalize hBx : w3.heap.size = BS at *
    clear hWx hBx
    have OS0 := hide (own_nil w.heap.size w4)
    have HT0 := HT
    have HS0 := HS
    have HG0 := HG
    clear HT HS HG
    go_wp2
    go_loopw [6, 7, 8, 9, 10, 11, 12, 13, 14, 15] (fun last row now _ _ _ _ _ _ _ W => ∃ (j k : Nat) (l : Int) (zs : List Int) (u ru : Option Addr) (c rc : Nat), j ≤ 60 ∧ last = .int .i64 l ∧ row = .slice ru k rc ∧ now = .int .i64 j ∧ Hid (zs.length = k) ∧ Hid (Inv ⟨x0, x1, x2, x3, x4, x5⟩ l zs j) ∧ Hid (W.heap[BT]? = some (.cells #[.int .i64 x0, .int .i64 x1, .int .i64 x2, .int .i64 x3, .int .i64 x4, .int .i64 x5] 23 (0, 0))) ∧ Hid (W.heap[BS]? = some (.cells #[.int .i64 l, .slice u k c] 26 (0, 0))) ∧ Hid (Own w.heap.size W (.slice u k c) zs) ∧ Hid (Own w.heap.size W (.slice ru k rc) zs) ∧ Hid (Far (.slice u k c) (.slice ru k rc)) ∧ Hid (w.grownBy W none)) (fun _ _ now _ _ _ _ _ _ _ _ => 60 - (intOf now).toNat)
    case atStart => exact ⟨0, 0, -1, [], none, none, 0, 0, by omega, rfl, rfl, rfl, hide rfl, HI0, HT0, HS0, OS0, OS0, far_nil _ _, HG0⟩
    case round =>
      clear HT0 HS0 HG0 OS0 HI0
      obtain ⟨j, k, l, zs, u, ru, c, rc, hj, rfl, rfl, rfl, HK, HI, HT, HS, OS, OR, NE, HG⟩ := hrel
      by_cases hlt : j < 60
      · skip
        go_upto_region 11 with (first | fail)
        go_cut [37] (fun b W => ∃ x : Bool, b = .bool x ∧ W = wr ∧ Hid (x = true → j < n))
        case first =>
          by_cases hjn : j < n
          · obtain ⟨q, hq⟩ := HW.out j hjn
            obtain ⟨-, a2, cap2, e2, ha⟩ := RV.out _ HG.out
            simp only [Value.slice.injEq] at e2
            obtain ⟨rfl, -, rfl⟩ := e2
            obtain ⟨g, oo, rfl, -, hc⟩ := ha (by rw [HNP.out]; omega)
            have c1 : wr.cell? ⟨g, oo + j * 1, none⟩ = some (.int .i64 q) := hc j q hq 0 _ rfl
            rw [Nat.mul_one] at c1
            clear hc ha hq
            obtain ⟨cc, hcc, hm⟩ := and2 q
            by_cases h0 : cc = 0
            · have h00 : ((cc : Int) == 0) = true := by subst h0; rfl
              go_wp2
              go_meet
              case rel => exact ⟨true, by first | rfl | simp, rfl, hide (fun _ => hjn)⟩
            · have h00 : ((cc : Int) == 0) = false := by simp; omega
              go_wp2
              go_meet
              case rel => exact ⟨false, by first | rfl | simp, rfl, hide (fun h => by cases h)⟩
          · go_wp2
            go_meet
            case rel => exact ⟨false, by first | rfl | simp, rfl, hide (fun h => by cases h)⟩
        case rest =>
          obtain ⟨x, rfl, rfl, HX⟩ := hcut
          obtain ⟨wq, hwq⟩ : ∃ y, y = wc := ⟨_, rfl⟩
          subst hwq
          go_upto_if 37 with fail
          go_cut [7] (fun row W => ∃ (k : Nat) (zs : List Int) (u ru : Option Addr) (c rc : Nat), row = .slice ru k rc ∧ Hid (zs.length = k) ∧ Hid (Inv ⟨x0, x1, x2, x3, x4, x5⟩ l zs j) ∧ Hid (W.heap[BT]? = some (.cells #[.int .i64 x0, .int .i64 x1, .int .i64 x2, .int .i64 x3, .int .i64 x4, .int .i64 x5] 23 (0, 0))) ∧ Hid (W.heap[BS]? = some (.cells #[.int .i64 l, .slice u k c] 26 (0, 0))) ∧ Hid (Own w.heap.size W (.slice u k c) zs) ∧ Hid (Own w.heap.size W (.slice ru k rc) zs) ∧ Hid (Far (.slice u k c) (.slice ru k rc)) ∧ Hid (w.grownBy W none))
          case first =>
            cases x with
            | false =>
              go_wp2
              go_meet
              case rel => exact ⟨k, zs, u, ru, c, rc, rfl, HK, HI, HT, HS, OS, OR, NE, HG⟩
            | true =>
              have hjn := HX.out rfl
              clear HX
              obtain ⟨q, hq⟩ := HW.out j hjn
              obtain ⟨-, a2, cap2, e2, ha⟩ := RV.out _ HG.out
              simp only [Value.slice.injEq] at e2
              obtain ⟨rfl, -, rfl⟩ := e2
              obtain ⟨g, oo, rfl, -, hc⟩ := ha (by rw [HNP.out]; omega)
              have c1 : wq.cell? ⟨g, oo + j * 1, none⟩ = some (.int .i64 q) := hc j q hq 0 _ rfl
              rw [Nat.mul_one] at c1
              clear hc ha hq
              obtain ⟨cc, hcc, hm⟩ := and10 q
              go_upto_region 13 with (first | fail)
              generalize hd : 1 + (cc : Int) = d at *
              have hdm : demMay d = true := by unfold demMay; rw [decide_eq_true (show 1 ≤ d by omega), decide_eq_true (show d ≤ 65535 by omega)]; rfl
              have HDM := hide hdm
              clear hdm hd hm hcc c1
              by_cases h4 : k = 4
              · skip
                obtain ⟨hP, hE⟩ := inv_full HTM.out HI.out HDM.out (by rw [HK.out]; exact h4)
                have HP := hide hP
                have HE := hide hE
                clear hP hE
                have hk4 : ¬ ((k : Int) < 4) := by omega
                clear h4
                have cT0 : wq.cell? ⟨BT, 0, none⟩ = some (.int .i64 x0) := blk_cell HT.out 0
                have cT1 : wq.cell? ⟨BT, 1, none⟩ = some (.int .i64 x1) := blk_cell HT.out 1
                have cT2 : wq.cell? ⟨BT, 2, none⟩ = some (.int .i64 x2) := blk_cell HT.out 2
                have cT3 : wq.cell? ⟨BT, 3, none⟩ = some (.int .i64 x3) := blk_cell HT.out 3
                have cT4 : wq.cell? ⟨BT, 4, none⟩ = some (.int .i64 x4) := blk_cell HT.out 4
                have cT5 : wq.cell? ⟨BT, 5, none⟩ = some (.int .i64 x5) := blk_cell HT.out 5
                have cS0 : wq.cell? ⟨BS, 0, none⟩ = some (.int .i64 l) := blk_cell HS.out 0
                have cS1 : wq.cell? ⟨BS, 1, none⟩ = some (.slice u k c) := blk_cell HS.out 1
                go_wp2_with (first | fail)
                refine (pick_at (t := ⟨x0, x1, x2, x3, x4, x5⟩) (L := l) (v := .slice u k c) (zs := zs) (d := d) (L' := 0) (E := 1101) (zs' := []) (N := 0) _ OS.out.row HP.out HE.out rfl).mono ?_; rintro e w5 ⟨u9, c9, rfl, ho, hg⟩
                clear cT0 cT1 cT2 cT3 cT4 cT5 cS0 cS1
                have HGn := hide (grownBy_trans HG.out hg)
                have HTn := hide (box_grown HT.out hg (by simp))
                have HSn := hide (box_grown HS.out hg (by simp))
                have OSn := hide (OS.out.grown hg)
                have ORn := hide (OR.out.grown hg)
                clear HG HT HS OS OR
                have HG := HGn
                have HT := HTn
                have HS := HSn
                have OS := OSn
                have OR := ORn
                clear HGn HTn HSn OSn ORn
                clear hg
                clear ho
                go_upto_region 14 with (first | fail)
                have hg := World.grownBy_alloc w5 (.cells #[.int .i64 0, .slice u9 0 c9] 26) none
                have HXq := hide (heap_alloc_new w5 (.cells #[.int .i64 0, .slice u9 0 c9] 26))
                have LX := hide HG.out.size
                have HGn := hide (grownBy_trans HG.out hg)
                have HTn := hide (box_grown HT.out hg (by simp))
                have HSn := hide (box_grown HS.out hg (by simp))
                have OSn := hide (OS.out.grown hg)
                have ORn := hide (OR.out.grown hg)
                clear HG HT HS OS OR
                have HG := HGn
                have HT := HTn
                have HS := HSn
                have OS := OSn
                have OR := ORn
                clear HGn HTn HSn OSn ORn
                clear hg
                have HX := HXq
                clear HXq
                generalize hWx : w5.alloc (.cells #[.int .i64 0, .slice u9 0 c9] 26) = w6 at *
                generalize hBx : w5.heap.size = BX at *
                clear hWx hBx
                go_wp2_with (first | (go_at_call 14; refine (NUM.out _ _).mono ?_; rintro e wn ⟨rfl, rfl⟩) | fail)
                go_meet
                case rel => exact ⟨k, zs, u, ru, c, rc, by first | rfl | trivial, HK, HI, HT, HS, OS, OR, NE, HG⟩
              · skip
                obtain ⟨hP, hE, hI2⟩ := inv_room HTM.out HI.out HDM.out (by rw [HK.out]; exact h4)
                have HP := hide hP
                have HE := hide hE
                have HI2 := hide hI2
                clear hP hE hI2 HDM
                have h3 := (turns_parts HI.out.may).2.2.1
                dsimp only at h3
                rw [HK.out] at h3
                have hk4 : (k : Int) < 4 := by omega
                have hk5 : k ≤ 4 := h3
                clear h3
                have HK2 : Hid ((zs ++ [d]).length = k + 1) := hide (by rw [List.length_append, HK.out]; rfl)
                have cT0 : wq.cell? ⟨BT, 0, none⟩ = some (.int .i64 x0) := blk_cell HT.out 0
                have cT1 : wq.cell? ⟨BT, 1, none⟩ = some (.int .i64 x1) := blk_cell HT.out 1
                have cT2 : wq.cell? ⟨BT, 2, none⟩ = some (.int .i64 x2) := blk_cell HT.out 2
                have cT3 : wq.cell? ⟨BT, 3, none⟩ = some (.int .i64 x3) := blk_cell HT.out 3
                have cT4 : wq.cell? ⟨BT, 4, none⟩ = some (.int .i64 x4) := blk_cell HT.out 4
                have cT5 : wq.cell? ⟨BT, 5, none⟩ = some (.int .i64 x5) := blk_cell HT.out 5
                have cS0 : wq.cell? ⟨BS, 0, none⟩ = some (.int .i64 l) := blk_cell HS.out 0
                have cS1 : wq.cell? ⟨BS, 1, none⟩ = some (.slice u k c) := blk_cell HS.out 1
                go_wp2_with (first | fail)
                have HSZ := hide HG.out.size
                have HLTR : Hid (∀ g, (.slice ru k rc : Value).ownBlock = some g → g < wq.heap.size) := hide (fun g h => (World.ownsRow.lt OR.out g h).2)
                refine (pick_at (t := ⟨x0, x1, x2, x3, x4, x5⟩) (L := l) (v := .slice u k c) (zs := zs) (d := d) (L' := l) (E := 0) (zs' := zs ++ [d]) (N := k + 1) _ OS.out.row HP.out HE.out HK2.out).mono ?_; rintro e w5 ⟨u9, c9, rfl, ho, hg⟩
                clear cT0 cT1 cT2 cT3 cT4 cT5 cS0 cS1
                have HGn := hide (grownBy_trans HG.out hg)
                have HTn := hide (box_grown HT.out hg (by simp))
                have HSn := hide (box_grown HS.out hg (by simp))
                have OSn := hide (OS.out.grown hg)
                have ORn := hide (OR.out.grown hg)
                clear HG HT HS OS OR
                have HG := HGn
                have HT := HTn
                have HS := HSn
                have OS := OSn
                have OR := ORn
                clear HGn HTn HSn OSn ORn
                clear hg
                have NX : Hid (Far (.slice u9 (k + 1) c9) (.slice ru k rc)) := hide (far_new ho (Nat.le_refl _) HLTR.out)
                have OX := hide (ho.base HSZ.out)
                clear ho HSZ HLTR
                go_upto_region 14 with (first | fail)
                have hg := World.grownBy_alloc w5 (.cells #[.int .i64 l, .slice u9 (k + 1) c9] 26) none
                have HYq := hide (heap_alloc_new w5 (.cells #[.int .i64 l, .slice u9 (k + 1) c9] 26))
                have LY := hide HG.out.size
                have HGn := hide (grownBy_trans HG.out hg)
                have HTn := hide (box_grown HT.out hg (by simp))
                have HSn := hide (box_grown HS.out hg (by simp))
                have OSn := hide (OS.out.grown hg)
                have ORn := hide (OR.out.grown hg)
                have OXn := hide (OX.out.grown hg)
                clear HG HT HS OS OR OX
                have HG := HGn
                have HT := HTn
                have HS := HSn
                have OS := OSn
                have OR := ORn
                have OX := OXn
                clear HGn HTn HSn OSn ORn OXn
                clear hg
                have HY := HYq
                clear HYq
                generalize hWx : w5.alloc (.cells #[.int .i64 l, .slice u9 (k + 1) c9] 26) = w6 at *
                generalize hBx : w5.heap.size = BY at *
                clear hWx hBx
                clear OS
                have cY0 : w6.cell? ⟨BY, 0, none⟩ = some (.int .i64 l) := blk_cell HY.out 0
                have cY1 : w6.cell? ⟨BY, 1, none⟩ = some (.slice u9 (k + 1) c9) := blk_cell HY.out 1
                go_upto_region 18 with (first | (go_at_call 14; refine (NUM.out _ _).mono ?_; rintro e wn ⟨rfl, rfl⟩) | ((with_reducible refine list_store 26 (.tmp 5) (.tmp 61) BS #[.int .i64 l, .slice u9 (k + 1) c9] 26 #[.int .i64 l, .slice u k c] ?hx ?hy ?hg ?hi ?ho ?h1 ?_); (case hx => rfl); (case hy => rfl); (case hg => exact HS.out); (case hi => exact sizeU); (case ho => rfl); (case h1 => simp [Value.oneCell']); intro ws h1 e1 g1; have HGn := hide (grown_spoil HG.out LS.out g1); have HTn := hide (box_type HT.out g1 (type_box HS.out) (by decide)); have ORn := hide (OR.out.type g1 (type_box HS.out) (by decide)); have OXn := hide (OX.out.type g1 (type_box HS.out) (by decide)); have HSn := hide (h1); clear HG HT OR OX HS; have HG := HGn; have HT := HTn; have OR := ORn; have OX := OXn; have HS := HSn; clear HGn HTn ORn OXn HSn h1 e1 g1) | fail)
                clear HY
                go_wp2_with (first | (at_builtin; refine app_row (S := shN) _ rfl _ _ 24 3 (.int .i64 0) 8 Try.underlying24 infoN rfl rfl w.heap.size (.slice ru k rc) k zs rfl ?c0 ⟨ws.heap.size, 0, none⟩ 1 1 [d] rfl rfl ?c1 ?c2 ?c3 ?c4 ?_) | fail)
                case c0 => exact own_n HK.out (OR.out.grown (World.grownBy_alloc ws (.cells #[.int .i64 d] 3) none))
                case c1 => exact one_at shN d (heap_alloc_new ws (.cells #[.int .i64 d] 3))
                case c2 => omega
                case c3 => omega
                case c4 => exact Nat.le_trans HG.out.size (by simp)
                intro a3 c3 wt ho hgw hbl
                have OA := own_n HK.out (OR.out.grown (World.grownBy_alloc ws (.cells #[.int .i64 d] 3) none))
                have OX0 := OX.out.grown (World.grownBy_alloc ws (.cells #[.int .i64 d] 3) none)
                have HGn := hide (grown_app (grownBy_trans HG.out (World.grownBy_alloc ws (.cells #[.int .i64 d] 3) none)) OA (Nat.le_refl _) hgw)
                have HTn := hide (box_app (hp_up HT.out (.cells #[.int .i64 d] 3)) OA hgw (by decide))
                have HSn := hide (box_app (hp_up HS.out (.cells #[.int .i64 d] 3)) OA hgw (by decide))
                have OXn := hide (OX0.far hgw NX.out)
                have NE2 : Hid (Far (.slice u9 (k + 1) c9) (.slice a3 (k + 1) c3)) := hide (fun g hg e => by
                  rcases hbl with hb | hb
                  · rw [hb] at e; exact NX.out g hg e
                  · have h5 := (World.ownsRow.lt OX0 g hg).2
                    rw [hb] at e
                    simp only [Option.some.injEq] at e
                    exact absurd h5 (by rw [← e]; first | exact Nat.lt_irrefl _ | (simp; done)))
                have ORn := hide (n_own HK2.out ho)
                clear ho hgw hbl OA OX0
                go_wp2
                go_meet
                case rel => exact ⟨k + 1, zs ++ [d], u9, a3, c9, c3, by first | rfl | trivial, HK2, HI2, HTn, HSn, OXn, ORn, NE2, HGn⟩
          case rest =>
            clear HK HI HT HS OS OR NE HG HX
            obtain ⟨k, zs, u, ru, c, rc, rfl, HK, HI, HT, HS, OS, OR, NE, HG⟩ := hcut
            obtain ⟨wv, hwv⟩ : ∃ y, y = wc := ⟨_, rfl⟩
            subst hwv
            have HAT := hide (inv_at HTM.out HI.out hj)
            have hpast := HI.out.past
            have hl1 : -1 ≤ l := by omega
            have hl2 : l < (j : Int) := by omega
            clear hpast
            have hk5 : k ≤ 4 := by have h3 := (turns_parts HI.out.may).2.2.1; dsimp only at h3; rw [HK.out] at h3; exact h3
            obtain ⟨C, hC⟩ : ∃ C, comesB ⟨x0, x1, x2, x3, x4, x5⟩ ⟨l, zs⟩ (j : Int) = C := ⟨_, rfl⟩
            have HC := hide hC
            clear hC
            cases C with
            | false =>
              have HO := hide (rel_out HAT.out HC.out)
              obtain ⟨hI3, hs1, hs0⟩ := inv_stay HI.out HC.out
              have HI3 := hide hI3
              have HS1 := hide hs1
              have HS0 := hide hs0
              clear hI3 hs1 hs0
              have cT0 : wv.cell? ⟨BT, 0, none⟩ = some (.int .i64 x0) := blk_cell HT.out 0
              have cT1 : wv.cell? ⟨BT, 1, none⟩ = some (.int .i64 x1) := blk_cell HT.out 1
              have cT2 : wv.cell? ⟨BT, 2, none⟩ = some (.int .i64 x2) := blk_cell HT.out 2
              have cT3 : wv.cell? ⟨BT, 3, none⟩ = some (.int .i64 x3) := blk_cell HT.out 3
              have cT4 : wv.cell? ⟨BT, 4, none⟩ = some (.int .i64 x4) := blk_cell HT.out 4
              have cT5 : wv.cell? ⟨BT, 5, none⟩ = some (.int .i64 x5) := blk_cell HT.out 5
              have cS0 : wv.cell? ⟨BS, 0, none⟩ = some (.int .i64 l) := blk_cell HS.out 0
              have cS1 : wv.cell? ⟨BS, 1, none⟩ = some (.slice u k c) := blk_cell HS.out 1
              go_wp2_with (first | fail)
              refine (rel_at (t := ⟨x0, x1, x2, x3, x4, x5⟩) (L := l) (v := .slice u k c) (zs := zs) (now := (j : Int)) (L' := l) (D := 0) (b := false) (zs' := zs) (N := k) _ OS.out.row HO.out.1 HO.out.2.1 HO.out.2.2 HK.out).mono ?_; rintro e w31 ⟨u9, c9, rfl, ho, hg⟩
              clear cT0 cT1 cT2 cT3 cT4 cT5 cS0 cS1
              have HGn := hide (grownBy_trans HG.out hg)
              have HTn := hide (box_grown HT.out hg (by simp))
              have HSn := hide (box_grown HS.out hg (by simp))
              have OSn := hide (OS.out.grown hg)
              have ORn := hide (OR.out.grown hg)
              clear HG HT HS OS OR
              have HG := HGn
              have HT := HTn
              have HS := HSn
              have OS := OSn
              have OR := ORn
              clear HGn HTn HSn OSn ORn
              clear hg
              clear ho
              go_upto_region 20 with (first | fail)
              have hg := World.grownBy_alloc w31 (.cells #[.int .i64 l, .slice u9 k c9] 26) none
              have HYq := hide (heap_alloc_new w31 (.cells #[.int .i64 l, .slice u9 k c9] 26))
              have LY := hide HG.out.size
              have HGn := hide (grownBy_trans HG.out hg)
              have HTn := hide (box_grown HT.out hg (by simp))
              have HSn := hide (box_grown HS.out hg (by simp))
              have OSn := hide (OS.out.grown hg)
              have ORn := hide (OR.out.grown hg)
              clear HG HT HS OS OR
              have HG := HGn
              have HT := HTn
              have HS := HSn
              have OS := OSn
              have OR := ORn
              clear HGn HTn HSn OSn ORn
              clear hg
              have HY := HYq
              clear HYq
              generalize hWx : w31.alloc (.cells #[.int .i64 l, .slice u9 k c9] 26) = w32 at *
              generalize hBx : w31.heap.size = BY at *
              clear hWx hBx
              have cT0 : w32.cell? ⟨BT, 0, none⟩ = some (.int .i64 x0) := blk_cell HT.out 0
              have cT1 : w32.cell? ⟨BT, 1, none⟩ = some (.int .i64 x1) := blk_cell HT.out 1
              rcases hk01 with rfl | rfl
              · have hm : ((j : Int) % x1 == 0) = false := by have := HS0.out rfl; simpa using this
                clear HS0 HS1
                go_wp2
                go_roundw
                case rel => exact ⟨j + 1, k, l, zs, u, ru, c, rc, by omega, by first | rfl | trivial, by first | rfl | trivial, by go_num, HK, HI3, HT, HS, OS, OR, NE, HG⟩
                case measure => simp [intOf]; omega
              · by_cases hz : k = 0
                · subst hz
                  go_wp2
                  go_roundw
                  case rel => exact ⟨j + 1, 0, l, zs, u, ru, c, rc, by omega, by first | rfl | trivial, by first | rfl | trivial, by go_num, HK, HI3, HT, HS, OS, OR, NE, HG⟩
                  case measure => simp [intOf]; omega
                · obtain ⟨h1, h2⟩ := HS1.out rfl (by rw [HK.out]; omega)
                  have h3 : ¬ l < 0 := by omega
                  have h5 : ¬ x1 ≤ (j : Int) - l := by first | omega | (dsimp only at h2; omega)
                  have h6 : (0 : Int) < (k : Int) := by omega
                  clear h2 HS0 HS1
                  go_wp2
                  go_roundw
                  case rel => exact ⟨j + 1, k, l, zs, u, ru, c, rc, by omega, by first | rfl | trivial, by first | rfl | trivial, by go_num, HK, HI3, HT, HS, OS, OR, NE, HG⟩
                  case measure => simp [intOf]; omega
            | true =>
              have HO := hide (rel_out HAT.out HC.out)
              obtain ⟨hI3, hs1, hs0⟩ := inv_come HTM.out HI.out hj HC.out
              have HI3 := hide hI3
              have HS1 := hide hs1
              clear hI3 hs1
              dsimp only at hs0
              cases zs with
              | nil =>
                obtain rfl : k = 0 := HK.out.symm
                have h10 : ¬ x0 = 1 := fun h => absurd (HS1.out h) (by simp)
                obtain rfl : x0 = 0 := by omega
                clear HS1 h10
                have cT0 : wv.cell? ⟨BT, 0, none⟩ = some (.int .i64 0) := blk_cell HT.out 0
                have cT1 : wv.cell? ⟨BT, 1, none⟩ = some (.int .i64 x1) := blk_cell HT.out 1
                have cT2 : wv.cell? ⟨BT, 2, none⟩ = some (.int .i64 x2) := blk_cell HT.out 2
                have cT3 : wv.cell? ⟨BT, 3, none⟩ = some (.int .i64 x3) := blk_cell HT.out 3
                have cT4 : wv.cell? ⟨BT, 4, none⟩ = some (.int .i64 x4) := blk_cell HT.out 4
                have cT5 : wv.cell? ⟨BT, 5, none⟩ = some (.int .i64 x5) := blk_cell HT.out 5
                have cS0 : wv.cell? ⟨BS, 0, none⟩ = some (.int .i64 l) := blk_cell HS.out 0
                have cS1 : wv.cell? ⟨BS, 1, none⟩ = some (.slice u 0 c) := blk_cell HS.out 1
                go_wp2_with (first | fail)
                have HSZ := hide HG.out.size
                have HLTR : Hid (∀ g, (.slice ru 0 rc : Value).ownBlock = some g → g < wv.heap.size) := hide (fun g h => (World.ownsRow.lt OR.out g h).2)
                refine (rel_at (t := ⟨0, x1, x2, x3, x4, x5⟩) (L := l) (v := .slice u 0 c) (zs := []) (now := (j : Int)) (L' := (j : Int)) (D := x3) (b := true) (zs' := []) (N := 0) _ OS.out.row HO.out.1 HO.out.2.1 HO.out.2.2 rfl).mono ?_; rintro e w31 ⟨u9, c9, rfl, ho, hg⟩
                clear cT0 cT1 cT2 cT3 cT4 cT5 cS0 cS1
                have HGn := hide (grownBy_trans HG.out hg)
                have HTn := hide (box_grown HT.out hg (by simp))
                have HSn := hide (box_grown HS.out hg (by simp))
                have OSn := hide (OS.out.grown hg)
                have ORn := hide (OR.out.grown hg)
                clear HG HT HS OS OR
                have HG := HGn
                have HT := HTn
                have HS := HSn
                have OS := OSn
                have OR := ORn
                clear HGn HTn HSn OSn ORn
                clear hg
                have NX : Hid (Far (.slice u9 0 c9) (.slice ru 0 rc)) := hide (far_new ho (Nat.le_refl _) HLTR.out)
                have OX := hide (ho.base HSZ.out)
                clear ho HSZ HLTR
                go_upto_region 20 with (first | fail)
                have hg := World.grownBy_alloc w31 (.cells #[.int .i64 (j : Int), .slice u9 0 c9] 26) none
                have HYq := hide (heap_alloc_new w31 (.cells #[.int .i64 (j : Int), .slice u9 0 c9] 26))
                have LY := hide HG.out.size
                have HGn := hide (grownBy_trans HG.out hg)
                have HTn := hide (box_grown HT.out hg (by simp))
                have HSn := hide (box_grown HS.out hg (by simp))
                have OSn := hide (OS.out.grown hg)
                have ORn := hide (OR.out.grown hg)
                have OXn := hide (OX.out.grown hg)
                clear HG HT HS OS OR OX
                have HG := HGn
                have HT := HTn
                have HS := HSn
                have OS := OSn
                have OR := ORn
                have OX := OXn
                clear HGn HTn HSn OSn ORn OXn
                clear hg
                have HY := HYq
                clear HYq
                generalize hWx : w31.alloc (.cells #[.int .i64 (j : Int), .slice u9 0 c9] 26) = w32 at *
                generalize hBx : w31.heap.size = BY at *
                clear hWx hBx
                clear OS NE
                have cT0 : w32.cell? ⟨BT, 0, none⟩ = some (.int .i64 0) := blk_cell HT.out 0
                have cT1 : w32.cell? ⟨BT, 1, none⟩ = some (.int .i64 x1) := blk_cell HT.out 1
                have cT2 : w32.cell? ⟨BT, 2, none⟩ = some (.int .i64 x2) := blk_cell HT.out 2
                have cT3 : w32.cell? ⟨BT, 3, none⟩ = some (.int .i64 x3) := blk_cell HT.out 3
                have cT4 : w32.cell? ⟨BT, 4, none⟩ = some (.int .i64 x4) := blk_cell HT.out 4
                have cT5 : w32.cell? ⟨BT, 5, none⟩ = some (.int .i64 x5) := blk_cell HT.out 5
                have cY0 : w32.cell? ⟨BY, 0, none⟩ = some (.int .i64 (j : Int)) := blk_cell HY.out 0
                have cY1 : w32.cell? ⟨BY, 1, none⟩ = some (.slice u9 0 c9) := blk_cell HY.out 1
                rcases hs0 with h7 | ⟨h7, h8⟩
                · have h9 : ¬ 0 ≤ l := by omega
                  clear h7
                  go_wp2_with (first | ((with_reducible refine list_store 26 (.tmp 5) (.tmp 145) BS #[.int .i64 (j : Int), .slice u9 0 c9] 26 #[.int .i64 l, .slice u 0 c] ?hx ?hy ?hg ?hi ?ho ?h1 ?_); (case hx => rfl); (case hy => rfl); (case hg => exact HS.out); (case hi => exact sizeU); (case ho => rfl); (case h1 => simp [Value.oneCell']); intro ws h1 e1 g1; have HGn := hide (grown_spoil HG.out LS.out g1); have HTn := hide (box_type HT.out g1 (type_box HS.out) (by decide)); have ORn := hide (OR.out.type g1 (type_box HS.out) (by decide)); have OXn := hide (OX.out.type g1 (type_box HS.out) (by decide)); have HSn := hide (h1); clear HG HT OR OX HS; have HG := HGn; have HT := HTn; have OR := ORn; have OX := OXn; have HS := HSn; clear HGn HTn ORn OXn HSn h1 e1 g1) | fail)
                  go_roundw
                  case rel => exact ⟨j + 1, 0, (j : Int), [], u9, ru, c9, rc, by omega, by first | rfl | trivial, by first | rfl | trivial, by go_num, hide rfl, HI3, HT, HS, OX, OR, NX, HG⟩
                  case measure => simp [intOf]; omega
                · have h9 : 0 ≤ l := by omega
                  go_wp2_with (first | ((with_reducible refine list_store 26 (.tmp 5) (.tmp 145) BS #[.int .i64 (j : Int), .slice u9 0 c9] 26 #[.int .i64 l, .slice u 0 c] ?hx ?hy ?hg ?hi ?ho ?h1 ?_); (case hx => rfl); (case hy => rfl); (case hg => exact HS.out); (case hi => exact sizeU); (case ho => rfl); (case h1 => simp [Value.oneCell']); intro ws h1 e1 g1; have HGn := hide (grown_spoil HG.out LS.out g1); have HTn := hide (box_type HT.out g1 (type_box HS.out) (by decide)); have ORn := hide (OR.out.type g1 (type_box HS.out) (by decide)); have OXn := hide (OX.out.type g1 (type_box HS.out) (by decide)); have HSn := hide (h1); clear HG HT OR OX HS; have HG := HGn; have HT := HTn; have OR := ORn; have OX := OXn; have HS := HSn; clear HGn HTn ORn OXn HSn h1 e1 g1) | fail)
                  go_roundw
                  case rel => exact ⟨j + 1, 0, (j : Int), [], u9, ru, c9, rc, by omega, by first | rfl | trivial, by first | rfl | trivial, by go_num, hide rfl, HI3, HT, HS, OX, OR, NX, HG⟩
                  case measure => simp [intOf]; omega
              | cons q rest =>
                obtain ⟨M, hM⟩ : ∃ M, rest.length = M := ⟨_, rfl⟩
                have HM := hide hM
                obtain rfl : k = M + 1 := by rw [← HK.out, ← hM]; rfl
                clear hM HS1
                have cT0 : wv.cell? ⟨BT, 0, none⟩ = some (.int .i64 x0) := blk_cell HT.out 0
                have cT1 : wv.cell? ⟨BT, 1, none⟩ = some (.int .i64 x1) := blk_cell HT.out 1
                have cT2 : wv.cell? ⟨BT, 2, none⟩ = some (.int .i64 x2) := blk_cell HT.out 2
                have cT3 : wv.cell? ⟨BT, 3, none⟩ = some (.int .i64 x3) := blk_cell HT.out 3
                have cT4 : wv.cell? ⟨BT, 4, none⟩ = some (.int .i64 x4) := blk_cell HT.out 4
                have cT5 : wv.cell? ⟨BT, 5, none⟩ = some (.int .i64 x5) := blk_cell HT.out 5
                have cS0 : wv.cell? ⟨BS, 0, none⟩ = some (.int .i64 l) := blk_cell HS.out 0
                have cS1 : wv.cell? ⟨BS, 1, none⟩ = some (.slice u (M + 1) c) := blk_cell HS.out 1
                go_wp2_with (first | fail)
                have HSZ := hide HG.out.size
                have HLTR : Hid (∀ g, (.slice ru (M + 1) rc : Value).ownBlock = some g → g < wv.heap.size) := hide (fun g h => (World.ownsRow.lt OR.out g h).2)
                refine (rel_at (t := ⟨x0, x1, x2, x3, x4, x5⟩) (L := l) (v := .slice u (M + 1) c) (zs := q :: rest) (now := (j : Int)) (L' := (j : Int)) (D := q) (b := true) (zs' := rest) (N := M) _ OS.out.row HO.out.1 HO.out.2.1 HO.out.2.2 HM.out).mono ?_; rintro e w31 ⟨u9, c9, rfl, ho, hg⟩
                clear cT0 cT1 cT2 cT3 cT4 cT5 cS0 cS1
                have HGn := hide (grownBy_trans HG.out hg)
                have HTn := hide (box_grown HT.out hg (by simp))
                have HSn := hide (box_grown HS.out hg (by simp))
                have OSn := hide (OS.out.grown hg)
                have ORn := hide (OR.out.grown hg)
                clear HG HT HS OS OR
                have HG := HGn
                have HT := HTn
                have HS := HSn
                have OS := OSn
                have OR := ORn
                clear HGn HTn HSn OSn ORn
                clear hg
                have NX : Hid (Far (.slice u9 M c9) (.slice ru (M + 1) rc)) := hide (far_new ho (Nat.le_refl _) HLTR.out)
                have OX := hide (ho.base HSZ.out)
                clear ho HSZ HLTR
                go_upto_region 20 with (first | fail)
                have hg := World.grownBy_alloc w31 (.cells #[.int .i64 (j : Int), .slice u9 M c9] 26) none
                have HYq := hide (heap_alloc_new w31 (.cells #[.int .i64 (j : Int), .slice u9 M c9] 26))
                have LY := hide HG.out.size
                have HGn := hide (grownBy_trans HG.out hg)
                have HTn := hide (box_grown HT.out hg (by simp))
                have HSn := hide (box_grown HS.out hg (by simp))
                have OSn := hide (OS.out.grown hg)
                have ORn := hide (OR.out.grown hg)
                have OXn := hide (OX.out.grown hg)
                clear HG HT HS OS OR OX
                have HG := HGn
                have HT := HTn
                have HS := HSn
                have OS := OSn
                have OR := ORn
                have OX := OXn
                clear HGn HTn HSn OSn ORn OXn
                clear hg
                have HY := HYq
                clear HYq
                generalize hWx : w31.alloc (.cells #[.int .i64 (j : Int), .slice u9 M c9] 26) = w32 at *
                generalize hBx : w31.heap.size = BY at *
                clear hWx hBx
                clear OS NE
                obtain ⟨g, rfl, hgb, hcc, hcc2⟩ := own_cap (own_n HK.out OR.out) (by omega)
                have hr0 := OR.out.row
                obtain ⟨-, a2, cap2, e2, ha⟩ := hr0
                simp only [Value.slice.injEq] at e2
                obtain ⟨h2a, -, h2c⟩ := e2
                obtain ⟨g2, o2, h2b, -, hc⟩ := ha (by simp)
                rw [h2b] at h2a
                simp only [Option.some.injEq, Addr.mk.injEq, and_true] at h2a
                obtain ⟨rfl, rfl⟩ := h2a
                have cq : w32.cell? ⟨g, 0, none⟩ = some (.int .i64 q) := by have := hc 0 q rfl 0 _ rfl; simpa using this
                clear hc ha h2b h2c hgb hcc2
                have hMM : (0 : Int) < ((M + 1 : Nat) : Int) := by omega
                have hM1 : ¬ (((M + 1 : Nat) : Int) < 1) := by omega
                have cT3 : w32.cell? ⟨BT, 3, none⟩ = some (.int .i64 x3) := blk_cell HT.out 3
                by_cases hcap : rc = 1
                · skip
                  subst hcap
                  obtain rfl : M = 0 := by omega
                  go_wp2_with (first | (at_builtin; refine wpList_copyn (S := shN) _ rfl _ _ 24 rfl 3 _ 8 Try.underlying24 infoN rfl w32.heap.size w32.heap.size rfl (lit_own w32 3 1) _ rest rfl (row_tail1 (OR.out.row.grown (World.grownBy_alloc w32 (.cells #[] 3) none))) 0 HM.out (by omega) (by simp) ?_) | fail)
                  intro a3 c3 wt ho hgw
                  have T : Hid (TypeAt (w32.alloc (.cells #[] 3)) w32.heap.size 3) := hide (type_box (heap_alloc_new w32 _))
                  have HSZ := hide HG.out.size
                  have HXL : Hid (∀ g, (Value.slice u9 0 c9).ownBlock = some g → g < w32.heap.size) := hide (fun g h => (World.ownsRow.lt OX.out g h).2)
                  have HGn := hide (grown_spoil (grownBy_trans HG.out (World.grownBy_alloc w32 (.cells #[] 3) none)) HSZ.out hgw)
                  have HTn := hide (box_type (hp_up HT.out (.cells #[] 3)) hgw T.out (by decide))
                  have HSn := hide (box_type (hp_up HS.out (.cells #[] 3)) hgw T.out (by decide))
                  have HYn := hide (box_type (hp_up HY.out (.cells #[] 3)) hgw T.out (by decide))
                  have OXn := hide (n_own HM.out (World.ownsRow.kept (own_n HM.out (OX.out.grown (World.grownBy_alloc w32 (.cells #[] 3) none))) hgw (by
                    cases hv : (Value.slice u9 0 c9).ownBlock with
                    | none => exact .inl rfl
                    | some g5 => refine .inr fun e => ?_; have h5 := HXL.out g5 hv; simp only [Option.some.injEq] at e; omega)))
                  have NE2 : Hid (Far (.slice u9 0 c9) (.slice a3 0 c3)) := hide (fun g5 hg5 e => by
                    have h5 := HXL.out g5 hg5
                    have h6 := (World.ownsRow.lt ho g5 e).1
                    omega)
                  have ORn := hide ((n_own HM.out ho).base HSZ.out)
                  clear ho hgw T HXL HSZ HG HT HS HY OX OR NX cq cT3
                  have HG := HGn
                  have HT := HTn
                  have HS := HSn
                  have HY := HYn
                  have OX := OXn
                  have OR := ORn
                  clear HGn HTn HSn HYn OXn ORn
                  have cT0 : wt.cell? ⟨BT, 0, none⟩ = some (.int .i64 x0) := blk_cell HT.out 0
                  have cT1 : wt.cell? ⟨BT, 1, none⟩ = some (.int .i64 x1) := blk_cell HT.out 1
                  have cT2 : wt.cell? ⟨BT, 2, none⟩ = some (.int .i64 x2) := blk_cell HT.out 2
                  have cT3 : wt.cell? ⟨BT, 3, none⟩ = some (.int .i64 x3) := blk_cell HT.out 3
                  have cT4 : wt.cell? ⟨BT, 4, none⟩ = some (.int .i64 x4) := blk_cell HT.out 4
                  have cT5 : wt.cell? ⟨BT, 5, none⟩ = some (.int .i64 x5) := blk_cell HT.out 5
                  have cY0 : wt.cell? ⟨BY, 0, none⟩ = some (.int .i64 (j : Int)) := blk_cell HY.out 0
                  have cY1 : wt.cell? ⟨BY, 1, none⟩ = some (.slice u9 0 c9) := blk_cell HY.out 1
                  rcases hs0 with h7 | ⟨h7, h8⟩
                  · have h9 : ¬ 0 ≤ l := by omega
                    clear h7
                    go_wp2_with (first | ((with_reducible refine list_store 26 (.tmp 5) (.tmp 145) BS #[.int .i64 (j : Int), .slice u9 0 c9] 26 #[.int .i64 l, .slice u (0 + 1) c] ?hx ?hy ?hg ?hi ?ho ?h1 ?_); (case hx => rfl); (case hy => rfl); (case hg => exact HS.out); (case hi => exact sizeU); (case ho => rfl); (case h1 => simp [Value.oneCell']); intro ws h1 e1 g1; have HGn := hide (grown_spoil HG.out LS.out g1); have HTn := hide (box_type HT.out g1 (type_box HS.out) (by decide)); have ORn := hide (OR.out.type g1 (type_box HS.out) (by decide)); have OXn := hide (OX.out.type g1 (type_box HS.out) (by decide)); have HSn := hide (h1); clear HG HT OR OX HS; have HG := HGn; have HT := HTn; have OR := ORn; have OX := OXn; have HS := HSn; clear HGn HTn ORn OXn HSn h1 e1 g1) | fail)
                    go_roundw
                    case rel => exact ⟨j + 1, 0, (j : Int), rest, u9, a3, c9, c3, by omega, by first | rfl | trivial, by first | rfl | trivial, by go_num, HM, HI3, HT, HS, OX, OR, NE2, HG⟩
                    case measure => simp [intOf]; omega
                  · have h9 : 0 ≤ l := by omega
                    go_wp2_with (first | ((with_reducible refine list_store 26 (.tmp 5) (.tmp 145) BS #[.int .i64 (j : Int), .slice u9 0 c9] 26 #[.int .i64 l, .slice u (0 + 1) c] ?hx ?hy ?hg ?hi ?ho ?h1 ?_); (case hx => rfl); (case hy => rfl); (case hg => exact HS.out); (case hi => exact sizeU); (case ho => rfl); (case h1 => simp [Value.oneCell']); intro ws h1 e1 g1; have HGn := hide (grown_spoil HG.out LS.out g1); have HTn := hide (box_type HT.out g1 (type_box HS.out) (by decide)); have ORn := hide (OR.out.type g1 (type_box HS.out) (by decide)); have OXn := hide (OX.out.type g1 (type_box HS.out) (by decide)); have HSn := hide (h1); clear HG HT OR OX HS; have HG := HGn; have HT := HTn; have OR := ORn; have OX := OXn; have HS := HSn; clear HGn HTn ORn OXn HSn h1 e1 g1) | fail)
                    go_roundw
                    case rel => exact ⟨j + 1, 0, (j : Int), rest, u9, a3, c9, c3, by omega, by first | rfl | trivial, by first | rfl | trivial, by go_num, HM, HI3, HT, HS, OX, OR, NE2, HG⟩
                    case measure => simp [intOf]; omega
                · skip
                  have hcap2 : M + 1 ≤ rc ∧ rc ≠ 1 := ⟨hcc, hcap⟩
                  go_wp2_with (first | (at_builtin; refine wpList_copyn (S := shN) _ rfl _ _ 24 rfl 3 _ 8 Try.underlying24 infoN rfl w32.heap.size w32.heap.size rfl (lit_own w32 3 1) _ rest rfl (row_tail (OR.out.row.grown (World.grownBy_alloc w32 (.cells #[] 3) none))) M HM.out (by omega) (by simp) ?_) | fail)
                  intro a3 c3 wt ho hgw
                  have T : Hid (TypeAt (w32.alloc (.cells #[] 3)) w32.heap.size 3) := hide (type_box (heap_alloc_new w32 _))
                  have HSZ := hide HG.out.size
                  have HXL : Hid (∀ g, (Value.slice u9 M c9).ownBlock = some g → g < w32.heap.size) := hide (fun g h => (World.ownsRow.lt OX.out g h).2)
                  have HGn := hide (grown_spoil (grownBy_trans HG.out (World.grownBy_alloc w32 (.cells #[] 3) none)) HSZ.out hgw)
                  have HTn := hide (box_type (hp_up HT.out (.cells #[] 3)) hgw T.out (by decide))
                  have HSn := hide (box_type (hp_up HS.out (.cells #[] 3)) hgw T.out (by decide))
                  have HYn := hide (box_type (hp_up HY.out (.cells #[] 3)) hgw T.out (by decide))
                  have OXn := hide (n_own HM.out (World.ownsRow.kept (own_n HM.out (OX.out.grown (World.grownBy_alloc w32 (.cells #[] 3) none))) hgw (by
                    cases hv : (Value.slice u9 M c9).ownBlock with
                    | none => exact .inl rfl
                    | some g5 => refine .inr fun e => ?_; have h5 := HXL.out g5 hv; simp only [Option.some.injEq] at e; omega)))
                  have NE2 : Hid (Far (.slice u9 M c9) (.slice a3 M c3)) := hide (fun g5 hg5 e => by
                    have h5 := HXL.out g5 hg5
                    have h6 := (World.ownsRow.lt ho g5 e).1
                    omega)
                  have ORn := hide ((n_own HM.out ho).base HSZ.out)
                  clear ho hgw T HXL HSZ HG HT HS HY OX OR NX cq cT3
                  have HG := HGn
                  have HT := HTn
                  have HS := HSn
                  have HY := HYn
                  have OX := OXn
                  have OR := ORn
                  clear HGn HTn HSn HYn OXn ORn
                  have cT0 : wt.cell? ⟨BT, 0, none⟩ = some (.int .i64 x0) := blk_cell HT.out 0
                  have cT1 : wt.cell? ⟨BT, 1, none⟩ = some (.int .i64 x1) := blk_cell HT.out 1
                  have cT2 : wt.cell? ⟨BT, 2, none⟩ = some (.int .i64 x2) := blk_cell HT.out 2
                  have cT3 : wt.cell? ⟨BT, 3, none⟩ = some (.int .i64 x3) := blk_cell HT.out 3
                  have cT4 : wt.cell? ⟨BT, 4, none⟩ = some (.int .i64 x4) := blk_cell HT.out 4
                  have cT5 : wt.cell? ⟨BT, 5, none⟩ = some (.int .i64 x5) := blk_cell HT.out 5
                  have cY0 : wt.cell? ⟨BY, 0, none⟩ = some (.int .i64 (j : Int)) := blk_cell HY.out 0
                  have cY1 : wt.cell? ⟨BY, 1, none⟩ = some (.slice u9 M c9) := blk_cell HY.out 1
                  rcases hs0 with h7 | ⟨h7, h8⟩
                  · have h9 : ¬ 0 ≤ l := by omega
                    clear h7
                    go_wp2_with (first | ((with_reducible refine list_store 26 (.tmp 5) (.tmp 145) BS #[.int .i64 (j : Int), .slice u9 M c9] 26 #[.int .i64 l, .slice u (M + 1) c] ?hx ?hy ?hg ?hi ?ho ?h1 ?_); (case hx => rfl); (case hy => rfl); (case hg => exact HS.out); (case hi => exact sizeU); (case ho => rfl); (case h1 => simp [Value.oneCell']); intro ws h1 e1 g1; have HGn := hide (grown_spoil HG.out LS.out g1); have HTn := hide (box_type HT.out g1 (type_box HS.out) (by decide)); have ORn := hide (OR.out.type g1 (type_box HS.out) (by decide)); have OXn := hide (OX.out.type g1 (type_box HS.out) (by decide)); have HSn := hide (h1); clear HG HT OR OX HS; have HG := HGn; have HT := HTn; have OR := ORn; have OX := OXn; have HS := HSn; clear HGn HTn ORn OXn HSn h1 e1 g1) | fail)
                    go_roundw
                    case rel => exact ⟨j + 1, M, (j : Int), rest, u9, a3, c9, c3, by omega, by first | rfl | trivial, by first | rfl | trivial, by go_num, HM, HI3, HT, HS, OX, OR, NE2, HG⟩
                    case measure => simp [intOf]; omega
                  · have h9 : 0 ≤ l := by omega
                    go_wp2_with (first | ((with_reducible refine list_store 26 (.tmp 5) (.tmp 145) BS #[.int .i64 (j : Int), .slice u9 M c9] 26 #[.int .i64 l, .slice u (M + 1) c] ?hx ?hy ?hg ?hi ?ho ?h1 ?_); (case hx => rfl); (case hy => rfl); (case hg => exact HS.out); (case hi => exact sizeU); (case ho => rfl); (case h1 => simp [Value.oneCell']); intro ws h1 e1 g1; have HGn := hide (grown_spoil HG.out LS.out g1); have HTn := hide (box_type HT.out g1 (type_box HS.out) (by decide)); have ORn := hide (OR.out.type g1 (type_box HS.out) (by decide)); have OXn := hide (OX.out.type g1 (type_box HS.out) (by decide)); have HSn := hide (h1); clear HG HT OR OX HS; have HG := HGn; have HT := HTn; have OR := ORn; have OX := OXn; have HS := HSn; clear HGn HTn ORn OXn HSn h1 e1 g1) | fail)
                    go_roundw
                    case rel => exact ⟨j + 1, M, (j : Int), rest, u9, a3, c9, c3, by omega, by first | rfl | trivial, by first | rfl | trivial, by go_num, HM, HI3, HT, HS, OX, OR, NE2, HG⟩
                    case measure => simp [intOf]; omega
      · skip
        go_wp2
        go_ret
        exact ⟨rfl, HG.out⟩
theorem taskApart_any (t : TaskV) (pa : Option Addr) (n pcap : Nat) (ps : List Int) (w : World) (hv : RowAt shN 0 w (.slice pa n pcap) ps) : Calls Try.prog 4 #[taskVal t, .slice pa n pcap] w fun e w' => e = .returned (.bool true) ∧ w.grownBy w' none := taskApart_from t pa n pcap ps w w (grownBy_refl _ _) hv
#print axioms taskApart_any
end Go.Proofs.Ytephnppanbckkaa
