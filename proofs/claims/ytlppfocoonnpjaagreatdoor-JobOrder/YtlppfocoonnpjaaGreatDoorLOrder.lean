/- The walk of the statement JobOrder: the least Prio runs first; proved over the translation. -/
import Derived.Test.YtlppfocoonnpjaaGreatDoorAw14
import Derived.Test.YtlppfocoonnpjaaGreatDoorQh
import Derived.Test.YtlppfocoonnpjaaGreatDoorOrMath
namespace Go.Proofs.YtlppfocoonnpjaaGreatDoor.L
open Go.RowKit
open Go.Proofs.YtlppfocoonnpjaaGreatDoor.J (JobV jobAt jobVal shJ blk_cell blk_free blk_set box_lt box_grown type_box type_own own_type own_mono row_cell take_put one_at step_appd)
attribute [local go_sem] alloc_drewN setCell_drewN

theorem infoTk : (Tryz.prog.info? 73).map (fun i => (i.zero, i.size, i.bytes)) = some (some (.agg #[.int .i64 0, .int .i64 0, .int .i64 0, .int .i64 0, .int .i64 0, .int .i64 0]), 6, 48) := by kernel_rfl
set_option maxRecDepth 100000 in
set_option maxHeartbeats 16000000 in
theorem order_any (v1 : Value) (rs : List Int) (dem : Int) (w : World) (h1 : RowAt U.shN 0 w v1 rs) (hT : Tab w) : Calls Tryz.prog 6 #[v1, .int .i64 dem] w fun e w' => e = .returned (.bool true) ∧ w.grownBy w' none := by
  have HR1 := hide h1
  obtain ⟨hl1, b1, d1, he1, -⟩ := id h1
  subst he1
  have HT := hide (fun V (hg : w.grownBy V none) => hT.grown hg)
  clear h1 hT
  generalize hn1 : rs.length = n1 at *
  have HN1 := hide hn1
  clear hn1
  obtain ⟨dn, hdn, edn⟩ := and2 dem
  have hwd : IntKind.i64.wrap (1 + (dn : Int)) = 1 + dn := by rw [IntKind.wrap_i64]; omega
  have CA := hide (fun V hT => awake_any V hT)
  have HG := hide (grownBy_refl w none)
  go_enter Tryz.func6, Tryz.ntmps6
  go_wp2_with (first | (go_at_call 13; refine (num_any _ _).mono ?_; rintro e w' ⟨rfl, rfl⟩) | fail)
  refine (CA.out _ (HT.out _ HG.out)).mono ?_; rintro e W1 ⟨rfl, hg⟩
  have HGn := hide (grownBy_trans HG.out hg)
  clear HG
  have HG := HGn
  clear HGn
  clear hg
  go_upto_region 4 with (first | fail)
  have hg := World.grownBy_alloc W1 (.cells #[.int .i64 0, .slice none 0 0, .slice none 0 0] 25) none
  have HPq := hide (heap_alloc_new W1 (.cells #[.int .i64 0, .slice none 0 0, .slice none 0 0] 25))
  have LP := hide (show w.heap.size ≤ W1.heap.size from HG.out.size)
  have HGn := hide (grownBy_trans HG.out hg)
  clear HG
  have HG := HGn
  clear HGn
  clear hg
  have HP := HPq
  clear HPq
  generalize W1.alloc (.cells #[.int .i64 0, .slice none 0 0, .slice none 0 0] 25) = W2 at *
  generalize hBx : W1.heap.size = BP at *
  clear hBx
  have c0 := blk_cell HP.out 0
  have f0 := blk_free HP.out 0
  go_upto_region 5 with (first | fail)
  clear c0 f0
  have hgs := grownBy_set W2 BP 0 (.int .i64 1)
  have HPn : Hid ((W2.setCell ⟨BP, 0, none⟩ (.int .i64 1)).heap[BP]? = some (.cells #[.int .i64 1, .slice none 0 0, .slice none 0 0] 25 (0, 0))) := hide (blk_set HP.out (by rfl))
  have HGn := hide (grown_spoil HG.out LP.out hgs)
  clear HP HG hgs
  have HP := HPn
  have HG := HGn
  clear HPn HGn
  generalize (W2.setCell ⟨BP, 0, none⟩ (.int .i64 1)) = W3 at *
  have HO := hide (show W3.ownsRow w.heap.size 73 6 (.slice none 0 0) 0 (shT.cells []) from World.ownsRow_nil _ _ _ _)
  have HTS := hide orT_nil
  have HTL := hide (show ([] : List TaskV).length = 0 from rfl)
  go_wp2_with (first | fail)
  go_loopw [6] (fun i V => ∃ (n : Nat) (ts : List TaskV) (at0 : Option Addr) (ct0 : Nat), n ≤ 5 ∧ i = .int .i64 n ∧ Hid (OrT ts) ∧ Hid (ts.length = n) ∧ Hid (V.heap[BP]? = some (.cells #[.int .i64 1, .slice at0 n ct0, .slice none 0 0] 25 (0, 0))) ∧ Hid (V.ownsRow w.heap.size 73 6 (.slice at0 n ct0) n (shT.cells ts)) ∧ Hid (w.grownBy V none)) (fun i _ => 5 - (intOf i).toNat)
  case atStart => exact ⟨0, [], none, 0, by omega, rfl, HTS, HTL, HP, HO, HG⟩
  case round =>
    clear HTS HTL HP HO HG
    obtain ⟨n, ts, at0, ct0, hn, rfl, HTS, HTL, HP, HO, HG⟩ := hrel
    go_upto_region 6 with (first | fail)
    go_cut [26] (fun bb W => ∃ x : Bool, bb = .bool x ∧ W = wr ∧ Hid (x = true → n < n1 ∧ n < 5))
    case first =>
      by_cases hn1 : n < n1
      · have hni : (n : Int) < n1 := by omega
        by_cases hn5 : n < 5
        · have hn5i : (n : Int) < 5 := by omega
          go_wp2
          go_meet
          case rel => exact ⟨true, rfl, rfl, hide (fun _ => ⟨hn1, hn5⟩)⟩
        · have hn5i : ¬((n : Int) < 5) := by omega
          go_wp2
          go_meet
          case rel => exact ⟨false, rfl, rfl, hide (fun h => by cases h)⟩
      · have hni : ¬((n : Int) < n1) := by omega
        go_wp2
        go_meet
        case rel => exact ⟨false, rfl, rfl, hide (fun h => by cases h)⟩
    case rest =>
      obtain ⟨x, rfl, rfl, HXN⟩ := hcut
      obtain ⟨wq, hwq⟩ : ∃ y, y = wc := ⟨_, rfl⟩
      subst hwq
      go_upto_if 26 with fail
      cases x with
      | true =>
        obtain ⟨hn1, hn5⟩ := HXN.out rfl
        clear HXN
        have hni : (n : Int) < n1 := by omega
        have hn5i : (n : Int) < 5 := by omega
        have hn0 : ¬((n : Int) < 0) := by omega
        obtain ⟨g1, o1, had⟩ := J.row_addr HR1.out (by omega)
        subst had
        obtain ⟨z, hz⟩ : ∃ z, rs[n]? = some z := ⟨_, List.getElem?_eq_getElem (by rw [HN1.out]; exact hn1)⟩
        have HCZ := hide (fun V (hg : w.grownBy V none) => (show V.cell? ⟨g1, o1 + n, none⟩ = some (.int .i64 z) from by have := row_cell (S := U.shN) (j := n) (HR1.out.grown hg) hz (k := 0) rfl; have e9 : o1 + n * U.shN.k + 0 = o1 + n := (by show o1 + n * 1 + 0 = o1 + n; omega); rw [e9] at this; exact this))
        clear hz
        obtain ⟨c, hc, ec⟩ := and5 z
        have hw8 : IntKind.i64.wrap ((c : Int) * 8) = 8 * (c : Int) := by rw [IntKind.wrap_i64]; omega
        have hw9 : IntKind.i64.wrap (8 * (c : Int) + n) = 8 * (c : Int) + n := by rw [IntKind.wrap_i64]; omega
        go_upto_region 8 with (first | fail)
        refine wp_region_held_drew (S := fun V => V.cell? ⟨g1, o1 + n, none⟩ = some (.int .i64 z)) (by kernel_rfl) (HCZ.out _ (grownBy_trans HG.out (grownBy_draws wq 1 none))) (fun hHeld => ?_)
        have hgd := grownBy_draws wq 1 none
        have HPd := hide (box_grown HP.out hgd (by simp))
        have HOd := hide (own_kept HO.out hgd)
        have HGd := hide (grownBy_trans HG.out hgd)
        have hdd : wq.drewN 1 = wq.drew := rfl
        rw [hdd] at HPd HOd HGd
        clear hdd hgd HP HO HG
        have HP := HPd
        have HO := HOd
        have HG := HGd
        clear HPd HOd HGd
        generalize wq.drew = V0 at *
        refine take_put (i := 0) (v := .pointer (some ⟨BP, 1, none⟩)) 29 rfl rfl (by kernel_rfl) (by kernel_rfl) (by kernel_rfl) (fun _ _ _ h => h) (Or.inl ⟨by rfl, by intro Wy hSW; go_simp⟩) (by assumption) ?_
        (try simp only [Act.put, List.setIfInBounds_toArray, List.set_cons_zero, List.set_cons_succ])
        refine take_put (i := 2) (v := .slice (some ⟨g1, o1, none⟩) n1 d1) 31 rfl rfl (by kernel_rfl) (by kernel_rfl) (by kernel_rfl) (fun _ _ _ h => h) (Or.inl ⟨by rfl, by intro Wy hSW; go_simp⟩) (by assumption) ?_
        (try simp only [Act.put, List.setIfInBounds_toArray, List.set_cons_zero, List.set_cons_succ])
        refine take_put (i := 3) (v := .int .i64 n) 32 rfl rfl (by kernel_rfl) (by kernel_rfl) (by kernel_rfl) (fun _ _ _ h => h) (Or.inl ⟨by rfl, by intro Wy hSW; go_simp⟩) (by assumption) ?_
        (try simp only [Act.put, List.setIfInBounds_toArray, List.set_cons_zero, List.set_cons_succ])
        refine take_put (i := 4) (v := .pointer (some ⟨g1, o1 + n, none⟩)) 33 rfl rfl (by kernel_rfl) (by kernel_rfl) (by kernel_rfl) (fun _ _ _ h => h) (Or.inl ⟨by rfl, by intro Wy hSW; go_simp⟩) (by assumption) ?_
        (try simp only [Act.put, List.setIfInBounds_toArray, List.set_cons_zero, List.set_cons_succ])
        refine take_put (i := 5) (v := .int .i64 z) 34 rfl rfl (by kernel_rfl) (by kernel_rfl) (by kernel_rfl) (fun _ _ _ h => h) (Or.inl ⟨by rfl, by intro Wy hSW; have hc := hSW; go_simp⟩) (by assumption) ?_
        (try simp only [Act.put, List.setIfInBounds_toArray, List.set_cons_zero, List.set_cons_succ])
        refine take_put (i := 6) (v := .int .i64 c) 35 rfl rfl (by kernel_rfl) (by kernel_rfl) (by kernel_rfl) (fun _ _ _ h => h) (Or.inl ⟨by rfl, by intro Wy hSW; go_simp⟩) (by assumption) ?_
        (try simp only [Act.put, List.setIfInBounds_toArray, List.set_cons_zero, List.set_cons_succ])
        refine take_put (i := 7) (v := .int .i64 (8 * (c : Int))) 36 rfl rfl (by kernel_rfl) (by kernel_rfl) (by kernel_rfl) (fun _ _ _ h => h) (Or.inl ⟨by rfl, by intro Wy hSW; go_simp⟩) (by assumption) ?_
        (try simp only [Act.put, List.setIfInBounds_toArray, List.set_cons_zero, List.set_cons_succ])
        refine take_put (i := 8) (v := .int .i64 n) 37 rfl rfl (by kernel_rfl) (by kernel_rfl) (by kernel_rfl) (fun _ _ _ h => h) (Or.inl ⟨by rfl, by intro Wy hSW; go_simp⟩) (by assumption) ?_
        (try simp only [Act.put, List.setIfInBounds_toArray, List.set_cons_zero, List.set_cons_succ])
        refine take_put (i := 9) (v := .int .i64 (8 * (c : Int) + n)) 38 rfl rfl (by kernel_rfl) (by kernel_rfl) (by kernel_rfl) (fun _ _ _ h => h) (Or.inl ⟨by rfl, by intro Wy hSW; go_simp⟩) (by assumption) ?_
        (try simp only [Act.put, List.setIfInBounds_toArray, List.set_cons_zero, List.set_cons_succ])
        refine take_put (i := 10) (v := .agg #[.int .i64 1, .int .i64 90, .int .i64 90, .int .i64 9, .int .i64 9, .int .i64 (8 * (c : Int) + n)]) 39 rfl rfl (by kernel_rfl) (by kernel_rfl) (by kernel_rfl) (fun _ _ _ h => h) (Or.inl ⟨by rfl, by intro Wy hSW; go_simp⟩) (by assumption) ?_
        (try simp only [Act.put, List.setIfInBounds_toArray, List.set_cons_zero, List.set_cons_succ])
        refine wpAnyH_ready (rs := [1, 11]) (by kernel_rfl) (by simp) ?_
        refine AllReadyH.cons rfl (fun Kx hKx => ?_) (AllReadyH.cons rfl (fun Kx hKx => ?_) AllReadyH.nil)
        · skip
          have j1 := blk_cell HP.out 1
          go_simp
          clear j1 hHeld
          refine hKx.out _ _ (HCZ.out _ HG.out) (fun hHeld => ?_)
          clear hKx Kx
          (try simp only [Act.put])
          refine wpAnyH_ready (rs := [11]) (by kernel_rfl) (by simp) ?_
          refine AllReadyH.cons rfl (fun Kx hKx => ?_) AllReadyH.nil
          go_simp
          have hg := World.grownBy_alloc V0 (.cells #[.int .i64 1, .int .i64 90, .int .i64 90, .int .i64 9, .int .i64 9, .int .i64 (8 * (c : Int) + n)] 73) none
          have HLT := hide (heap_alloc_new V0 (.cells #[.int .i64 1, .int .i64 90, .int .i64 90, .int .i64 9, .int .i64 9, .int .i64 (8 * (c : Int) + n)] 73))
          have HPn := hide (box_grown HP.out hg (by simp))
          have HOn := hide (own_kept HO.out hg)
          have HGn := hide (grownBy_trans HG.out hg)
          clear hg
          clear hHeld HP HO HG
          have HP := HPn
          have HO := HOn
          have HG := HGn
          clear HPn HOn HGn
          refine hKx.out _ _ (HCZ.out _ HG.out) (fun hHeld => ?_)
          clear hKx Kx
          (try simp only [Act.put])
          generalize V0.alloc (.cells #[.int .i64 1, .int .i64 90, .int .i64 90, .int .i64 9, .int .i64 9, .int .i64 (8 * (c : Int) + n)] 73) = V2 at *
          generalize V0.heap.size = gl at *
          refine wpAnyH_ready (rs := [12]) (by kernel_rfl) (by simp) ?_
          refine AllReadyH.cons rfl (fun Kx hKx => ?_) AllReadyH.nil
          have HSZ := hide HG.out.size
          have hown := HO.out
          refine step_appd (S := shT) _ rfl (.tmp 30) (.tmp 40) 22 rfl 73 (.agg #[.int .i64 0, .int .i64 0, .int .i64 0, .int .i64 0, .int .i64 0, .int .i64 0]) 48 Tryz.underlying22 infoTk rfl w.heap.size (.slice at0 n ct0) n ts rfl hown ⟨gl, 0, none⟩ 1 1 [(⟨1, 90, 90, 9, 9, 8 * (c : Int) + n⟩ : TaskV)] rfl rfl (one_at shT (⟨1, 90, 90, 9, 9, 8 * (c : Int) + n⟩ : TaskV) HLT.out) (by omega) (by omega) HSZ.out 41 rfl ?_
          intro a2 c2 V3 ho hgw
          have HGn := hide (J.grown_own HG.out (fun g hg => (World.ownsRow.lt hown g hg).1) hgw)
          have HPn := hide (J.box_app HP.out hown hgw (by decide))
          have HOn := hide (show V3.ownsRow w.heap.size 73 6 (.slice a2 (n + 1) c2) (n + 1) (shT.cells (ts ++ [tO (8 * (c : Int) + n)])) from ho)
          clear ho hgw hown HLT HSZ
          clear hHeld HP HO HG
          have HP := HPn
          have HO := HOn
          have HG := HGn
          clear HPn HOn HGn
          refine hKx.out _ _ (HCZ.out _ HG.out) (fun hHeld => ?_)
          clear hKx Kx
          (try simp only [Act.put])
          refine take_put (i := 13) (v := .pointer (some ⟨BP, 1, none⟩)) 42 rfl rfl (by kernel_rfl) (by kernel_rfl) (by kernel_rfl) (fun _ _ _ h => h) (Or.inl ⟨by rfl, by intro Wy hSW; go_simp⟩) (by assumption) ?_
          (try simp only [Act.put, List.setIfInBounds_toArray, List.set_cons_zero, List.set_cons_succ])
          refine wpAnyH_ready (rs := [14]) (by kernel_rfl) (by simp) ?_
          refine AllReadyH.cons rfl (fun Kx hKx => ?_) AllReadyH.nil
          have j1 := blk_cell HP.out 1
          have f1 := blk_free HP.out 1
          go_simp
          clear j1 f1
          have hgs := grownBy_set V3 BP 1 (.slice a2 (n + 1) c2)
          have HPn : Hid ((V3.setCell ⟨BP, 1, none⟩ (.slice a2 (n + 1) c2)).heap[BP]? = some (.cells #[.int .i64 1, .slice a2 (n + 1) c2, .slice none 0 0] 25 (0, 0))) := hide (blk_set HP.out (by rfl))
          have HOn := hide (own_type HO.out hgs (type_box HP.out) (by decide))
          have HGn := hide (grown_spoil HG.out LP.out hgs)
          clear hgs
          clear hHeld HP HO HG
          have HP := HPn
          have HO := HOn
          have HG := HGn
          clear HPn HOn HGn
          refine hKx.out _ _ (HCZ.out _ HG.out) (fun hHeld => ?_)
          clear hKx Kx
          (try simp only [Act.put])
          generalize (V3.setCell ⟨BP, 1, none⟩ (.slice a2 (n + 1) c2)) = V4 at *
          refine wpAnyH_done (by kernel_rfl) ?_ _
          clear hHeld
          clear HCZ ec hw8 hw9
          go_wp2
          go_roundw
          case rel => exact ⟨n + 1, _, a2, c2, by omega, by first | rfl | go_num, hide (by have h9 := orT_snoc HTS.out (by rw [HTL.out]; exact hn5) hc; rw [HTL.out] at h9; exact h9), hide (by rw [List.length_append, HTL.out]; rfl), HP, HO, HG⟩
          case measure => first | (simp [intOf]; omega) | simp [intOf]
        · skip
          go_simp
          have hg := World.grownBy_alloc V0 (.cells #[.int .i64 1, .int .i64 90, .int .i64 90, .int .i64 9, .int .i64 9, .int .i64 (8 * (c : Int) + n)] 73) none
          have HLT := hide (heap_alloc_new V0 (.cells #[.int .i64 1, .int .i64 90, .int .i64 90, .int .i64 9, .int .i64 9, .int .i64 (8 * (c : Int) + n)] 73))
          have HPn := hide (box_grown HP.out hg (by simp))
          have HOn := hide (own_kept HO.out hg)
          have HGn := hide (grownBy_trans HG.out hg)
          clear hg
          clear hHeld HP HO HG
          have HP := HPn
          have HO := HOn
          have HG := HGn
          clear HPn HOn HGn
          refine hKx.out _ _ (HCZ.out _ HG.out) (fun hHeld => ?_)
          clear hKx Kx
          (try simp only [Act.put])
          generalize V0.alloc (.cells #[.int .i64 1, .int .i64 90, .int .i64 90, .int .i64 9, .int .i64 9, .int .i64 (8 * (c : Int) + n)] 73) = V5 at *
          generalize V0.heap.size = gl at *
          refine wpAnyH_ready (rs := [1]) (by kernel_rfl) (by simp) ?_
          refine AllReadyH.cons rfl (fun Kx hKx => ?_) AllReadyH.nil
          have j1 := blk_cell HP.out 1
          go_simp
          clear j1 hHeld
          refine hKx.out _ _ (HCZ.out _ HG.out) (fun hHeld => ?_)
          clear hKx Kx
          (try simp only [Act.put])
          refine wpAnyH_ready (rs := [12]) (by kernel_rfl) (by simp) ?_
          refine AllReadyH.cons rfl (fun Kx hKx => ?_) AllReadyH.nil
          have HSZ := hide HG.out.size
          have hown := HO.out
          refine step_appd (S := shT) _ rfl (.tmp 30) (.tmp 40) 22 rfl 73 (.agg #[.int .i64 0, .int .i64 0, .int .i64 0, .int .i64 0, .int .i64 0, .int .i64 0]) 48 Tryz.underlying22 infoTk rfl w.heap.size (.slice at0 n ct0) n ts rfl hown ⟨gl, 0, none⟩ 1 1 [(⟨1, 90, 90, 9, 9, 8 * (c : Int) + n⟩ : TaskV)] rfl rfl (one_at shT (⟨1, 90, 90, 9, 9, 8 * (c : Int) + n⟩ : TaskV) HLT.out) (by omega) (by omega) HSZ.out 41 rfl ?_
          intro a2 c2 V7 ho hgw
          have HGn := hide (J.grown_own HG.out (fun g hg => (World.ownsRow.lt hown g hg).1) hgw)
          have HPn := hide (J.box_app HP.out hown hgw (by decide))
          have HOn := hide (show V7.ownsRow w.heap.size 73 6 (.slice a2 (n + 1) c2) (n + 1) (shT.cells (ts ++ [tO (8 * (c : Int) + n)])) from ho)
          clear ho hgw hown HLT HSZ
          clear hHeld HP HO HG
          have HP := HPn
          have HO := HOn
          have HG := HGn
          clear HPn HOn HGn
          refine hKx.out _ _ (HCZ.out _ HG.out) (fun hHeld => ?_)
          clear hKx Kx
          (try simp only [Act.put])
          refine take_put (i := 13) (v := .pointer (some ⟨BP, 1, none⟩)) 42 rfl rfl (by kernel_rfl) (by kernel_rfl) (by kernel_rfl) (fun _ _ _ h => h) (Or.inl ⟨by rfl, by intro Wy hSW; go_simp⟩) (by assumption) ?_
          (try simp only [Act.put, List.setIfInBounds_toArray, List.set_cons_zero, List.set_cons_succ])
          refine wpAnyH_ready (rs := [14]) (by kernel_rfl) (by simp) ?_
          refine AllReadyH.cons rfl (fun Kx hKx => ?_) AllReadyH.nil
          have j1 := blk_cell HP.out 1
          have f1 := blk_free HP.out 1
          go_simp
          clear j1 f1
          have hgs := grownBy_set V7 BP 1 (.slice a2 (n + 1) c2)
          have HPn : Hid ((V7.setCell ⟨BP, 1, none⟩ (.slice a2 (n + 1) c2)).heap[BP]? = some (.cells #[.int .i64 1, .slice a2 (n + 1) c2, .slice none 0 0] 25 (0, 0))) := hide (blk_set HP.out (by rfl))
          have HOn := hide (own_type HO.out hgs (type_box HP.out) (by decide))
          have HGn := hide (grown_spoil HG.out LP.out hgs)
          clear hgs
          clear hHeld HP HO HG
          have HP := HPn
          have HO := HOn
          have HG := HGn
          clear HPn HOn HGn
          refine hKx.out _ _ (HCZ.out _ HG.out) (fun hHeld => ?_)
          clear hKx Kx
          (try simp only [Act.put])
          generalize (V7.setCell ⟨BP, 1, none⟩ (.slice a2 (n + 1) c2)) = V8 at *
          refine wpAnyH_done (by kernel_rfl) ?_ _
          clear hHeld
          clear HCZ ec hw8 hw9
          go_wp2
          go_roundw
          case rel => exact ⟨n + 1, _, a2, c2, by omega, by first | rfl | go_num, hide (by have h9 := orT_snoc HTS.out (by rw [HTL.out]; exact hn5) hc; rw [HTL.out] at h9; exact h9), hide (by rw [List.length_append, HTL.out]; rfl), HP, HO, HG⟩
          case measure => first | (simp [intOf]; omega) | simp [intOf]
      | false =>
        clear HXN
        have b0 := blk_cell HP.out 0
        have b1 := blk_cell HP.out 1
        have b2 := blk_cell HP.out 2
        go_wp2_with (first | fail)
        clear b0 b1 b2
        have HPI : Hid (PartIs 0 wq ⟨1, at0, n, ct0, none, 0, 0⟩ ⟨1, ts, []⟩) := hide ⟨rfl, RowAt.mono (rowAt_own (S := shT) (xs := ts) (by rw [HTL.out]; exact HO.out)) (Nat.zero_le _), rowAt_nil _ _ _ _⟩
        have HOK := hide (order_ok HTS.out)
        refine (lnew 0 HG.out (HT.out _ HG.out) HPI.out HOK.out).mono ?_; rintro e W9 ⟨b, rfl, hX, hg, hg2⟩
        have HX := hide hX
        have HPn := hide (box_grown HP.out hg2 (by simp))
        have HOn := hide (own_kept HO.out hg2)
        have HGn := hide hg
        clear hX hg hg2 HP HO HG HPI HOK
        have HP := HPn
        have HO := HOn
        have HG := HGn
        clear HPn HOn HGn CA HT
        have HOI := hide (oi_new (d := 1 + (dn : Int)) HX.out.fine)
        go_wp2_with (first | (go_at_call 13; refine (num_any _ _).mono ?_; rintro e w' ⟨rfl, rfl⟩) | fail)
        go_loopw [10] (fun i V => ∃ (m : Nat) (L : LocV), m ≤ n ∧ i = .int .i64 m ∧ Hid (PX w V b L (6 * m)) ∧ Hid (OI ts (1 + (dn : Int)) L m (6 * m)) ∧ Hid (V.heap[BP]? = some (.cells #[.int .i64 1, .slice at0 n ct0, .slice none 0 0] 25 (0, 0))) ∧ Hid (V.ownsRow w.heap.size 73 6 (.slice at0 n ct0) n (shT.cells ts)) ∧ Hid (w.grownBy V none)) (fun i _ => n - (intOf i).toNat)
        case atStart => exact ⟨0, _, by omega, rfl, HX, HOI, HP, HO, HG⟩
        case round =>
          clear HX HOI HP HO HG
          obtain ⟨m, L, hm, rfl, HX, HOI, HP, HO, HG⟩ := hrel
          have b1 := blk_cell HP.out 1
          by_cases hlt : m < n
          · have hmi : (m : Int) < n := by omega
            have HS := hide (oi_step HTS.out HOI.out (by rw [HTL.out]; exact hlt) (show 1 ≤ 1 + (dn : Int) by omega) (show 1 + (dn : Int) ≤ 4 by omega))
            obtain ⟨L1, hL1⟩ : ∃ K, pickL L (m : Int) (1 + (dn : Int)) (m : Int) = K := ⟨_, rfl⟩
            rw [hL1] at HS
            have HL1 := hide hL1
            clear hL1
            obtain ⟨L2, hL2⟩ : ∃ K, beginL L1 (m : Int) = K := ⟨_, rfl⟩
            rw [hL2] at HS
            have HL2 := hide hL2
            clear hL2
            obtain ⟨es, hes⟩ : ∃ es, beginV L1 (m : Int) = es := ⟨_, rfl⟩
            have HES := hide hes
            clear hes
            obtain ⟨ln, hln⟩ : ∃ k, es.length = k := ⟨_, rfl⟩
            have HLN := hide hln
            clear hln
            go_wp2_with (first | fail)
            clear b1
            refine (lpick (m : Int) (1 + (dn : Int)) (m : Int) HG.out HX.out HS.out.1 HL1.out HS.out.2.1 (ln := 0) rfl).mono ?_; rintro e Wp ⟨ap, cp, rfl, hX, ho, hg, hkp⟩
            have HX1 := hide hX
            have HP1 := hide (hkp.box HP.out (by decide) (by decide) (by decide))
            have HO1 := hide (hkp.row HO.out (by decide) (by decide) (by decide))
            have HG1 := hide hg
            clear hX ho hg hkp HX HP HO HG
            go_wp2_with (first | fail)
            refine (lbegin (m : Int) HG1.out HX1.out (by omega) (N := 0) (by unfold beginN; rw [if_pos (tick_of (by omega) (by omega))]) HL2.out HES.out HLN.out).mono ?_; rintro e Wb ⟨ab, cb, rfl, hX, ho, hg, hkp⟩
            have HX := hide hX
            have HP := hide (hkp.box HP1.out (by decide) (by decide) (by decide))
            have HO := hide (hkp.row HO1.out (by decide) (by decide) (by decide))
            have HG := hide hg
            clear hX ho hg hkp HX1 HP1 HO1 HG1 HES HLN HL1 HL2 HOI
            obtain ⟨lj, hlj⟩ : ∃ k, L2.jobs.length = k := ⟨_, rfl⟩
            have HLJ := hide hlj
            clear hlj
            have HLM := hide (show lj = m + 1 by rw [← HLJ.out]; exact HS.out.2.2.len)
            have hcw : (m : Int) + 1 = lj := by have := HLM.out; omega
            go_wp2_with (first | fail)
            refine (ljobs HG.out HX.out HLJ.out).mono ?_; rintro e Wj ⟨aj, cj, rfl, ho, hX, hg, hg2⟩
            have HX1 := hide hX
            have HP1 := hide (box_grown HP.out hg2 (by simp))
            have HO1 := hide (own_kept HO.out hg2)
            have HG1 := hide hg
            have HJ := hide ho.row
            clear ho hX hg hg2 HX HP HO HG
            go_wp2_with (first | fail)
            clear hcw
            obtain ⟨gj, oj, haj⟩ := J.row_addr (n := lj) (show RowAt shJ w.heap.size Wj (.slice aj lj cj) L2.jobs from HJ.out) (by have := HLM.out; omega)
            subst haj
            obtain ⟨ga, oa, haa⟩ := J.row_addr (S := shT) (n := n) (xs := ts) (rowAt_own (S := shT) (xs := ts) (by rw [HTL.out]; exact HO1.out)) (by omega)
            subst haa
            go_loopw [12] (fun k V => ∃ (k4 : Nat), k4 ≤ m + 1 ∧ k = .int .i64 k4 ∧ Hid (PX w V b L2 (6 * m + 6)) ∧ Hid (RowAt shJ w.heap.size V (.slice (some ⟨gj, oj, none⟩) lj cj) L2.jobs) ∧ Hid (V.heap[BP]? = some (.cells #[.int .i64 1, .slice (some ⟨ga, oa, none⟩) n ct0, .slice none 0 0] 25 (0, 0))) ∧ Hid (V.ownsRow w.heap.size 73 6 (.slice (some ⟨ga, oa, none⟩) n ct0) n (shT.cells ts)) ∧ Hid (w.grownBy V none)) (fun k _ => m + 1 - (intOf k).toNat)
            case atStart => exact ⟨0, by omega, rfl, HX1, HJ, HP1, HO1, HG1⟩
            case round =>
              clear HX1 HJ HP1 HO1 HG1
              obtain ⟨k4, hk4, rfl, HX, HJ, HP, HO, HG⟩ := hrel
              by_cases hk4m : k4 ≤ m
              · have hk4i : (k4 : Int) ≤ m := by omega
                have hk40 : ¬((k4 : Int) < 0) := by omega
                have hk4n : (k4 : Int) < n := by omega
                have hlj0 : (0 : Int) < lj := by have := HLM.out; omega
                have hljn : ¬(lj = 0) := by have := HLM.out; omega
                obtain ⟨t4, ht4⟩ : ∃ t, ts[k4]? = some t := ⟨_, List.getElem?_eq_getElem (by rw [HTL.out]; omega)⟩
                obtain ⟨j0, hj0⟩ : ∃ j, L2.jobs[0]? = some j := ⟨_, List.getElem?_eq_getElem (by rw [HLJ.out]; have := HLM.out; omega)⟩
                have hnp : ¬(t4.prio < j0.prio) := by have h1 := oi_head HS.out.2.2 (k := k4) (by omega); unfold jobAt LocV.taskAt at h1; rw [hj0, HS.out.2.2.tasks, ht4] at h1; exact Int.not_lt.2 h1
                have HC4 := hide (fun (V : World) (hV : V.ownsRow w.heap.size 73 6 (.slice (some ⟨ga, oa, none⟩) n ct0) n (shT.cells ts)) => (show V.cell? ⟨ga, oa + k4 * 6 + 5, none⟩ = some (.int .i64 t4.prio) from row_cell (S := shT) (lo := w.heap.size) (n := n) (c := ct0) (xs := ts) (rowAt_own (S := shT) (xs := ts) (by rw [HTL.out]; exact hV)) ht4 (k := 5) rfl))
                have HC0 := hide (fun (V : World) (hV : RowAt shJ w.heap.size V (.slice (some ⟨gj, oj, none⟩) lj cj) L2.jobs) => (show V.cell? ⟨gj, oj + 2, none⟩ = some (.int .i64 j0.prio) from by have := row_cell (S := shJ) hV hj0 (k := 2) rfl; simpa [shJ] using this))
                clear ht4 hj0
                generalize t4.prio = p4 at *
                generalize j0.prio = pj at *
                go_upto_region 24 with (first | fail)
                refine wp_region_held_drew (S := fun V => V.heap[BP]? = some (.cells #[.int .i64 1, .slice (some ⟨ga, oa, none⟩) n ct0, .slice none 0 0] 25 (0, 0)) ∧ V.cell? ⟨ga, oa + k4 * 6 + 5, none⟩ = some (.int .i64 p4) ∧ V.cell? ⟨gj, oj + 2, none⟩ = some (.int .i64 pj)) (by kernel_rfl) ⟨box_grown HP.out (grownBy_draws wr 1 none) (by simp), HC4.out _ (own_kept HO.out (grownBy_draws wr 1 none)), HC0.out _ (HJ.out.grown (grownBy_draws wr 1 none))⟩ (fun hHeld => ?_)
                have hgd := grownBy_draws wr 1 none
                have HXd := hide (HX.out.grown hgd)
                have HJd := hide (HJ.out.grown hgd)
                have HPd := hide (box_grown HP.out hgd (by simp))
                have HOd := hide (own_kept HO.out hgd)
                have HGd := hide (grownBy_trans HG.out hgd)
                have hdd : wr.drewN 1 = wr.drew := rfl
                rw [hdd] at HXd HJd HPd HOd HGd
                clear hdd hgd
                generalize wr.drew = V0 at *
                refine take_put (i := 0) (v := .pointer (some ⟨BP, 1, none⟩)) 85 rfl rfl (by kernel_rfl) (by kernel_rfl) (by kernel_rfl) (fun _ _ _ h => h) (Or.inl ⟨by rfl, by intro Wy hSW; go_simp⟩) (by assumption) ?_
                (try simp only [Act.put, List.setIfInBounds_toArray, List.set_cons_zero, List.set_cons_succ])
                refine take_put (i := 1) (v := .slice (some ⟨ga, oa, none⟩) n ct0) 86 rfl rfl (by kernel_rfl) (by kernel_rfl) (by kernel_rfl) (fun _ _ _ h => h) (Or.inl ⟨by rfl, by intro Wy hSW; have hc := blk_cell hSW.1 1; go_simp⟩) (by assumption) ?_
                (try simp only [Act.put, List.setIfInBounds_toArray, List.set_cons_zero, List.set_cons_succ])
                refine take_put (i := 2) (v := .int .i64 k4) 87 rfl rfl (by kernel_rfl) (by kernel_rfl) (by kernel_rfl) (fun _ _ _ h => h) (Or.inl ⟨by rfl, by intro Wy hSW; go_simp⟩) (by assumption) ?_
                (try simp only [Act.put, List.setIfInBounds_toArray, List.set_cons_zero, List.set_cons_succ])
                refine take_put (i := 3) (v := .pointer (some ⟨ga, oa + k4 * 6, none⟩)) 88 rfl rfl (by kernel_rfl) (by kernel_rfl) (by kernel_rfl) (fun _ _ _ h => h) (Or.inl ⟨by rfl, by intro Wy hSW; go_simp⟩) (by assumption) ?_
                (try simp only [Act.put, List.setIfInBounds_toArray, List.set_cons_zero, List.set_cons_succ])
                refine take_put (i := 4) (v := .pointer (some ⟨ga, oa + k4 * 6 + 5, none⟩)) 89 rfl rfl (by kernel_rfl) (by kernel_rfl) (by kernel_rfl) (fun _ _ _ h => h) (Or.inl ⟨by rfl, by intro Wy hSW; go_simp⟩) (by assumption) ?_
                (try simp only [Act.put, List.setIfInBounds_toArray, List.set_cons_zero, List.set_cons_succ])
                refine take_put (i := 5) (v := .int .i64 p4) 90 rfl rfl (by kernel_rfl) (by kernel_rfl) (by kernel_rfl) (fun _ _ _ h => h) (Or.inl ⟨by rfl, by intro Wy hSW; have hc := hSW.2.1; go_simp⟩) (by assumption) ?_
                (try simp only [Act.put, List.setIfInBounds_toArray, List.set_cons_zero, List.set_cons_succ])
                refine take_put (i := 6) (v := .slice (some ⟨gj, oj, none⟩) lj cj) 91 rfl rfl (by kernel_rfl) (by kernel_rfl) (by kernel_rfl) (fun _ _ _ h => h) (Or.inl ⟨by rfl, by intro Wy hSW; go_simp⟩) (by assumption) ?_
                (try simp only [Act.put, List.setIfInBounds_toArray, List.set_cons_zero, List.set_cons_succ])
                refine take_put (i := 7) (v := .pointer (some ⟨gj, oj, none⟩)) 92 rfl rfl (by kernel_rfl) (by kernel_rfl) (by kernel_rfl) (fun _ _ _ h => h) (Or.inl ⟨by rfl, by intro Wy hSW; go_simp⟩) (by assumption) ?_
                (try simp only [Act.put, List.setIfInBounds_toArray, List.set_cons_zero, List.set_cons_succ])
                refine take_put (i := 8) (v := .pointer (some ⟨gj, oj + 2, none⟩)) 93 rfl rfl (by kernel_rfl) (by kernel_rfl) (by kernel_rfl) (fun _ _ _ h => h) (Or.inl ⟨by rfl, by intro Wy hSW; go_simp⟩) (by assumption) ?_
                (try simp only [Act.put, List.setIfInBounds_toArray, List.set_cons_zero, List.set_cons_succ])
                refine take_put (i := 9) (v := .int .i64 pj) 94 rfl rfl (by kernel_rfl) (by kernel_rfl) (by kernel_rfl) (fun _ _ _ h => h) (Or.inl ⟨by rfl, by intro Wy hSW; have hc := hSW.2.2; go_simp⟩) (by assumption) ?_
                (try simp only [Act.put, List.setIfInBounds_toArray, List.set_cons_zero, List.set_cons_succ])
                refine take_put (i := 10) (v := .bool false) 95 rfl rfl (by kernel_rfl) (by kernel_rfl) (by kernel_rfl) (fun _ _ _ h => h) (Or.inl ⟨by rfl, by intro Wy hSW; go_simp⟩) (by assumption) ?_
                (try simp only [Act.put, List.setIfInBounds_toArray, List.set_cons_zero, List.set_cons_succ])
                refine wpAnyH_done (by kernel_rfl) ?_ _
                clear hHeld
                go_wp2
                go_roundw
                case rel => exact ⟨k4 + 1, by omega, by first | rfl | go_num, HXd, HJd, HPd, HOd, HGd⟩
                case measure => first | (simp [intOf]; omega) | simp [intOf]
              · have hk4i : ¬((k4 : Int) ≤ m) := by omega
                go_wp2
                go_roundw
                case rel => exact ⟨m + 1, L2, by omega, by first | rfl | go_num, hide (HX.out.mono (by omega)), hide (by rw [show 6 * (m + 1) = 6 * m + 6 by omega]; exact HS.out.2.2), HP, HO, HG⟩
                case measure => first | (simp [intOf]; omega) | simp [intOf]
          · obtain rfl : m = n := by omega
            have hmi : ¬((m : Int) < m) := by omega
            have HOR := hide (oi_or (d := 1 + (dn : Int)) (L := L) (m := 6 * m) (ts := ts) (by rw [HTL.out]; exact HOI.out) (by omega))
            have HLE := hide (show leftN L.jobs ≤ 5 * (1 + (dn : Int)) from by rw [HOR.out.2, HTL.out]; exact Int.mul_le_mul_of_nonneg_right (by omega) (by omega))
            have hw5 : IntKind.i64.wrap (5 * (1 + (dn : Int))) = 5 * (1 + (dn : Int)) := by rw [IntKind.wrap_i64]; omega
            go_wp2_with (first | fail)
            clear b1 HP HO HOI
            obtain ⟨D, hD⟩ : ∃ D, 5 * (1 + (dn : Int)) = D := ⟨_, rfl⟩
            have hD20 : D ≤ 20 := by omega
            rw [hD] at HLE hw5
            go_loopw [13, 14] (fun l k V => ∃ (kk : Nat) (last : Int) (L : LocV), l = .int .i64 last ∧ k = .int .i64 kk ∧ kk ≤ 20 ∧ Hid (PX w V b L (6 * m)) ∧ Hid (OR ts L (6 * m) last) ∧ Hid ((kk : Int) + leftN L.jobs ≤ D) ∧ Hid (w.grownBy V none)) (fun _ k _ => 20 - (intOf k).toNat)
            case atStart => exact ⟨0, -1, L, by first | rfl | go_num, rfl, by omega, HX, hide HOR.out.1, hide (by have := HLE.out; omega), HG⟩
            case round =>
              clear HX HOR HLE HG
              obtain ⟨kk, last, L, rfl, rfl, hkk, HX, HOR, HLE, HG⟩ := hrel
              have HLL := hide (left_nonneg HOR.out.fine.row)
              go_upto_region 28 with (first | fail)
              go_cut [103] (fun bb W => ∃ x : Bool, bb = .bool x ∧ W = wr ∧ Hid (x = true → L.jobs ≠ []) ∧ Hid (x = false → L.jobs = []))
              case first =>
                by_cases hkd : (kk : Int) < D
                · go_wp2_with (first | fail)
                  cases hB : decide (0 < L.jobs.length) with
                  | true =>
                    refine (lready HX.out hB).mono ?_; rintro e w' ⟨rfl, rfl⟩
                    have HNE := hide (of_decide_eq_true hB)
                    clear hB
                    go_wp2
                    go_meet
                    case rel => exact ⟨true, by first | rfl | simp, rfl, hide (fun _ h => by have := HNE.out; rw [h] at this; exact absurd this (by decide)), hide (fun h => by cases h)⟩
                  | false =>
                    refine (lready HX.out hB).mono ?_; rintro e w' ⟨rfl, rfl⟩
                    have HNE := hide (of_decide_eq_false hB)
                    clear hB
                    go_wp2
                    go_meet
                    case rel => exact ⟨false, by first | rfl | simp, rfl, hide (fun h => by cases h), hide (fun _ => List.eq_nil_of_length_eq_zero (by have := HNE.out; omega))⟩
                · go_wp2
                  go_meet
                  case rel => exact ⟨false, by first | rfl | simp, rfl, hide (fun h => by cases h), hide (fun _ => List.eq_nil_of_length_eq_zero (by have h1 := HLL.out; have h2 := HLE.out; omega))⟩
              case rest =>
                obtain ⟨x, rfl, rfl, HXT, HXF⟩ := hcut
                obtain ⟨wq, hwq⟩ : ∃ y, y = wc := ⟨_, rfl⟩
                subst hwq
                go_upto_if 103 with fail
                cases x with
                | true =>
                  have HRUN := hide (or_run HTS.out HOR.out (HXT.out rfl))
                  have HNE := hide (HXT.out rfl)
                  have HRN := hide (show runN L = 0 from by unfold runN; rw [if_neg HNE.out])
                  clear HXT HXF
                  obtain ⟨lv, hlv⟩ : ∃ m, (runV L).length = m := ⟨_, rfl⟩
                  have HLV := hide hlv
                  clear hlv
                  obtain ⟨O, hO⟩ : ∃ x, runO L = x := ⟨_, rfl⟩
                  obtain ⟨D2, hD2⟩ : ∃ x, runD L = x := ⟨_, rfl⟩
                  obtain ⟨K2, hK2⟩ : ∃ x, runK L = x := ⟨_, rfl⟩
                  have HO2 := hide hO
                  have HD2 := hide hD2
                  have HK2 := hide hK2
                  clear hO hD2 hK2
                  obtain ⟨lj, hlj⟩ : ∃ k, L.jobs.length = k := ⟨_, rfl⟩
                  have HLJ := hide hlj
                  clear hlj
                  have hlj1 : 1 ≤ lj := by have := List.length_pos_iff.2 HNE.out; rw [HLJ.out] at this; exact this
                  have hlz : ((lj : Int) == 0) = false := beq_eq_false_iff_ne.2 (by omega)
                  have hlj0 : (0 : Int) < lj := by omega
                  obtain ⟨j0, hj0⟩ : ∃ j, L.jobs[0]? = some j := ⟨_, List.getElem?_eq_getElem (by rw [HLJ.out]; omega)⟩
                  have hje : jobAt L.jobs 0 = j0 := by unfold jobAt; rw [hj0]; rfl
                  rw [hje] at HRUN
                  have HJ0 := hide hj0
                  clear hj0 hje
                  have hnl : ¬(j0.prio < last) := by have := HRUN.out.2.2.1; omega
                  have hk20 : kk < 20 := by have h1 := HLE.out; have h2 := HLL.out; have h3 := HLJ.out; omega
                  go_wp2_with (first | fail)
                  refine (ljobs HG.out HX.out HLJ.out).mono ?_; rintro e Wj ⟨aj, cj, rfl, ho, hX, hg, hg2⟩
                  have HX1 := hide hX
                  have HG1 := hide hg
                  obtain ⟨gj, oj, haj⟩ := J.row_addr (n := lj) (show RowAt shJ w.heap.size Wj (.slice aj lj cj) L.jobs from ho.row) (by omega)
                  subst haj
                  have t2 : Wj.cell? ⟨gj, oj + 2, none⟩ = some (.int .i64 j0.prio) := by have := row_cell (S := shJ) ho.row HJ0.out (k := 2) rfl; simpa [shJ] using this
                  clear ho hX hg hg2 HX HG HJ0
                  generalize j0.prio = pj at *
                  go_wp2_with (first | fail)
                  clear t2
                  refine (lrun HG1.out HX1.out HO2.out HD2.out HK2.out HRN.out rfl rfl HLV.out).mono ?_; rintro e Wr ⟨ar, cr, rfl, hX, ho, hg, hkp⟩
                  have HX := hide hX
                  have HG := hide hg
                  clear hX ho hg hkp HX1 HG1
                  go_wp2
                  go_roundw
                  case rel => exact ⟨kk + 1, pj, runL L, by first | rfl | go_num, by first | rfl | go_num, by have h1 := HLE.out; have h2 := HLL.out; have h3 := HLJ.out; omega, HX, hide HRUN.out.1, hide (by have h1 := HRUN.out.2.1; have h2 := HLE.out; omega), HG⟩
                  case measure => first | (simp [intOf]; omega) | simp [intOf]
                | false =>
                  have HE := hide (HXF.out rfl)
                  clear HXT HXF
                  go_wp2_with (first | fail)
                  refine (lready HX.out (B := false) (by rw [HE.out]; rfl)).mono ?_; rintro e w' ⟨rfl, rfl⟩
                  go_wp2
                  go_ret
                  exact ⟨rfl, HG.out⟩
#print axioms order_any
end Go.Proofs.YtlppfocoonnpjaaGreatDoor.L
