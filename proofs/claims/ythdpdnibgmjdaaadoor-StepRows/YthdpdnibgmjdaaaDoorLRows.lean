/- The walk of the statement StepRows: many steps, one behind the other; proved over the translation. -/
import Derived.Test.YthdpdnibgmjdaaaDoorAw
import Derived.Test.YthdpdnibgmjdaaaDoorRefStep
import Derived.Test.YthdpdnibgmjdaaaDoorVeq
namespace Go.Proofs.YthdpdnibgmjdaaaDoor
open Go.RowKit
attribute [local go_sem] alloc_drewN setCell_drewN

set_option maxRecDepth 100000 in
set_option maxHeartbeats 80000000 in
theorem stepRows_any (pa : Option Addr) (N pcap : Nat) (zs : List Ins) (ia : Option Addr) (I icap : Nat) (is : List Int) (outs : Int) (ga : Option Addr) (M gcap : Nat) (gs : List Int) (w : World) (hp : RowAt shI 0 w (.slice pa N pcap) zs) (hi : RowAt shN 0 w (.slice ia I icap) is) (hv : RowAt shN 0 w (.slice ga M gcap) gs) (hT : Tab w) :
    Calls Tryd.prog 4 #[.slice pa N pcap, .slice ia I icap, .int .i64 outs, .slice ga M gcap] w fun e w' => e = .returned (.bool true) ∧ w.grownBy w' none := by
  obtain ⟨hl, -⟩ := id hp
  have hI : is.length = I := by obtain ⟨-, a', c', e, -⟩ := hi; simp only [Value.slice.injEq] at e; exact e.2.1.symm
  have CS := hide (fun V x W (hg : w.grownBy W none) => step_any (.slice pa N pcap) zs V x outs (.slice ga M gcap) gs W hl (hT.grown hg) ((preads_row hp).grown hg) (hv.grown hg))
  have CR := hide (fun V x W (hg : w.grownBy W none) => stepRef_any (.slice pa N pcap) zs V x outs (.slice ga M gcap) gs W hl ((preads_row hp).grown hg) (hv.grown hg))
  have HT := hide (fun W (hg : w.grownBy W none) => hT.grown hg)
  have HI := hide (fun W (hg : w.grownBy W none) => hi.grown hg)
  have HN := hide hI
  have NUM := hide num_to
  clear hl hI hp hi hv hT
  go_enter Tryd.func4, Tryd.ntmps4
  go_upto_region 2 with (first | ((with_reducible refine list_store 25 (.tmp 9) (.tmp 18) (w.heap.size) #[.int .i64 0, .int .i64 0, .int .i64 0, .int .i64 0, .int .i64 0, .int .i64 0, .int .i64 0, .int .i64 0, .int .i64 0, .int .i64 0, .int .i64 0, .int .i64 0, .int .i64 0, .int .i64 0, .int .i64 0, .int .i64 0, .int .i64 0, .int .i64 0] 25 #[.int .i64 0, .int .i64 0, .int .i64 0, .int .i64 0, .int .i64 0, .int .i64 0, .int .i64 0, .int .i64 0, .int .i64 0, .int .i64 0, .int .i64 0, .int .i64 0, .int .i64 0, .int .i64 0, .int .i64 0, .int .i64 0, .int .i64 0, .int .i64 0] ?hx ?hy ?hg ?hi ?ho ?h1 ?_); (case hx => rfl); (case hy => rfl); (case hg => exact box_grown (World.heap_alloc_new _ _) (World.grownBy_alloc _ _ none) (by simp)); (case hi => exact sizeVm); (case ho => rfl); (case h1 => simp [Value.oneCell']); intro w1 h1 e1 g1; have HA := hide h1; have HE := hide ((e1 (w.heap.size + 1) (by omega)).trans (alloc_next _ _ _)); have HNN := hide (grown_spoil (grownBy_trans (World.grownBy_alloc w _ none) (World.grownBy_alloc _ _ none)) (Nat.le_refl _) g1); clear h1 e1 g1) | ((with_reducible refine list_store 25 (.tmp 10) (.tmp 19) (w.heap.size + 1) #[.int .i64 0, .int .i64 0, .int .i64 0, .int .i64 0, .int .i64 0, .int .i64 0, .int .i64 0, .int .i64 0, .int .i64 0, .int .i64 0, .int .i64 0, .int .i64 0, .int .i64 0, .int .i64 0, .int .i64 0, .int .i64 0, .int .i64 0, .int .i64 0] 25 #[.int .i64 0, .int .i64 0, .int .i64 0, .int .i64 0, .int .i64 0, .int .i64 0, .int .i64 0, .int .i64 0, .int .i64 0, .int .i64 0, .int .i64 0, .int .i64 0, .int .i64 0, .int .i64 0, .int .i64 0, .int .i64 0, .int .i64 0, .int .i64 0] ?hx ?hy ?hg ?hi ?ho ?h1 ?_); (case hx => rfl); (case hy => rfl); (case hg => exact HE.out); (case hi => exact sizeVm); (case ho => rfl); (case h1 => simp [Value.oneCell']); intro w2 h1 e1 g1; have HA := hide ((e1 (w.heap.size) (by omega)).trans HA.out); have HB := hide h1; have HG := hide (grown_spoil HNN.out (Nat.le_succ _) g1); clear h1 e1 g1 HE HNN) | fail)
  generalize hBb : w.heap.size + 1 = Bb at *
  generalize hBa : w.heap.size = Ba at *
  have HO : Hid (w.heap.size ≤ Ba ∧ Ba < Bb) := hide (by omega)
  clear hBb hBa
  have HA0 := HA
  have HB0 := HB
  have HG0 := HG
  clear HA HB HG
  go_wp2
  go_loopw [11, 12, 13, 14, 15, 16, 17] (fun i _ _ _ _ _ _ W => ∃ (j : Nat) (V : VmS), j ≤ I ∧ i = .int .i64 j ∧ Hid (W.heap[Ba]? = some (.cells (vmC V) 25 (0, 0))) ∧ Hid (W.heap[Bb]? = some (.cells (vmC V) 25 (0, 0))) ∧ Hid (w.grownBy W none)) (fun i _ _ _ _ _ _ _ => I - (intOf i).toNat)
  case atStart => exact ⟨0, ⟨0, 0, fun _ => 0⟩, by omega, rfl, HA0.out, HB0.out, HG0.out⟩
  case round =>
    obtain ⟨j, V, hj, rfl, HA, HB, HG⟩ := hrel
    clear HA0 HB0 HG0
    by_cases hlt : j < I
    · by_cases hlt2 : j < 100
      · obtain ⟨-, a', cap', e, ha⟩ := HI.out wr HG.out
        simp only [Value.slice.injEq] at e
        obtain ⟨rfl, -, rfl⟩ := e
        obtain ⟨g, o, rfl, -, hc⟩ := ha (by have := HN.out; omega)
        have hq : is[j]? = some (is[j]?.getD 0) := by rw [List.getElem?_eq_getElem (by rw [HN.out]; exact hlt)]; rfl
        have c1 : wr.cell? ⟨g, o + j * 1, none⟩ = some (.int .i64 (is[j]?.getD 0)) := hc j _ hq 0 _ rfl
        rw [Nat.mul_one] at c1
        clear hc hq ha HI
        generalize is[j]?.getD 0 = x at *
        have HC := hide c1
        clear c1
        have CSx := hide (CS.out V x)
        have CRx := hide (CR.out V x)
        obtain ⟨A, hA⟩ : ∃ A, stepAns zs V x outs gs = A := ⟨_, rfl⟩
        rw [hA] at CSx CRx
        clear hA CS CR
        obtain ⟨⟨q0, q1, qm⟩, ⟨f0, f1, f2, f3, f4⟩, E⟩ := A
        obtain ⟨pc, acc, m⟩ := V
        dsimp only [vmV, efV, vmC] at CSx CRx HA HB
        go_upto_region 5 with (first | fail)
        go_cut [12, 13, 14] (fun c f e wx => ∃ Y1 Y2, c = .pointer (some ⟨Y1, 0, none⟩) ∧ f = .pointer (some ⟨Y2, 0, none⟩) ∧ e = .int .i64 E ∧ Hid (wx.heap[Y1]? = some (.cells #[.int .i64 q0, .int .i64 q1, .int .i64 (qm 0), .int .i64 (qm 1), .int .i64 (qm 2), .int .i64 (qm 3), .int .i64 (qm 4), .int .i64 (qm 5), .int .i64 (qm 6), .int .i64 (qm 7), .int .i64 (qm 8), .int .i64 (qm 9), .int .i64 (qm 10), .int .i64 (qm 11), .int .i64 (qm 12), .int .i64 (qm 13), .int .i64 (qm 14), .int .i64 (qm 15)] 25 (0, 0))) ∧ Hid (wx.heap[Y2]? = some (.cells #[.bool f0, .int .i64 f1, .int .i64 f2, .int .i64 f3, .bool f4] 30 (0, 0))) ∧ Hid (wr.grownBy wx none) ∧ Hid (wr.heap.size ≤ Y1))
        case first =>
          have SF : Hid (∀ W, wr.grownBy W none → (fun W => W.heap[Ba]? = some (.cells #[.int .i64 pc, .int .i64 acc, .int .i64 (m 0), .int .i64 (m 1), .int .i64 (m 2), .int .i64 (m 3), .int .i64 (m 4), .int .i64 (m 5), .int .i64 (m 6), .int .i64 (m 7), .int .i64 (m 8), .int .i64 (m 9), .int .i64 (m 10), .int .i64 (m 11), .int .i64 (m 12), .int .i64 (m 13), .int .i64 (m 14), .int .i64 (m 15)] 25 (0, 0)) ∧ W.cell? ⟨g, o + j, none⟩ = some (.int .i64 x)) W) := hide (fun W hg => ⟨box_grown HA.out hg (by simp), cell_grown hg HC.out⟩)
          have HGr := hide (grownBy_draws wr 1 none)
          refine wp_region_held_drew (S := (fun W => W.heap[Ba]? = some (.cells #[.int .i64 pc, .int .i64 acc, .int .i64 (m 0), .int .i64 (m 1), .int .i64 (m 2), .int .i64 (m 3), .int .i64 (m 4), .int .i64 (m 5), .int .i64 (m 6), .int .i64 (m 7), .int .i64 (m 8), .int .i64 (m 9), .int .i64 (m 10), .int .i64 (m 11), .int .i64 (m 12), .int .i64 (m 13), .int .i64 (m 14), .int .i64 (m 15)] 25 (0, 0)) ∧ W.cell? ⟨g, o + j, none⟩ = some (.int .i64 x))) (by kernel_rfl) (SF.out _ HGr.out) (fun hHeld => ?_)
          have hgd : wr.grownBy wr.drew none := HGr.out
          clear HGr
          have HGr := hide hgd
          clear hgd
          generalize hWd : wr.drew = W at *
          clear hWd
          refine take_put (i := 0) (v := .slice pa N pcap) 31 rfl rfl (by kernel_rfl) (by kernel_rfl) (by kernel_rfl) (fun _ _ _ h => h) (Or.inl ⟨by rfl, by intro W hSW; go_simp⟩) (by assumption) ?_
          (try simp only [Act.put, List.setIfInBounds_toArray, List.set_cons_zero, List.set_cons_succ])
          refine take_put (i := 1) (v := .agg #[.int .i64 pc, .int .i64 acc, .int .i64 (m 0), .int .i64 (m 1), .int .i64 (m 2), .int .i64 (m 3), .int .i64 (m 4), .int .i64 (m 5), .int .i64 (m 6), .int .i64 (m 7), .int .i64 (m 8), .int .i64 (m 9), .int .i64 (m 10), .int .i64 (m 11), .int .i64 (m 12), .int .i64 (m 13), .int .i64 (m 14), .int .i64 (m 15)]) 32 rfl rfl (by kernel_rfl) (by kernel_rfl) (by kernel_rfl) (fun _ _ _ h => h) (yieldsIf_load_mid (by rfl) 25 (.tmp 9) rfl Ba 0 rfl [.int .i64 pc, .int .i64 acc, .int .i64 (m 0), .int .i64 (m 1), .int .i64 (m 2), .int .i64 (m 3), .int .i64 (m 4), .int .i64 (m 5), .int .i64 (m 6), .int .i64 (m 7), .int .i64 (m 8), .int .i64 (m 9), .int .i64 (m 10), .int .i64 (m 11), .int .i64 (m 12), .int .i64 (m 13), .int .i64 (m 14), .int .i64 (m 15)] _ (fun W h => range_of h.1) Tryd.underlying25 rfl sizeVm) (by assumption) ?_
          (try simp only [Act.put, List.setIfInBounds_toArray, List.set_cons_zero, List.set_cons_succ])
          refine take_put (i := 2) (v := .slice (some ⟨g, o, none⟩) I icap) 33 rfl rfl (by kernel_rfl) (by kernel_rfl) (by kernel_rfl) (fun _ _ _ h => h) (Or.inl ⟨by rfl, by intro W hSW; go_simp⟩) (by assumption) ?_
          (try simp only [Act.put, List.setIfInBounds_toArray, List.set_cons_zero, List.set_cons_succ])
          refine take_put (i := 3) (v := .int .i64 (j : Int)) 34 rfl rfl (by kernel_rfl) (by kernel_rfl) (by kernel_rfl) (fun _ _ _ h => h) (Or.inl ⟨by rfl, by intro W hSW; go_simp⟩) (by assumption) ?_
          (try simp only [Act.put, List.setIfInBounds_toArray, List.set_cons_zero, List.set_cons_succ])
          refine take_put (i := 4) (v := .pointer (some ⟨g, o + j, none⟩)) 35 rfl rfl (by kernel_rfl) (by kernel_rfl) (by kernel_rfl) (fun _ _ _ h => h) (Or.inl ⟨by rfl, by intro W hSW; go_simp⟩) (by assumption) ?_
          (try simp only [Act.put, List.setIfInBounds_toArray, List.set_cons_zero, List.set_cons_succ])
          refine take_put (i := 5) (v := .int .i64 x) 36 rfl rfl (by kernel_rfl) (by kernel_rfl) (by kernel_rfl) (fun _ _ _ h => h) (Or.inl ⟨by rfl, by intro W hSW; have hc := hSW.2; go_simp⟩) (by assumption) ?_
          (try simp only [Act.put, List.setIfInBounds_toArray, List.set_cons_zero, List.set_cons_succ])
          refine take_put (i := 6) (v := .int .i64 outs) 37 rfl rfl (by kernel_rfl) (by kernel_rfl) (by kernel_rfl) (fun _ _ _ h => h) (Or.inl ⟨by rfl, by intro W hSW; go_simp⟩) (by assumption) ?_
          (try simp only [Act.put, List.setIfInBounds_toArray, List.set_cons_zero, List.set_cons_succ])
          refine take_put (i := 7) (v := .slice ga M gcap) 38 rfl rfl (by kernel_rfl) (by kernel_rfl) (by kernel_rfl) (fun _ _ _ h => h) (Or.inl ⟨by rfl, by intro W hSW; go_simp⟩) (by assumption) ?_
          (try simp only [Act.put, List.setIfInBounds_toArray, List.set_cons_zero, List.set_cons_succ])
          refine wpAnyH_ready (rs := [8, 13, 14]) (by kernel_rfl) (by simp) ?_
          refine AllReadyH.cons rfl (fun K hK => ?_) (AllReadyH.cons rfl (fun K hK => ?_) (AllReadyH.cons rfl (fun K hK => ?_) AllReadyH.nil))
          · go_simp
            refine (CSx.out _ (grownBy_trans HG.out HGr.out)).mono ?_; rintro e Wk1 ⟨rfl, hg⟩
            have HGr := hide (grownBy_trans HGr.out hg)
            clear hg
            refine hK.out _ _ (SF.out _ HGr.out) (fun hHeld => ?_)
            clear hK K
            (try simp only [Act.put])
            refine take_put (i := 9) (v := .tuple #[.agg #[.int .i64 q0, .int .i64 q1, .int .i64 (qm 0), .int .i64 (qm 1), .int .i64 (qm 2), .int .i64 (qm 3), .int .i64 (qm 4), .int .i64 (qm 5), .int .i64 (qm 6), .int .i64 (qm 7), .int .i64 (qm 8), .int .i64 (qm 9), .int .i64 (qm 10), .int .i64 (qm 11), .int .i64 (qm 12), .int .i64 (qm 13), .int .i64 (qm 14), .int .i64 (qm 15)], .agg #[.bool f0, .int .i64 f1, .int .i64 f2, .int .i64 f3, .bool f4], .int .i64 E]) 30 rfl rfl (by kernel_rfl) (by kernel_rfl) (by kernel_rfl) (fun _ _ _ h => h) (Or.inl ⟨by rfl, by intro W hSW; go_simp⟩) (by assumption) ?_
            (try simp only [Act.put, List.setIfInBounds_toArray, List.set_cons_zero, List.set_cons_succ])
            refine take_put (i := 10) (v := .agg #[.int .i64 q0, .int .i64 q1, .int .i64 (qm 0), .int .i64 (qm 1), .int .i64 (qm 2), .int .i64 (qm 3), .int .i64 (qm 4), .int .i64 (qm 5), .int .i64 (qm 6), .int .i64 (qm 7), .int .i64 (qm 8), .int .i64 (qm 9), .int .i64 (qm 10), .int .i64 (qm 11), .int .i64 (qm 12), .int .i64 (qm 13), .int .i64 (qm 14), .int .i64 (qm 15)]) 40 rfl rfl (by kernel_rfl) (by kernel_rfl) (by kernel_rfl) (fun _ _ _ h => h) (Or.inl ⟨by rfl, by intro W hSW; go_simp⟩) (by assumption) ?_
            (try simp only [Act.put, List.setIfInBounds_toArray, List.set_cons_zero, List.set_cons_succ])
            refine take_put (i := 11) (v := .agg #[.bool f0, .int .i64 f1, .int .i64 f2, .int .i64 f3, .bool f4]) 41 rfl rfl (by kernel_rfl) (by kernel_rfl) (by kernel_rfl) (fun _ _ _ h => h) (Or.inl ⟨by rfl, by intro W hSW; go_simp⟩) (by assumption) ?_
            (try simp only [Act.put, List.setIfInBounds_toArray, List.set_cons_zero, List.set_cons_succ])
            refine take_put (i := 12) (v := .int .i64 E) 42 rfl rfl (by kernel_rfl) (by kernel_rfl) (by kernel_rfl) (fun _ _ _ h => h) (Or.inl ⟨by rfl, by intro W hSW; go_simp⟩) (by assumption) ?_
            (try simp only [Act.put, List.setIfInBounds_toArray, List.set_cons_zero, List.set_cons_succ])
            refine wpAnyH_ready (rs := [13, 14]) (by kernel_rfl) (by simp) ?_
            refine AllReadyH.cons rfl (fun K hK => ?_) (AllReadyH.cons rfl (fun K hK => ?_) AllReadyH.nil)
            · go_simp
              have hg := World.grownBy_alloc Wk1 (.cells #[.int .i64 0, .int .i64 0, .int .i64 0, .int .i64 0, .int .i64 0, .int .i64 0, .int .i64 0, .int .i64 0, .int .i64 0, .int .i64 0, .int .i64 0, .int .i64 0, .int .i64 0, .int .i64 0, .int .i64 0, .int .i64 0, .int .i64 0, .int .i64 0] 25) none
              have HY1 := hide (World.heap_alloc_new Wk1 (.cells #[.int .i64 0, .int .i64 0, .int .i64 0, .int .i64 0, .int .i64 0, .int .i64 0, .int .i64 0, .int .i64 0, .int .i64 0, .int .i64 0, .int .i64 0, .int .i64 0, .int .i64 0, .int .i64 0, .int .i64 0, .int .i64 0, .int .i64 0, .int .i64 0] 25))
              have HL1 := hide HGr.out.size
              have HGr := hide (grownBy_trans HGr.out hg)
              clear hg
              refine hK.out _ _ (SF.out _ HGr.out) (fun hHeld => ?_)
              clear hK K
              (try simp only [Act.put])
              generalize hWn : Wk1.alloc (.cells #[.int .i64 0, .int .i64 0, .int .i64 0, .int .i64 0, .int .i64 0, .int .i64 0, .int .i64 0, .int .i64 0, .int .i64 0, .int .i64 0, .int .i64 0, .int .i64 0, .int .i64 0, .int .i64 0, .int .i64 0, .int .i64 0, .int .i64 0, .int .i64 0] 25) = Wk2 at *
              generalize hYn : Wk1.heap.size = Y1 at *
              clear hWn hYn
              refine wpAnyH_ready (rs := [14]) (by kernel_rfl) (by simp) ?_
              refine AllReadyH.cons rfl (fun K hK => ?_) AllReadyH.nil
              · go_simp
                have hg := World.grownBy_alloc Wk2 (.cells #[.bool false, .int .i64 0, .int .i64 0, .int .i64 0, .bool false] 30) none
                have HY2 := hide (World.heap_alloc_new Wk2 (.cells #[.bool false, .int .i64 0, .int .i64 0, .int .i64 0, .bool false] 30))
                have HL2 := hide HGr.out.size
                have HNE : Hid (Y1 ≠ Wk2.heap.size) := hide (by have := box_lt HY1.out; omega)
                have HY1 := hide (box_grown HY1.out hg (by simp))
                have HGr := hide (grownBy_trans HGr.out hg)
                clear hg
                refine hK.out _ _ (SF.out _ HGr.out) (fun hHeld => ?_)
                clear hK K
                (try simp only [Act.put])
                generalize hWn : Wk2.alloc (.cells #[.bool false, .int .i64 0, .int .i64 0, .int .i64 0, .bool false] 30) = Wk3 at *
                generalize hYn : Wk2.heap.size = Y2 at *
                clear hWn hYn
                refine wpAnyH_ready (rs := [15]) (by kernel_rfl) (by simp) ?_
                refine AllReadyH.cons rfl (fun K hK => ?_) AllReadyH.nil
                refine step_store 25 (.tmp 12) (.tmp 40) Y1 #[.int .i64 q0, .int .i64 q1, .int .i64 (qm 0), .int .i64 (qm 1), .int .i64 (qm 2), .int .i64 (qm 3), .int .i64 (qm 4), .int .i64 (qm 5), .int .i64 (qm 6), .int .i64 (qm 7), .int .i64 (qm 8), .int .i64 (qm 9), .int .i64 (qm 10), .int .i64 (qm 11), .int .i64 (qm 12), .int .i64 (qm 13), .int .i64 (qm 14), .int .i64 (qm 15)] 25 #[.int .i64 0, .int .i64 0, .int .i64 0, .int .i64 0, .int .i64 0, .int .i64 0, .int .i64 0, .int .i64 0, .int .i64 0, .int .i64 0, .int .i64 0, .int .i64 0, .int .i64 0, .int .i64 0, .int .i64 0, .int .i64 0, .int .i64 0, .int .i64 0] rfl rfl HY1.out sizeVm rfl (by simp [Value.oneCell']) ?_
                intro w5 h5 e5 g5
                have HG5 := hide (grown_spoil HGr.out HL1.out g5)
                have HY2b := hide ((e5 Y2 (fun e => HNE.out e.symm)).trans HY2.out)
                have HY1b := hide h5
                clear h5 e5 g5
                refine hK.out _ _ (SF.out _ HG5.out) (fun hHeld => ?_)
                clear hK K
                (try simp only [Act.put])
                refine wpAnyH_ready (rs := [16]) (by kernel_rfl) (by simp) ?_
                refine AllReadyH.cons rfl (fun K hK => ?_) AllReadyH.nil
                refine step_store 30 (.tmp 13) (.tmp 41) Y2 #[.bool f0, .int .i64 f1, .int .i64 f2, .int .i64 f3, .bool f4] 30 #[.bool false, .int .i64 0, .int .i64 0, .int .i64 0, .bool false] rfl rfl HY2b.out sizeEf rfl (by simp [Value.oneCell']) ?_
                intro w6 h6 e6 g6
                have HG6 := hide (grown_spoil HG5.out HL2.out g6)
                have HY1c := hide ((e6 Y1 HNE.out).trans HY1b.out)
                have HY2c := hide h6
                clear h6 e6 g6
                refine hK.out _ _ (SF.out _ HG6.out) (fun hHeld => ?_)
                clear hK K
                (try simp only [Act.put])
                refine take_put (i := 17) (v := .int .i64 E) 14 rfl rfl (by kernel_rfl) (by kernel_rfl) (by kernel_rfl) (fun _ _ _ h => h) (Or.inl ⟨by rfl, by intro W hSW; go_simp⟩) (by assumption) ?_
                (try simp only [Act.put, List.setIfInBounds_toArray, List.set_cons_zero, List.set_cons_succ])
                refine wpAnyH_done (by kernel_rfl) ?_ _
                clear hHeld
                go_wp2
                go_meet
                case rel => exact ⟨Y1, Y2, rfl, rfl, rfl, HY1c.out, HY2c.out, HG6.out, HL1.out⟩
            · go_simp
              have hg := World.grownBy_alloc Wk1 (.cells #[.bool false, .int .i64 0, .int .i64 0, .int .i64 0, .bool false] 30) none
              have HY2 := hide (World.heap_alloc_new Wk1 (.cells #[.bool false, .int .i64 0, .int .i64 0, .int .i64 0, .bool false] 30))
              have HL2 := hide HGr.out.size
              have HGr := hide (grownBy_trans HGr.out hg)
              clear hg
              refine hK.out _ _ (SF.out _ HGr.out) (fun hHeld => ?_)
              clear hK K
              (try simp only [Act.put])
              generalize hWn : Wk1.alloc (.cells #[.bool false, .int .i64 0, .int .i64 0, .int .i64 0, .bool false] 30) = Wk4 at *
              generalize hYn : Wk1.heap.size = Y2 at *
              clear hWn hYn
              refine wpAnyH_ready (rs := [13]) (by kernel_rfl) (by simp) ?_
              refine AllReadyH.cons rfl (fun K hK => ?_) AllReadyH.nil
              · go_simp
                have hg := World.grownBy_alloc Wk4 (.cells #[.int .i64 0, .int .i64 0, .int .i64 0, .int .i64 0, .int .i64 0, .int .i64 0, .int .i64 0, .int .i64 0, .int .i64 0, .int .i64 0, .int .i64 0, .int .i64 0, .int .i64 0, .int .i64 0, .int .i64 0, .int .i64 0, .int .i64 0, .int .i64 0] 25) none
                have HY1 := hide (World.heap_alloc_new Wk4 (.cells #[.int .i64 0, .int .i64 0, .int .i64 0, .int .i64 0, .int .i64 0, .int .i64 0, .int .i64 0, .int .i64 0, .int .i64 0, .int .i64 0, .int .i64 0, .int .i64 0, .int .i64 0, .int .i64 0, .int .i64 0, .int .i64 0, .int .i64 0, .int .i64 0] 25))
                have HL1 := hide HGr.out.size
                have HNE : Hid (Wk4.heap.size ≠ Y2) := hide (by have := box_lt HY2.out; omega)
                have HY2 := hide (box_grown HY2.out hg (by simp))
                have HGr := hide (grownBy_trans HGr.out hg)
                clear hg
                refine hK.out _ _ (SF.out _ HGr.out) (fun hHeld => ?_)
                clear hK K
                (try simp only [Act.put])
                generalize hWn : Wk4.alloc (.cells #[.int .i64 0, .int .i64 0, .int .i64 0, .int .i64 0, .int .i64 0, .int .i64 0, .int .i64 0, .int .i64 0, .int .i64 0, .int .i64 0, .int .i64 0, .int .i64 0, .int .i64 0, .int .i64 0, .int .i64 0, .int .i64 0, .int .i64 0, .int .i64 0] 25) = Wk5 at *
                generalize hYn : Wk4.heap.size = Y1 at *
                clear hWn hYn
                refine wpAnyH_ready (rs := [15]) (by kernel_rfl) (by simp) ?_
                refine AllReadyH.cons rfl (fun K hK => ?_) AllReadyH.nil
                refine step_store 25 (.tmp 12) (.tmp 40) Y1 #[.int .i64 q0, .int .i64 q1, .int .i64 (qm 0), .int .i64 (qm 1), .int .i64 (qm 2), .int .i64 (qm 3), .int .i64 (qm 4), .int .i64 (qm 5), .int .i64 (qm 6), .int .i64 (qm 7), .int .i64 (qm 8), .int .i64 (qm 9), .int .i64 (qm 10), .int .i64 (qm 11), .int .i64 (qm 12), .int .i64 (qm 13), .int .i64 (qm 14), .int .i64 (qm 15)] 25 #[.int .i64 0, .int .i64 0, .int .i64 0, .int .i64 0, .int .i64 0, .int .i64 0, .int .i64 0, .int .i64 0, .int .i64 0, .int .i64 0, .int .i64 0, .int .i64 0, .int .i64 0, .int .i64 0, .int .i64 0, .int .i64 0, .int .i64 0, .int .i64 0] rfl rfl HY1.out sizeVm rfl (by simp [Value.oneCell']) ?_
                intro w5 h5 e5 g5
                have HG5 := hide (grown_spoil HGr.out HL1.out g5)
                have HY2b := hide ((e5 Y2 (fun e => HNE.out e.symm)).trans HY2.out)
                have HY1b := hide h5
                clear h5 e5 g5
                refine hK.out _ _ (SF.out _ HG5.out) (fun hHeld => ?_)
                clear hK K
                (try simp only [Act.put])
                refine wpAnyH_ready (rs := [16]) (by kernel_rfl) (by simp) ?_
                refine AllReadyH.cons rfl (fun K hK => ?_) AllReadyH.nil
                refine step_store 30 (.tmp 13) (.tmp 41) Y2 #[.bool f0, .int .i64 f1, .int .i64 f2, .int .i64 f3, .bool f4] 30 #[.bool false, .int .i64 0, .int .i64 0, .int .i64 0, .bool false] rfl rfl HY2b.out sizeEf rfl (by simp [Value.oneCell']) ?_
                intro w6 h6 e6 g6
                have HG6 := hide (grown_spoil HG5.out HL2.out g6)
                have HY1c := hide ((e6 Y1 HNE.out).trans HY1b.out)
                have HY2c := hide h6
                clear h6 e6 g6
                refine hK.out _ _ (SF.out _ HG6.out) (fun hHeld => ?_)
                clear hK K
                (try simp only [Act.put])
                refine take_put (i := 17) (v := .int .i64 E) 14 rfl rfl (by kernel_rfl) (by kernel_rfl) (by kernel_rfl) (fun _ _ _ h => h) (Or.inl ⟨by rfl, by intro W hSW; go_simp⟩) (by assumption) ?_
                (try simp only [Act.put, List.setIfInBounds_toArray, List.set_cons_zero, List.set_cons_succ])
                refine wpAnyH_done (by kernel_rfl) ?_ _
                clear hHeld
                go_wp2
                go_meet
                case rel => exact ⟨Y1, Y2, rfl, rfl, rfl, HY1c.out, HY2c.out, HG6.out, HL1.out⟩
          · go_simp
            have hg := World.grownBy_alloc W (.cells #[.int .i64 0, .int .i64 0, .int .i64 0, .int .i64 0, .int .i64 0, .int .i64 0, .int .i64 0, .int .i64 0, .int .i64 0, .int .i64 0, .int .i64 0, .int .i64 0, .int .i64 0, .int .i64 0, .int .i64 0, .int .i64 0, .int .i64 0, .int .i64 0] 25) none
            have HY1 := hide (World.heap_alloc_new W (.cells #[.int .i64 0, .int .i64 0, .int .i64 0, .int .i64 0, .int .i64 0, .int .i64 0, .int .i64 0, .int .i64 0, .int .i64 0, .int .i64 0, .int .i64 0, .int .i64 0, .int .i64 0, .int .i64 0, .int .i64 0, .int .i64 0, .int .i64 0, .int .i64 0] 25))
            have HL1 := hide HGr.out.size
            have HGr := hide (grownBy_trans HGr.out hg)
            clear hg
            refine hK.out _ _ (SF.out _ HGr.out) (fun hHeld => ?_)
            clear hK K
            (try simp only [Act.put])
            generalize hWn : W.alloc (.cells #[.int .i64 0, .int .i64 0, .int .i64 0, .int .i64 0, .int .i64 0, .int .i64 0, .int .i64 0, .int .i64 0, .int .i64 0, .int .i64 0, .int .i64 0, .int .i64 0, .int .i64 0, .int .i64 0, .int .i64 0, .int .i64 0, .int .i64 0, .int .i64 0] 25) = Wk6 at *
            generalize hYn : W.heap.size = Y1 at *
            clear hWn hYn
            refine wpAnyH_ready (rs := [8, 14]) (by kernel_rfl) (by simp) ?_
            refine AllReadyH.cons rfl (fun K hK => ?_) (AllReadyH.cons rfl (fun K hK => ?_) AllReadyH.nil)
            · go_simp
              refine (CSx.out _ (grownBy_trans HG.out HGr.out)).mono ?_; rintro e Wk7 ⟨rfl, hg⟩
              have HY1 := hide (box_grown HY1.out hg (by simp))
              have HGr := hide (grownBy_trans HGr.out hg)
              clear hg
              refine hK.out _ _ (SF.out _ HGr.out) (fun hHeld => ?_)
              clear hK K
              (try simp only [Act.put])
              refine take_put (i := 9) (v := .tuple #[.agg #[.int .i64 q0, .int .i64 q1, .int .i64 (qm 0), .int .i64 (qm 1), .int .i64 (qm 2), .int .i64 (qm 3), .int .i64 (qm 4), .int .i64 (qm 5), .int .i64 (qm 6), .int .i64 (qm 7), .int .i64 (qm 8), .int .i64 (qm 9), .int .i64 (qm 10), .int .i64 (qm 11), .int .i64 (qm 12), .int .i64 (qm 13), .int .i64 (qm 14), .int .i64 (qm 15)], .agg #[.bool f0, .int .i64 f1, .int .i64 f2, .int .i64 f3, .bool f4], .int .i64 E]) 30 rfl rfl (by kernel_rfl) (by kernel_rfl) (by kernel_rfl) (fun _ _ _ h => h) (Or.inl ⟨by rfl, by intro W hSW; go_simp⟩) (by assumption) ?_
              (try simp only [Act.put, List.setIfInBounds_toArray, List.set_cons_zero, List.set_cons_succ])
              refine take_put (i := 10) (v := .agg #[.int .i64 q0, .int .i64 q1, .int .i64 (qm 0), .int .i64 (qm 1), .int .i64 (qm 2), .int .i64 (qm 3), .int .i64 (qm 4), .int .i64 (qm 5), .int .i64 (qm 6), .int .i64 (qm 7), .int .i64 (qm 8), .int .i64 (qm 9), .int .i64 (qm 10), .int .i64 (qm 11), .int .i64 (qm 12), .int .i64 (qm 13), .int .i64 (qm 14), .int .i64 (qm 15)]) 40 rfl rfl (by kernel_rfl) (by kernel_rfl) (by kernel_rfl) (fun _ _ _ h => h) (Or.inl ⟨by rfl, by intro W hSW; go_simp⟩) (by assumption) ?_
              (try simp only [Act.put, List.setIfInBounds_toArray, List.set_cons_zero, List.set_cons_succ])
              refine take_put (i := 11) (v := .agg #[.bool f0, .int .i64 f1, .int .i64 f2, .int .i64 f3, .bool f4]) 41 rfl rfl (by kernel_rfl) (by kernel_rfl) (by kernel_rfl) (fun _ _ _ h => h) (Or.inl ⟨by rfl, by intro W hSW; go_simp⟩) (by assumption) ?_
              (try simp only [Act.put, List.setIfInBounds_toArray, List.set_cons_zero, List.set_cons_succ])
              refine take_put (i := 12) (v := .int .i64 E) 42 rfl rfl (by kernel_rfl) (by kernel_rfl) (by kernel_rfl) (fun _ _ _ h => h) (Or.inl ⟨by rfl, by intro W hSW; go_simp⟩) (by assumption) ?_
              (try simp only [Act.put, List.setIfInBounds_toArray, List.set_cons_zero, List.set_cons_succ])
              refine wpAnyH_ready (rs := [14]) (by kernel_rfl) (by simp) ?_
              refine AllReadyH.cons rfl (fun K hK => ?_) AllReadyH.nil
              · go_simp
                have hg := World.grownBy_alloc Wk7 (.cells #[.bool false, .int .i64 0, .int .i64 0, .int .i64 0, .bool false] 30) none
                have HY2 := hide (World.heap_alloc_new Wk7 (.cells #[.bool false, .int .i64 0, .int .i64 0, .int .i64 0, .bool false] 30))
                have HL2 := hide HGr.out.size
                have HNE : Hid (Y1 ≠ Wk7.heap.size) := hide (by have := box_lt HY1.out; omega)
                have HY1 := hide (box_grown HY1.out hg (by simp))
                have HGr := hide (grownBy_trans HGr.out hg)
                clear hg
                refine hK.out _ _ (SF.out _ HGr.out) (fun hHeld => ?_)
                clear hK K
                (try simp only [Act.put])
                generalize hWn : Wk7.alloc (.cells #[.bool false, .int .i64 0, .int .i64 0, .int .i64 0, .bool false] 30) = Wk8 at *
                generalize hYn : Wk7.heap.size = Y2 at *
                clear hWn hYn
                refine wpAnyH_ready (rs := [15]) (by kernel_rfl) (by simp) ?_
                refine AllReadyH.cons rfl (fun K hK => ?_) AllReadyH.nil
                refine step_store 25 (.tmp 12) (.tmp 40) Y1 #[.int .i64 q0, .int .i64 q1, .int .i64 (qm 0), .int .i64 (qm 1), .int .i64 (qm 2), .int .i64 (qm 3), .int .i64 (qm 4), .int .i64 (qm 5), .int .i64 (qm 6), .int .i64 (qm 7), .int .i64 (qm 8), .int .i64 (qm 9), .int .i64 (qm 10), .int .i64 (qm 11), .int .i64 (qm 12), .int .i64 (qm 13), .int .i64 (qm 14), .int .i64 (qm 15)] 25 #[.int .i64 0, .int .i64 0, .int .i64 0, .int .i64 0, .int .i64 0, .int .i64 0, .int .i64 0, .int .i64 0, .int .i64 0, .int .i64 0, .int .i64 0, .int .i64 0, .int .i64 0, .int .i64 0, .int .i64 0, .int .i64 0, .int .i64 0, .int .i64 0] rfl rfl HY1.out sizeVm rfl (by simp [Value.oneCell']) ?_
                intro w5 h5 e5 g5
                have HG5 := hide (grown_spoil HGr.out HL1.out g5)
                have HY2b := hide ((e5 Y2 (fun e => HNE.out e.symm)).trans HY2.out)
                have HY1b := hide h5
                clear h5 e5 g5
                refine hK.out _ _ (SF.out _ HG5.out) (fun hHeld => ?_)
                clear hK K
                (try simp only [Act.put])
                refine wpAnyH_ready (rs := [16]) (by kernel_rfl) (by simp) ?_
                refine AllReadyH.cons rfl (fun K hK => ?_) AllReadyH.nil
                refine step_store 30 (.tmp 13) (.tmp 41) Y2 #[.bool f0, .int .i64 f1, .int .i64 f2, .int .i64 f3, .bool f4] 30 #[.bool false, .int .i64 0, .int .i64 0, .int .i64 0, .bool false] rfl rfl HY2b.out sizeEf rfl (by simp [Value.oneCell']) ?_
                intro w6 h6 e6 g6
                have HG6 := hide (grown_spoil HG5.out HL2.out g6)
                have HY1c := hide ((e6 Y1 HNE.out).trans HY1b.out)
                have HY2c := hide h6
                clear h6 e6 g6
                refine hK.out _ _ (SF.out _ HG6.out) (fun hHeld => ?_)
                clear hK K
                (try simp only [Act.put])
                refine take_put (i := 17) (v := .int .i64 E) 14 rfl rfl (by kernel_rfl) (by kernel_rfl) (by kernel_rfl) (fun _ _ _ h => h) (Or.inl ⟨by rfl, by intro W hSW; go_simp⟩) (by assumption) ?_
                (try simp only [Act.put, List.setIfInBounds_toArray, List.set_cons_zero, List.set_cons_succ])
                refine wpAnyH_done (by kernel_rfl) ?_ _
                clear hHeld
                go_wp2
                go_meet
                case rel => exact ⟨Y1, Y2, rfl, rfl, rfl, HY1c.out, HY2c.out, HG6.out, HL1.out⟩
            · go_simp
              have hg := World.grownBy_alloc Wk6 (.cells #[.bool false, .int .i64 0, .int .i64 0, .int .i64 0, .bool false] 30) none
              have HY2 := hide (World.heap_alloc_new Wk6 (.cells #[.bool false, .int .i64 0, .int .i64 0, .int .i64 0, .bool false] 30))
              have HL2 := hide HGr.out.size
              have HNE : Hid (Y1 ≠ Wk6.heap.size) := hide (by have := box_lt HY1.out; omega)
              have HY1 := hide (box_grown HY1.out hg (by simp))
              have HGr := hide (grownBy_trans HGr.out hg)
              clear hg
              refine hK.out _ _ (SF.out _ HGr.out) (fun hHeld => ?_)
              clear hK K
              (try simp only [Act.put])
              generalize hWn : Wk6.alloc (.cells #[.bool false, .int .i64 0, .int .i64 0, .int .i64 0, .bool false] 30) = Wk9 at *
              generalize hYn : Wk6.heap.size = Y2 at *
              clear hWn hYn
              refine wpAnyH_ready (rs := [8]) (by kernel_rfl) (by simp) ?_
              refine AllReadyH.cons rfl (fun K hK => ?_) AllReadyH.nil
              · go_simp
                refine (CSx.out _ (grownBy_trans HG.out HGr.out)).mono ?_; rintro e Wk10 ⟨rfl, hg⟩
                have HY1 := hide (box_grown HY1.out hg (by simp))
                have HY2 := hide (box_grown HY2.out hg (by simp))
                have HGr := hide (grownBy_trans HGr.out hg)
                clear hg
                refine hK.out _ _ (SF.out _ HGr.out) (fun hHeld => ?_)
                clear hK K
                (try simp only [Act.put])
                refine take_put (i := 9) (v := .tuple #[.agg #[.int .i64 q0, .int .i64 q1, .int .i64 (qm 0), .int .i64 (qm 1), .int .i64 (qm 2), .int .i64 (qm 3), .int .i64 (qm 4), .int .i64 (qm 5), .int .i64 (qm 6), .int .i64 (qm 7), .int .i64 (qm 8), .int .i64 (qm 9), .int .i64 (qm 10), .int .i64 (qm 11), .int .i64 (qm 12), .int .i64 (qm 13), .int .i64 (qm 14), .int .i64 (qm 15)], .agg #[.bool f0, .int .i64 f1, .int .i64 f2, .int .i64 f3, .bool f4], .int .i64 E]) 30 rfl rfl (by kernel_rfl) (by kernel_rfl) (by kernel_rfl) (fun _ _ _ h => h) (Or.inl ⟨by rfl, by intro W hSW; go_simp⟩) (by assumption) ?_
                (try simp only [Act.put, List.setIfInBounds_toArray, List.set_cons_zero, List.set_cons_succ])
                refine take_put (i := 10) (v := .agg #[.int .i64 q0, .int .i64 q1, .int .i64 (qm 0), .int .i64 (qm 1), .int .i64 (qm 2), .int .i64 (qm 3), .int .i64 (qm 4), .int .i64 (qm 5), .int .i64 (qm 6), .int .i64 (qm 7), .int .i64 (qm 8), .int .i64 (qm 9), .int .i64 (qm 10), .int .i64 (qm 11), .int .i64 (qm 12), .int .i64 (qm 13), .int .i64 (qm 14), .int .i64 (qm 15)]) 40 rfl rfl (by kernel_rfl) (by kernel_rfl) (by kernel_rfl) (fun _ _ _ h => h) (Or.inl ⟨by rfl, by intro W hSW; go_simp⟩) (by assumption) ?_
                (try simp only [Act.put, List.setIfInBounds_toArray, List.set_cons_zero, List.set_cons_succ])
                refine take_put (i := 11) (v := .agg #[.bool f0, .int .i64 f1, .int .i64 f2, .int .i64 f3, .bool f4]) 41 rfl rfl (by kernel_rfl) (by kernel_rfl) (by kernel_rfl) (fun _ _ _ h => h) (Or.inl ⟨by rfl, by intro W hSW; go_simp⟩) (by assumption) ?_
                (try simp only [Act.put, List.setIfInBounds_toArray, List.set_cons_zero, List.set_cons_succ])
                refine take_put (i := 12) (v := .int .i64 E) 42 rfl rfl (by kernel_rfl) (by kernel_rfl) (by kernel_rfl) (fun _ _ _ h => h) (Or.inl ⟨by rfl, by intro W hSW; go_simp⟩) (by assumption) ?_
                (try simp only [Act.put, List.setIfInBounds_toArray, List.set_cons_zero, List.set_cons_succ])
                refine wpAnyH_ready (rs := [15]) (by kernel_rfl) (by simp) ?_
                refine AllReadyH.cons rfl (fun K hK => ?_) AllReadyH.nil
                refine step_store 25 (.tmp 12) (.tmp 40) Y1 #[.int .i64 q0, .int .i64 q1, .int .i64 (qm 0), .int .i64 (qm 1), .int .i64 (qm 2), .int .i64 (qm 3), .int .i64 (qm 4), .int .i64 (qm 5), .int .i64 (qm 6), .int .i64 (qm 7), .int .i64 (qm 8), .int .i64 (qm 9), .int .i64 (qm 10), .int .i64 (qm 11), .int .i64 (qm 12), .int .i64 (qm 13), .int .i64 (qm 14), .int .i64 (qm 15)] 25 #[.int .i64 0, .int .i64 0, .int .i64 0, .int .i64 0, .int .i64 0, .int .i64 0, .int .i64 0, .int .i64 0, .int .i64 0, .int .i64 0, .int .i64 0, .int .i64 0, .int .i64 0, .int .i64 0, .int .i64 0, .int .i64 0, .int .i64 0, .int .i64 0] rfl rfl HY1.out sizeVm rfl (by simp [Value.oneCell']) ?_
                intro w5 h5 e5 g5
                have HG5 := hide (grown_spoil HGr.out HL1.out g5)
                have HY2b := hide ((e5 Y2 (fun e => HNE.out e.symm)).trans HY2.out)
                have HY1b := hide h5
                clear h5 e5 g5
                refine hK.out _ _ (SF.out _ HG5.out) (fun hHeld => ?_)
                clear hK K
                (try simp only [Act.put])
                refine wpAnyH_ready (rs := [16]) (by kernel_rfl) (by simp) ?_
                refine AllReadyH.cons rfl (fun K hK => ?_) AllReadyH.nil
                refine step_store 30 (.tmp 13) (.tmp 41) Y2 #[.bool f0, .int .i64 f1, .int .i64 f2, .int .i64 f3, .bool f4] 30 #[.bool false, .int .i64 0, .int .i64 0, .int .i64 0, .bool false] rfl rfl HY2b.out sizeEf rfl (by simp [Value.oneCell']) ?_
                intro w6 h6 e6 g6
                have HG6 := hide (grown_spoil HG5.out HL2.out g6)
                have HY1c := hide ((e6 Y1 HNE.out).trans HY1b.out)
                have HY2c := hide h6
                clear h6 e6 g6
                refine hK.out _ _ (SF.out _ HG6.out) (fun hHeld => ?_)
                clear hK K
                (try simp only [Act.put])
                refine take_put (i := 17) (v := .int .i64 E) 14 rfl rfl (by kernel_rfl) (by kernel_rfl) (by kernel_rfl) (fun _ _ _ h => h) (Or.inl ⟨by rfl, by intro W hSW; go_simp⟩) (by assumption) ?_
                (try simp only [Act.put, List.setIfInBounds_toArray, List.set_cons_zero, List.set_cons_succ])
                refine wpAnyH_done (by kernel_rfl) ?_ _
                clear hHeld
                go_wp2
                go_meet
                case rel => exact ⟨Y1, Y2, rfl, rfl, rfl, HY1c.out, HY2c.out, HG6.out, HL1.out⟩
          · go_simp
            have hg := World.grownBy_alloc W (.cells #[.bool false, .int .i64 0, .int .i64 0, .int .i64 0, .bool false] 30) none
            have HY2 := hide (World.heap_alloc_new W (.cells #[.bool false, .int .i64 0, .int .i64 0, .int .i64 0, .bool false] 30))
            have HL2 := hide HGr.out.size
            have HGr := hide (grownBy_trans HGr.out hg)
            clear hg
            refine hK.out _ _ (SF.out _ HGr.out) (fun hHeld => ?_)
            clear hK K
            (try simp only [Act.put])
            generalize hWn : W.alloc (.cells #[.bool false, .int .i64 0, .int .i64 0, .int .i64 0, .bool false] 30) = Wk11 at *
            generalize hYn : W.heap.size = Y2 at *
            clear hWn hYn
            refine wpAnyH_ready (rs := [8, 13]) (by kernel_rfl) (by simp) ?_
            refine AllReadyH.cons rfl (fun K hK => ?_) (AllReadyH.cons rfl (fun K hK => ?_) AllReadyH.nil)
            · go_simp
              refine (CSx.out _ (grownBy_trans HG.out HGr.out)).mono ?_; rintro e Wk12 ⟨rfl, hg⟩
              have HY2 := hide (box_grown HY2.out hg (by simp))
              have HGr := hide (grownBy_trans HGr.out hg)
              clear hg
              refine hK.out _ _ (SF.out _ HGr.out) (fun hHeld => ?_)
              clear hK K
              (try simp only [Act.put])
              refine take_put (i := 9) (v := .tuple #[.agg #[.int .i64 q0, .int .i64 q1, .int .i64 (qm 0), .int .i64 (qm 1), .int .i64 (qm 2), .int .i64 (qm 3), .int .i64 (qm 4), .int .i64 (qm 5), .int .i64 (qm 6), .int .i64 (qm 7), .int .i64 (qm 8), .int .i64 (qm 9), .int .i64 (qm 10), .int .i64 (qm 11), .int .i64 (qm 12), .int .i64 (qm 13), .int .i64 (qm 14), .int .i64 (qm 15)], .agg #[.bool f0, .int .i64 f1, .int .i64 f2, .int .i64 f3, .bool f4], .int .i64 E]) 30 rfl rfl (by kernel_rfl) (by kernel_rfl) (by kernel_rfl) (fun _ _ _ h => h) (Or.inl ⟨by rfl, by intro W hSW; go_simp⟩) (by assumption) ?_
              (try simp only [Act.put, List.setIfInBounds_toArray, List.set_cons_zero, List.set_cons_succ])
              refine take_put (i := 10) (v := .agg #[.int .i64 q0, .int .i64 q1, .int .i64 (qm 0), .int .i64 (qm 1), .int .i64 (qm 2), .int .i64 (qm 3), .int .i64 (qm 4), .int .i64 (qm 5), .int .i64 (qm 6), .int .i64 (qm 7), .int .i64 (qm 8), .int .i64 (qm 9), .int .i64 (qm 10), .int .i64 (qm 11), .int .i64 (qm 12), .int .i64 (qm 13), .int .i64 (qm 14), .int .i64 (qm 15)]) 40 rfl rfl (by kernel_rfl) (by kernel_rfl) (by kernel_rfl) (fun _ _ _ h => h) (Or.inl ⟨by rfl, by intro W hSW; go_simp⟩) (by assumption) ?_
              (try simp only [Act.put, List.setIfInBounds_toArray, List.set_cons_zero, List.set_cons_succ])
              refine take_put (i := 11) (v := .agg #[.bool f0, .int .i64 f1, .int .i64 f2, .int .i64 f3, .bool f4]) 41 rfl rfl (by kernel_rfl) (by kernel_rfl) (by kernel_rfl) (fun _ _ _ h => h) (Or.inl ⟨by rfl, by intro W hSW; go_simp⟩) (by assumption) ?_
              (try simp only [Act.put, List.setIfInBounds_toArray, List.set_cons_zero, List.set_cons_succ])
              refine take_put (i := 12) (v := .int .i64 E) 42 rfl rfl (by kernel_rfl) (by kernel_rfl) (by kernel_rfl) (fun _ _ _ h => h) (Or.inl ⟨by rfl, by intro W hSW; go_simp⟩) (by assumption) ?_
              (try simp only [Act.put, List.setIfInBounds_toArray, List.set_cons_zero, List.set_cons_succ])
              refine wpAnyH_ready (rs := [13]) (by kernel_rfl) (by simp) ?_
              refine AllReadyH.cons rfl (fun K hK => ?_) AllReadyH.nil
              · go_simp
                have hg := World.grownBy_alloc Wk12 (.cells #[.int .i64 0, .int .i64 0, .int .i64 0, .int .i64 0, .int .i64 0, .int .i64 0, .int .i64 0, .int .i64 0, .int .i64 0, .int .i64 0, .int .i64 0, .int .i64 0, .int .i64 0, .int .i64 0, .int .i64 0, .int .i64 0, .int .i64 0, .int .i64 0] 25) none
                have HY1 := hide (World.heap_alloc_new Wk12 (.cells #[.int .i64 0, .int .i64 0, .int .i64 0, .int .i64 0, .int .i64 0, .int .i64 0, .int .i64 0, .int .i64 0, .int .i64 0, .int .i64 0, .int .i64 0, .int .i64 0, .int .i64 0, .int .i64 0, .int .i64 0, .int .i64 0, .int .i64 0, .int .i64 0] 25))
                have HL1 := hide HGr.out.size
                have HNE : Hid (Wk12.heap.size ≠ Y2) := hide (by have := box_lt HY2.out; omega)
                have HY2 := hide (box_grown HY2.out hg (by simp))
                have HGr := hide (grownBy_trans HGr.out hg)
                clear hg
                refine hK.out _ _ (SF.out _ HGr.out) (fun hHeld => ?_)
                clear hK K
                (try simp only [Act.put])
                generalize hWn : Wk12.alloc (.cells #[.int .i64 0, .int .i64 0, .int .i64 0, .int .i64 0, .int .i64 0, .int .i64 0, .int .i64 0, .int .i64 0, .int .i64 0, .int .i64 0, .int .i64 0, .int .i64 0, .int .i64 0, .int .i64 0, .int .i64 0, .int .i64 0, .int .i64 0, .int .i64 0] 25) = Wk13 at *
                generalize hYn : Wk12.heap.size = Y1 at *
                clear hWn hYn
                refine wpAnyH_ready (rs := [15]) (by kernel_rfl) (by simp) ?_
                refine AllReadyH.cons rfl (fun K hK => ?_) AllReadyH.nil
                refine step_store 25 (.tmp 12) (.tmp 40) Y1 #[.int .i64 q0, .int .i64 q1, .int .i64 (qm 0), .int .i64 (qm 1), .int .i64 (qm 2), .int .i64 (qm 3), .int .i64 (qm 4), .int .i64 (qm 5), .int .i64 (qm 6), .int .i64 (qm 7), .int .i64 (qm 8), .int .i64 (qm 9), .int .i64 (qm 10), .int .i64 (qm 11), .int .i64 (qm 12), .int .i64 (qm 13), .int .i64 (qm 14), .int .i64 (qm 15)] 25 #[.int .i64 0, .int .i64 0, .int .i64 0, .int .i64 0, .int .i64 0, .int .i64 0, .int .i64 0, .int .i64 0, .int .i64 0, .int .i64 0, .int .i64 0, .int .i64 0, .int .i64 0, .int .i64 0, .int .i64 0, .int .i64 0, .int .i64 0, .int .i64 0] rfl rfl HY1.out sizeVm rfl (by simp [Value.oneCell']) ?_
                intro w5 h5 e5 g5
                have HG5 := hide (grown_spoil HGr.out HL1.out g5)
                have HY2b := hide ((e5 Y2 (fun e => HNE.out e.symm)).trans HY2.out)
                have HY1b := hide h5
                clear h5 e5 g5
                refine hK.out _ _ (SF.out _ HG5.out) (fun hHeld => ?_)
                clear hK K
                (try simp only [Act.put])
                refine wpAnyH_ready (rs := [16]) (by kernel_rfl) (by simp) ?_
                refine AllReadyH.cons rfl (fun K hK => ?_) AllReadyH.nil
                refine step_store 30 (.tmp 13) (.tmp 41) Y2 #[.bool f0, .int .i64 f1, .int .i64 f2, .int .i64 f3, .bool f4] 30 #[.bool false, .int .i64 0, .int .i64 0, .int .i64 0, .bool false] rfl rfl HY2b.out sizeEf rfl (by simp [Value.oneCell']) ?_
                intro w6 h6 e6 g6
                have HG6 := hide (grown_spoil HG5.out HL2.out g6)
                have HY1c := hide ((e6 Y1 HNE.out).trans HY1b.out)
                have HY2c := hide h6
                clear h6 e6 g6
                refine hK.out _ _ (SF.out _ HG6.out) (fun hHeld => ?_)
                clear hK K
                (try simp only [Act.put])
                refine take_put (i := 17) (v := .int .i64 E) 14 rfl rfl (by kernel_rfl) (by kernel_rfl) (by kernel_rfl) (fun _ _ _ h => h) (Or.inl ⟨by rfl, by intro W hSW; go_simp⟩) (by assumption) ?_
                (try simp only [Act.put, List.setIfInBounds_toArray, List.set_cons_zero, List.set_cons_succ])
                refine wpAnyH_done (by kernel_rfl) ?_ _
                clear hHeld
                go_wp2
                go_meet
                case rel => exact ⟨Y1, Y2, rfl, rfl, rfl, HY1c.out, HY2c.out, HG6.out, HL1.out⟩
            · go_simp
              have hg := World.grownBy_alloc Wk11 (.cells #[.int .i64 0, .int .i64 0, .int .i64 0, .int .i64 0, .int .i64 0, .int .i64 0, .int .i64 0, .int .i64 0, .int .i64 0, .int .i64 0, .int .i64 0, .int .i64 0, .int .i64 0, .int .i64 0, .int .i64 0, .int .i64 0, .int .i64 0, .int .i64 0] 25) none
              have HY1 := hide (World.heap_alloc_new Wk11 (.cells #[.int .i64 0, .int .i64 0, .int .i64 0, .int .i64 0, .int .i64 0, .int .i64 0, .int .i64 0, .int .i64 0, .int .i64 0, .int .i64 0, .int .i64 0, .int .i64 0, .int .i64 0, .int .i64 0, .int .i64 0, .int .i64 0, .int .i64 0, .int .i64 0] 25))
              have HL1 := hide HGr.out.size
              have HNE : Hid (Wk11.heap.size ≠ Y2) := hide (by have := box_lt HY2.out; omega)
              have HY2 := hide (box_grown HY2.out hg (by simp))
              have HGr := hide (grownBy_trans HGr.out hg)
              clear hg
              refine hK.out _ _ (SF.out _ HGr.out) (fun hHeld => ?_)
              clear hK K
              (try simp only [Act.put])
              generalize hWn : Wk11.alloc (.cells #[.int .i64 0, .int .i64 0, .int .i64 0, .int .i64 0, .int .i64 0, .int .i64 0, .int .i64 0, .int .i64 0, .int .i64 0, .int .i64 0, .int .i64 0, .int .i64 0, .int .i64 0, .int .i64 0, .int .i64 0, .int .i64 0, .int .i64 0, .int .i64 0] 25) = Wk14 at *
              generalize hYn : Wk11.heap.size = Y1 at *
              clear hWn hYn
              refine wpAnyH_ready (rs := [8]) (by kernel_rfl) (by simp) ?_
              refine AllReadyH.cons rfl (fun K hK => ?_) AllReadyH.nil
              · go_simp
                refine (CSx.out _ (grownBy_trans HG.out HGr.out)).mono ?_; rintro e Wk15 ⟨rfl, hg⟩
                have HY1 := hide (box_grown HY1.out hg (by simp))
                have HY2 := hide (box_grown HY2.out hg (by simp))
                have HGr := hide (grownBy_trans HGr.out hg)
                clear hg
                refine hK.out _ _ (SF.out _ HGr.out) (fun hHeld => ?_)
                clear hK K
                (try simp only [Act.put])
                refine take_put (i := 9) (v := .tuple #[.agg #[.int .i64 q0, .int .i64 q1, .int .i64 (qm 0), .int .i64 (qm 1), .int .i64 (qm 2), .int .i64 (qm 3), .int .i64 (qm 4), .int .i64 (qm 5), .int .i64 (qm 6), .int .i64 (qm 7), .int .i64 (qm 8), .int .i64 (qm 9), .int .i64 (qm 10), .int .i64 (qm 11), .int .i64 (qm 12), .int .i64 (qm 13), .int .i64 (qm 14), .int .i64 (qm 15)], .agg #[.bool f0, .int .i64 f1, .int .i64 f2, .int .i64 f3, .bool f4], .int .i64 E]) 30 rfl rfl (by kernel_rfl) (by kernel_rfl) (by kernel_rfl) (fun _ _ _ h => h) (Or.inl ⟨by rfl, by intro W hSW; go_simp⟩) (by assumption) ?_
                (try simp only [Act.put, List.setIfInBounds_toArray, List.set_cons_zero, List.set_cons_succ])
                refine take_put (i := 10) (v := .agg #[.int .i64 q0, .int .i64 q1, .int .i64 (qm 0), .int .i64 (qm 1), .int .i64 (qm 2), .int .i64 (qm 3), .int .i64 (qm 4), .int .i64 (qm 5), .int .i64 (qm 6), .int .i64 (qm 7), .int .i64 (qm 8), .int .i64 (qm 9), .int .i64 (qm 10), .int .i64 (qm 11), .int .i64 (qm 12), .int .i64 (qm 13), .int .i64 (qm 14), .int .i64 (qm 15)]) 40 rfl rfl (by kernel_rfl) (by kernel_rfl) (by kernel_rfl) (fun _ _ _ h => h) (Or.inl ⟨by rfl, by intro W hSW; go_simp⟩) (by assumption) ?_
                (try simp only [Act.put, List.setIfInBounds_toArray, List.set_cons_zero, List.set_cons_succ])
                refine take_put (i := 11) (v := .agg #[.bool f0, .int .i64 f1, .int .i64 f2, .int .i64 f3, .bool f4]) 41 rfl rfl (by kernel_rfl) (by kernel_rfl) (by kernel_rfl) (fun _ _ _ h => h) (Or.inl ⟨by rfl, by intro W hSW; go_simp⟩) (by assumption) ?_
                (try simp only [Act.put, List.setIfInBounds_toArray, List.set_cons_zero, List.set_cons_succ])
                refine take_put (i := 12) (v := .int .i64 E) 42 rfl rfl (by kernel_rfl) (by kernel_rfl) (by kernel_rfl) (fun _ _ _ h => h) (Or.inl ⟨by rfl, by intro W hSW; go_simp⟩) (by assumption) ?_
                (try simp only [Act.put, List.setIfInBounds_toArray, List.set_cons_zero, List.set_cons_succ])
                refine wpAnyH_ready (rs := [15]) (by kernel_rfl) (by simp) ?_
                refine AllReadyH.cons rfl (fun K hK => ?_) AllReadyH.nil
                refine step_store 25 (.tmp 12) (.tmp 40) Y1 #[.int .i64 q0, .int .i64 q1, .int .i64 (qm 0), .int .i64 (qm 1), .int .i64 (qm 2), .int .i64 (qm 3), .int .i64 (qm 4), .int .i64 (qm 5), .int .i64 (qm 6), .int .i64 (qm 7), .int .i64 (qm 8), .int .i64 (qm 9), .int .i64 (qm 10), .int .i64 (qm 11), .int .i64 (qm 12), .int .i64 (qm 13), .int .i64 (qm 14), .int .i64 (qm 15)] 25 #[.int .i64 0, .int .i64 0, .int .i64 0, .int .i64 0, .int .i64 0, .int .i64 0, .int .i64 0, .int .i64 0, .int .i64 0, .int .i64 0, .int .i64 0, .int .i64 0, .int .i64 0, .int .i64 0, .int .i64 0, .int .i64 0, .int .i64 0, .int .i64 0] rfl rfl HY1.out sizeVm rfl (by simp [Value.oneCell']) ?_
                intro w5 h5 e5 g5
                have HG5 := hide (grown_spoil HGr.out HL1.out g5)
                have HY2b := hide ((e5 Y2 (fun e => HNE.out e.symm)).trans HY2.out)
                have HY1b := hide h5
                clear h5 e5 g5
                refine hK.out _ _ (SF.out _ HG5.out) (fun hHeld => ?_)
                clear hK K
                (try simp only [Act.put])
                refine wpAnyH_ready (rs := [16]) (by kernel_rfl) (by simp) ?_
                refine AllReadyH.cons rfl (fun K hK => ?_) AllReadyH.nil
                refine step_store 30 (.tmp 13) (.tmp 41) Y2 #[.bool f0, .int .i64 f1, .int .i64 f2, .int .i64 f3, .bool f4] 30 #[.bool false, .int .i64 0, .int .i64 0, .int .i64 0, .bool false] rfl rfl HY2b.out sizeEf rfl (by simp [Value.oneCell']) ?_
                intro w6 h6 e6 g6
                have HG6 := hide (grown_spoil HG5.out HL2.out g6)
                have HY1c := hide ((e6 Y1 HNE.out).trans HY1b.out)
                have HY2c := hide h6
                clear h6 e6 g6
                refine hK.out _ _ (SF.out _ HG6.out) (fun hHeld => ?_)
                clear hK K
                (try simp only [Act.put])
                refine take_put (i := 17) (v := .int .i64 E) 14 rfl rfl (by kernel_rfl) (by kernel_rfl) (by kernel_rfl) (fun _ _ _ h => h) (Or.inl ⟨by rfl, by intro W hSW; go_simp⟩) (by assumption) ?_
                (try simp only [Act.put, List.setIfInBounds_toArray, List.set_cons_zero, List.set_cons_succ])
                refine wpAnyH_done (by kernel_rfl) ?_ _
                clear hHeld
                go_wp2
                go_meet
                case rel => exact ⟨Y1, Y2, rfl, rfl, rfl, HY1c.out, HY2c.out, HG6.out, HL1.out⟩
        case rest =>
          obtain ⟨Y1, Y2, rfl, rfl, rfl, HY1, HY2, HGc, -⟩ := hcut
          have HA := hide (box_grown HA.out HGc.out (by simp))
          have HB := hide (box_grown HB.out HGc.out (by simp))
          have HC := hide (cell_grown HGc.out HC.out)
          have HG := hide (grownBy_trans HG.out HGc.out)
          clear HGc CSx
          obtain ⟨wr, hwr⟩ : ∃ y, y = wc := ⟨_, rfl⟩
          subst hwr
          go_upto_region 6 with (first | fail)
          go_cut [15, 16, 17] (fun c f e wx => ∃ X1 X2, c = .pointer (some ⟨X1, 0, none⟩) ∧ f = .pointer (some ⟨X2, 0, none⟩) ∧ e = .int .i64 E ∧ Hid (wx.heap[X1]? = some (.cells #[.int .i64 q0, .int .i64 q1, .int .i64 (qm 0), .int .i64 (qm 1), .int .i64 (qm 2), .int .i64 (qm 3), .int .i64 (qm 4), .int .i64 (qm 5), .int .i64 (qm 6), .int .i64 (qm 7), .int .i64 (qm 8), .int .i64 (qm 9), .int .i64 (qm 10), .int .i64 (qm 11), .int .i64 (qm 12), .int .i64 (qm 13), .int .i64 (qm 14), .int .i64 (qm 15)] 25 (0, 0))) ∧ Hid (wx.heap[X2]? = some (.cells #[.bool f0, .int .i64 f1, .int .i64 f2, .int .i64 f3, .bool f4] 30 (0, 0))) ∧ Hid (wr.grownBy wx none) ∧ Hid (wr.heap.size ≤ X1))
          case first =>
            have SF : Hid (∀ W, wr.grownBy W none → (fun W => W.heap[Bb]? = some (.cells #[.int .i64 pc, .int .i64 acc, .int .i64 (m 0), .int .i64 (m 1), .int .i64 (m 2), .int .i64 (m 3), .int .i64 (m 4), .int .i64 (m 5), .int .i64 (m 6), .int .i64 (m 7), .int .i64 (m 8), .int .i64 (m 9), .int .i64 (m 10), .int .i64 (m 11), .int .i64 (m 12), .int .i64 (m 13), .int .i64 (m 14), .int .i64 (m 15)] 25 (0, 0)) ∧ W.cell? ⟨g, o + j, none⟩ = some (.int .i64 x)) W) := hide (fun W hg => ⟨box_grown HB.out hg (by simp), cell_grown hg HC.out⟩)
            have HGr := hide (grownBy_draws wr 1 none)
            refine wp_region_held_drew (S := (fun W => W.heap[Bb]? = some (.cells #[.int .i64 pc, .int .i64 acc, .int .i64 (m 0), .int .i64 (m 1), .int .i64 (m 2), .int .i64 (m 3), .int .i64 (m 4), .int .i64 (m 5), .int .i64 (m 6), .int .i64 (m 7), .int .i64 (m 8), .int .i64 (m 9), .int .i64 (m 10), .int .i64 (m 11), .int .i64 (m 12), .int .i64 (m 13), .int .i64 (m 14), .int .i64 (m 15)] 25 (0, 0)) ∧ W.cell? ⟨g, o + j, none⟩ = some (.int .i64 x))) (by kernel_rfl) (SF.out _ HGr.out) (fun hHeld => ?_)
            have hgd : wr.grownBy wr.drew none := HGr.out
            clear HGr
            have HGr := hide hgd
            clear hgd
            generalize hWd : wr.drew = W at *
            clear hWd
            refine take_put (i := 0) (v := .slice pa N pcap) 44 rfl rfl (by kernel_rfl) (by kernel_rfl) (by kernel_rfl) (fun _ _ _ h => h) (Or.inl ⟨by rfl, by intro W hSW; go_simp⟩) (by assumption) ?_
            (try simp only [Act.put, List.setIfInBounds_toArray, List.set_cons_zero, List.set_cons_succ])
            refine take_put (i := 1) (v := .agg #[.int .i64 pc, .int .i64 acc, .int .i64 (m 0), .int .i64 (m 1), .int .i64 (m 2), .int .i64 (m 3), .int .i64 (m 4), .int .i64 (m 5), .int .i64 (m 6), .int .i64 (m 7), .int .i64 (m 8), .int .i64 (m 9), .int .i64 (m 10), .int .i64 (m 11), .int .i64 (m 12), .int .i64 (m 13), .int .i64 (m 14), .int .i64 (m 15)]) 45 rfl rfl (by kernel_rfl) (by kernel_rfl) (by kernel_rfl) (fun _ _ _ h => h) (yieldsIf_load_mid (by rfl) 25 (.tmp 10) rfl Bb 0 rfl [.int .i64 pc, .int .i64 acc, .int .i64 (m 0), .int .i64 (m 1), .int .i64 (m 2), .int .i64 (m 3), .int .i64 (m 4), .int .i64 (m 5), .int .i64 (m 6), .int .i64 (m 7), .int .i64 (m 8), .int .i64 (m 9), .int .i64 (m 10), .int .i64 (m 11), .int .i64 (m 12), .int .i64 (m 13), .int .i64 (m 14), .int .i64 (m 15)] _ (fun W h => range_of h.1) Tryd.underlying25 rfl sizeVm) (by assumption) ?_
            (try simp only [Act.put, List.setIfInBounds_toArray, List.set_cons_zero, List.set_cons_succ])
            refine take_put (i := 2) (v := .slice (some ⟨g, o, none⟩) I icap) 46 rfl rfl (by kernel_rfl) (by kernel_rfl) (by kernel_rfl) (fun _ _ _ h => h) (Or.inl ⟨by rfl, by intro W hSW; go_simp⟩) (by assumption) ?_
            (try simp only [Act.put, List.setIfInBounds_toArray, List.set_cons_zero, List.set_cons_succ])
            refine take_put (i := 3) (v := .int .i64 (j : Int)) 47 rfl rfl (by kernel_rfl) (by kernel_rfl) (by kernel_rfl) (fun _ _ _ h => h) (Or.inl ⟨by rfl, by intro W hSW; go_simp⟩) (by assumption) ?_
            (try simp only [Act.put, List.setIfInBounds_toArray, List.set_cons_zero, List.set_cons_succ])
            refine take_put (i := 4) (v := .pointer (some ⟨g, o + j, none⟩)) 48 rfl rfl (by kernel_rfl) (by kernel_rfl) (by kernel_rfl) (fun _ _ _ h => h) (Or.inl ⟨by rfl, by intro W hSW; go_simp⟩) (by assumption) ?_
            (try simp only [Act.put, List.setIfInBounds_toArray, List.set_cons_zero, List.set_cons_succ])
            refine take_put (i := 5) (v := .int .i64 x) 49 rfl rfl (by kernel_rfl) (by kernel_rfl) (by kernel_rfl) (fun _ _ _ h => h) (Or.inl ⟨by rfl, by intro W hSW; have hc := hSW.2; go_simp⟩) (by assumption) ?_
            (try simp only [Act.put, List.setIfInBounds_toArray, List.set_cons_zero, List.set_cons_succ])
            refine take_put (i := 6) (v := .int .i64 outs) 50 rfl rfl (by kernel_rfl) (by kernel_rfl) (by kernel_rfl) (fun _ _ _ h => h) (Or.inl ⟨by rfl, by intro W hSW; go_simp⟩) (by assumption) ?_
            (try simp only [Act.put, List.setIfInBounds_toArray, List.set_cons_zero, List.set_cons_succ])
            refine take_put (i := 7) (v := .slice ga M gcap) 51 rfl rfl (by kernel_rfl) (by kernel_rfl) (by kernel_rfl) (fun _ _ _ h => h) (Or.inl ⟨by rfl, by intro W hSW; go_simp⟩) (by assumption) ?_
            (try simp only [Act.put, List.setIfInBounds_toArray, List.set_cons_zero, List.set_cons_succ])
            refine wpAnyH_ready (rs := [8, 13, 14]) (by kernel_rfl) (by simp) ?_
            refine AllReadyH.cons rfl (fun K hK => ?_) (AllReadyH.cons rfl (fun K hK => ?_) (AllReadyH.cons rfl (fun K hK => ?_) AllReadyH.nil))
            · go_simp
              refine (CRx.out _ (grownBy_trans HG.out HGr.out)).mono ?_; rintro e Wk1 ⟨rfl, hg⟩
              have HGr := hide (grownBy_trans HGr.out hg)
              clear hg
              refine hK.out _ _ (SF.out _ HGr.out) (fun hHeld => ?_)
              clear hK K
              (try simp only [Act.put])
              refine take_put (i := 9) (v := .tuple #[.agg #[.int .i64 q0, .int .i64 q1, .int .i64 (qm 0), .int .i64 (qm 1), .int .i64 (qm 2), .int .i64 (qm 3), .int .i64 (qm 4), .int .i64 (qm 5), .int .i64 (qm 6), .int .i64 (qm 7), .int .i64 (qm 8), .int .i64 (qm 9), .int .i64 (qm 10), .int .i64 (qm 11), .int .i64 (qm 12), .int .i64 (qm 13), .int .i64 (qm 14), .int .i64 (qm 15)], .agg #[.bool f0, .int .i64 f1, .int .i64 f2, .int .i64 f3, .bool f4], .int .i64 E]) 43 rfl rfl (by kernel_rfl) (by kernel_rfl) (by kernel_rfl) (fun _ _ _ h => h) (Or.inl ⟨by rfl, by intro W hSW; go_simp⟩) (by assumption) ?_
              (try simp only [Act.put, List.setIfInBounds_toArray, List.set_cons_zero, List.set_cons_succ])
              refine take_put (i := 10) (v := .agg #[.int .i64 q0, .int .i64 q1, .int .i64 (qm 0), .int .i64 (qm 1), .int .i64 (qm 2), .int .i64 (qm 3), .int .i64 (qm 4), .int .i64 (qm 5), .int .i64 (qm 6), .int .i64 (qm 7), .int .i64 (qm 8), .int .i64 (qm 9), .int .i64 (qm 10), .int .i64 (qm 11), .int .i64 (qm 12), .int .i64 (qm 13), .int .i64 (qm 14), .int .i64 (qm 15)]) 53 rfl rfl (by kernel_rfl) (by kernel_rfl) (by kernel_rfl) (fun _ _ _ h => h) (Or.inl ⟨by rfl, by intro W hSW; go_simp⟩) (by assumption) ?_
              (try simp only [Act.put, List.setIfInBounds_toArray, List.set_cons_zero, List.set_cons_succ])
              refine take_put (i := 11) (v := .agg #[.bool f0, .int .i64 f1, .int .i64 f2, .int .i64 f3, .bool f4]) 54 rfl rfl (by kernel_rfl) (by kernel_rfl) (by kernel_rfl) (fun _ _ _ h => h) (Or.inl ⟨by rfl, by intro W hSW; go_simp⟩) (by assumption) ?_
              (try simp only [Act.put, List.setIfInBounds_toArray, List.set_cons_zero, List.set_cons_succ])
              refine take_put (i := 12) (v := .int .i64 E) 55 rfl rfl (by kernel_rfl) (by kernel_rfl) (by kernel_rfl) (fun _ _ _ h => h) (Or.inl ⟨by rfl, by intro W hSW; go_simp⟩) (by assumption) ?_
              (try simp only [Act.put, List.setIfInBounds_toArray, List.set_cons_zero, List.set_cons_succ])
              refine wpAnyH_ready (rs := [13, 14]) (by kernel_rfl) (by simp) ?_
              refine AllReadyH.cons rfl (fun K hK => ?_) (AllReadyH.cons rfl (fun K hK => ?_) AllReadyH.nil)
              · go_simp
                have hg := World.grownBy_alloc Wk1 (.cells #[.int .i64 0, .int .i64 0, .int .i64 0, .int .i64 0, .int .i64 0, .int .i64 0, .int .i64 0, .int .i64 0, .int .i64 0, .int .i64 0, .int .i64 0, .int .i64 0, .int .i64 0, .int .i64 0, .int .i64 0, .int .i64 0, .int .i64 0, .int .i64 0] 25) none
                have HY1 := hide (World.heap_alloc_new Wk1 (.cells #[.int .i64 0, .int .i64 0, .int .i64 0, .int .i64 0, .int .i64 0, .int .i64 0, .int .i64 0, .int .i64 0, .int .i64 0, .int .i64 0, .int .i64 0, .int .i64 0, .int .i64 0, .int .i64 0, .int .i64 0, .int .i64 0, .int .i64 0, .int .i64 0] 25))
                have HL1 := hide HGr.out.size
                have HGr := hide (grownBy_trans HGr.out hg)
                clear hg
                refine hK.out _ _ (SF.out _ HGr.out) (fun hHeld => ?_)
                clear hK K
                (try simp only [Act.put])
                generalize hWn : Wk1.alloc (.cells #[.int .i64 0, .int .i64 0, .int .i64 0, .int .i64 0, .int .i64 0, .int .i64 0, .int .i64 0, .int .i64 0, .int .i64 0, .int .i64 0, .int .i64 0, .int .i64 0, .int .i64 0, .int .i64 0, .int .i64 0, .int .i64 0, .int .i64 0, .int .i64 0] 25) = Wk2 at *
                generalize hYn : Wk1.heap.size = Y1 at *
                clear hWn hYn
                refine wpAnyH_ready (rs := [14]) (by kernel_rfl) (by simp) ?_
                refine AllReadyH.cons rfl (fun K hK => ?_) AllReadyH.nil
                · go_simp
                  have hg := World.grownBy_alloc Wk2 (.cells #[.bool false, .int .i64 0, .int .i64 0, .int .i64 0, .bool false] 30) none
                  have HY2 := hide (World.heap_alloc_new Wk2 (.cells #[.bool false, .int .i64 0, .int .i64 0, .int .i64 0, .bool false] 30))
                  have HL2 := hide HGr.out.size
                  have HNE : Hid (Y1 ≠ Wk2.heap.size) := hide (by have := box_lt HY1.out; omega)
                  have HY1 := hide (box_grown HY1.out hg (by simp))
                  have HGr := hide (grownBy_trans HGr.out hg)
                  clear hg
                  refine hK.out _ _ (SF.out _ HGr.out) (fun hHeld => ?_)
                  clear hK K
                  (try simp only [Act.put])
                  generalize hWn : Wk2.alloc (.cells #[.bool false, .int .i64 0, .int .i64 0, .int .i64 0, .bool false] 30) = Wk3 at *
                  generalize hYn : Wk2.heap.size = Y2 at *
                  clear hWn hYn
                  refine wpAnyH_ready (rs := [15]) (by kernel_rfl) (by simp) ?_
                  refine AllReadyH.cons rfl (fun K hK => ?_) AllReadyH.nil
                  refine step_store 25 (.tmp 15) (.tmp 53) Y1 #[.int .i64 q0, .int .i64 q1, .int .i64 (qm 0), .int .i64 (qm 1), .int .i64 (qm 2), .int .i64 (qm 3), .int .i64 (qm 4), .int .i64 (qm 5), .int .i64 (qm 6), .int .i64 (qm 7), .int .i64 (qm 8), .int .i64 (qm 9), .int .i64 (qm 10), .int .i64 (qm 11), .int .i64 (qm 12), .int .i64 (qm 13), .int .i64 (qm 14), .int .i64 (qm 15)] 25 #[.int .i64 0, .int .i64 0, .int .i64 0, .int .i64 0, .int .i64 0, .int .i64 0, .int .i64 0, .int .i64 0, .int .i64 0, .int .i64 0, .int .i64 0, .int .i64 0, .int .i64 0, .int .i64 0, .int .i64 0, .int .i64 0, .int .i64 0, .int .i64 0] rfl rfl HY1.out sizeVm rfl (by simp [Value.oneCell']) ?_
                  intro w5 h5 e5 g5
                  have HG5 := hide (grown_spoil HGr.out HL1.out g5)
                  have HY2b := hide ((e5 Y2 (fun e => HNE.out e.symm)).trans HY2.out)
                  have HY1b := hide h5
                  clear h5 e5 g5
                  refine hK.out _ _ (SF.out _ HG5.out) (fun hHeld => ?_)
                  clear hK K
                  (try simp only [Act.put])
                  refine wpAnyH_ready (rs := [16]) (by kernel_rfl) (by simp) ?_
                  refine AllReadyH.cons rfl (fun K hK => ?_) AllReadyH.nil
                  refine step_store 30 (.tmp 16) (.tmp 54) Y2 #[.bool f0, .int .i64 f1, .int .i64 f2, .int .i64 f3, .bool f4] 30 #[.bool false, .int .i64 0, .int .i64 0, .int .i64 0, .bool false] rfl rfl HY2b.out sizeEf rfl (by simp [Value.oneCell']) ?_
                  intro w6 h6 e6 g6
                  have HG6 := hide (grown_spoil HG5.out HL2.out g6)
                  have HY1c := hide ((e6 Y1 HNE.out).trans HY1b.out)
                  have HY2c := hide h6
                  clear h6 e6 g6
                  refine hK.out _ _ (SF.out _ HG6.out) (fun hHeld => ?_)
                  clear hK K
                  (try simp only [Act.put])
                  refine take_put (i := 17) (v := .int .i64 E) 17 rfl rfl (by kernel_rfl) (by kernel_rfl) (by kernel_rfl) (fun _ _ _ h => h) (Or.inl ⟨by rfl, by intro W hSW; go_simp⟩) (by assumption) ?_
                  (try simp only [Act.put, List.setIfInBounds_toArray, List.set_cons_zero, List.set_cons_succ])
                  refine wpAnyH_done (by kernel_rfl) ?_ _
                  clear hHeld
                  go_wp2
                  go_meet
                  case rel => exact ⟨Y1, Y2, rfl, rfl, rfl, HY1c.out, HY2c.out, HG6.out, HL1.out⟩
              · go_simp
                have hg := World.grownBy_alloc Wk1 (.cells #[.bool false, .int .i64 0, .int .i64 0, .int .i64 0, .bool false] 30) none
                have HY2 := hide (World.heap_alloc_new Wk1 (.cells #[.bool false, .int .i64 0, .int .i64 0, .int .i64 0, .bool false] 30))
                have HL2 := hide HGr.out.size
                have HGr := hide (grownBy_trans HGr.out hg)
                clear hg
                refine hK.out _ _ (SF.out _ HGr.out) (fun hHeld => ?_)
                clear hK K
                (try simp only [Act.put])
                generalize hWn : Wk1.alloc (.cells #[.bool false, .int .i64 0, .int .i64 0, .int .i64 0, .bool false] 30) = Wk4 at *
                generalize hYn : Wk1.heap.size = Y2 at *
                clear hWn hYn
                refine wpAnyH_ready (rs := [13]) (by kernel_rfl) (by simp) ?_
                refine AllReadyH.cons rfl (fun K hK => ?_) AllReadyH.nil
                · go_simp
                  have hg := World.grownBy_alloc Wk4 (.cells #[.int .i64 0, .int .i64 0, .int .i64 0, .int .i64 0, .int .i64 0, .int .i64 0, .int .i64 0, .int .i64 0, .int .i64 0, .int .i64 0, .int .i64 0, .int .i64 0, .int .i64 0, .int .i64 0, .int .i64 0, .int .i64 0, .int .i64 0, .int .i64 0] 25) none
                  have HY1 := hide (World.heap_alloc_new Wk4 (.cells #[.int .i64 0, .int .i64 0, .int .i64 0, .int .i64 0, .int .i64 0, .int .i64 0, .int .i64 0, .int .i64 0, .int .i64 0, .int .i64 0, .int .i64 0, .int .i64 0, .int .i64 0, .int .i64 0, .int .i64 0, .int .i64 0, .int .i64 0, .int .i64 0] 25))
                  have HL1 := hide HGr.out.size
                  have HNE : Hid (Wk4.heap.size ≠ Y2) := hide (by have := box_lt HY2.out; omega)
                  have HY2 := hide (box_grown HY2.out hg (by simp))
                  have HGr := hide (grownBy_trans HGr.out hg)
                  clear hg
                  refine hK.out _ _ (SF.out _ HGr.out) (fun hHeld => ?_)
                  clear hK K
                  (try simp only [Act.put])
                  generalize hWn : Wk4.alloc (.cells #[.int .i64 0, .int .i64 0, .int .i64 0, .int .i64 0, .int .i64 0, .int .i64 0, .int .i64 0, .int .i64 0, .int .i64 0, .int .i64 0, .int .i64 0, .int .i64 0, .int .i64 0, .int .i64 0, .int .i64 0, .int .i64 0, .int .i64 0, .int .i64 0] 25) = Wk5 at *
                  generalize hYn : Wk4.heap.size = Y1 at *
                  clear hWn hYn
                  refine wpAnyH_ready (rs := [15]) (by kernel_rfl) (by simp) ?_
                  refine AllReadyH.cons rfl (fun K hK => ?_) AllReadyH.nil
                  refine step_store 25 (.tmp 15) (.tmp 53) Y1 #[.int .i64 q0, .int .i64 q1, .int .i64 (qm 0), .int .i64 (qm 1), .int .i64 (qm 2), .int .i64 (qm 3), .int .i64 (qm 4), .int .i64 (qm 5), .int .i64 (qm 6), .int .i64 (qm 7), .int .i64 (qm 8), .int .i64 (qm 9), .int .i64 (qm 10), .int .i64 (qm 11), .int .i64 (qm 12), .int .i64 (qm 13), .int .i64 (qm 14), .int .i64 (qm 15)] 25 #[.int .i64 0, .int .i64 0, .int .i64 0, .int .i64 0, .int .i64 0, .int .i64 0, .int .i64 0, .int .i64 0, .int .i64 0, .int .i64 0, .int .i64 0, .int .i64 0, .int .i64 0, .int .i64 0, .int .i64 0, .int .i64 0, .int .i64 0, .int .i64 0] rfl rfl HY1.out sizeVm rfl (by simp [Value.oneCell']) ?_
                  intro w5 h5 e5 g5
                  have HG5 := hide (grown_spoil HGr.out HL1.out g5)
                  have HY2b := hide ((e5 Y2 (fun e => HNE.out e.symm)).trans HY2.out)
                  have HY1b := hide h5
                  clear h5 e5 g5
                  refine hK.out _ _ (SF.out _ HG5.out) (fun hHeld => ?_)
                  clear hK K
                  (try simp only [Act.put])
                  refine wpAnyH_ready (rs := [16]) (by kernel_rfl) (by simp) ?_
                  refine AllReadyH.cons rfl (fun K hK => ?_) AllReadyH.nil
                  refine step_store 30 (.tmp 16) (.tmp 54) Y2 #[.bool f0, .int .i64 f1, .int .i64 f2, .int .i64 f3, .bool f4] 30 #[.bool false, .int .i64 0, .int .i64 0, .int .i64 0, .bool false] rfl rfl HY2b.out sizeEf rfl (by simp [Value.oneCell']) ?_
                  intro w6 h6 e6 g6
                  have HG6 := hide (grown_spoil HG5.out HL2.out g6)
                  have HY1c := hide ((e6 Y1 HNE.out).trans HY1b.out)
                  have HY2c := hide h6
                  clear h6 e6 g6
                  refine hK.out _ _ (SF.out _ HG6.out) (fun hHeld => ?_)
                  clear hK K
                  (try simp only [Act.put])
                  refine take_put (i := 17) (v := .int .i64 E) 17 rfl rfl (by kernel_rfl) (by kernel_rfl) (by kernel_rfl) (fun _ _ _ h => h) (Or.inl ⟨by rfl, by intro W hSW; go_simp⟩) (by assumption) ?_
                  (try simp only [Act.put, List.setIfInBounds_toArray, List.set_cons_zero, List.set_cons_succ])
                  refine wpAnyH_done (by kernel_rfl) ?_ _
                  clear hHeld
                  go_wp2
                  go_meet
                  case rel => exact ⟨Y1, Y2, rfl, rfl, rfl, HY1c.out, HY2c.out, HG6.out, HL1.out⟩
            · go_simp
              have hg := World.grownBy_alloc W (.cells #[.int .i64 0, .int .i64 0, .int .i64 0, .int .i64 0, .int .i64 0, .int .i64 0, .int .i64 0, .int .i64 0, .int .i64 0, .int .i64 0, .int .i64 0, .int .i64 0, .int .i64 0, .int .i64 0, .int .i64 0, .int .i64 0, .int .i64 0, .int .i64 0] 25) none
              have HY1 := hide (World.heap_alloc_new W (.cells #[.int .i64 0, .int .i64 0, .int .i64 0, .int .i64 0, .int .i64 0, .int .i64 0, .int .i64 0, .int .i64 0, .int .i64 0, .int .i64 0, .int .i64 0, .int .i64 0, .int .i64 0, .int .i64 0, .int .i64 0, .int .i64 0, .int .i64 0, .int .i64 0] 25))
              have HL1 := hide HGr.out.size
              have HGr := hide (grownBy_trans HGr.out hg)
              clear hg
              refine hK.out _ _ (SF.out _ HGr.out) (fun hHeld => ?_)
              clear hK K
              (try simp only [Act.put])
              generalize hWn : W.alloc (.cells #[.int .i64 0, .int .i64 0, .int .i64 0, .int .i64 0, .int .i64 0, .int .i64 0, .int .i64 0, .int .i64 0, .int .i64 0, .int .i64 0, .int .i64 0, .int .i64 0, .int .i64 0, .int .i64 0, .int .i64 0, .int .i64 0, .int .i64 0, .int .i64 0] 25) = Wk6 at *
              generalize hYn : W.heap.size = Y1 at *
              clear hWn hYn
              refine wpAnyH_ready (rs := [8, 14]) (by kernel_rfl) (by simp) ?_
              refine AllReadyH.cons rfl (fun K hK => ?_) (AllReadyH.cons rfl (fun K hK => ?_) AllReadyH.nil)
              · go_simp
                refine (CRx.out _ (grownBy_trans HG.out HGr.out)).mono ?_; rintro e Wk7 ⟨rfl, hg⟩
                have HY1 := hide (box_grown HY1.out hg (by simp))
                have HGr := hide (grownBy_trans HGr.out hg)
                clear hg
                refine hK.out _ _ (SF.out _ HGr.out) (fun hHeld => ?_)
                clear hK K
                (try simp only [Act.put])
                refine take_put (i := 9) (v := .tuple #[.agg #[.int .i64 q0, .int .i64 q1, .int .i64 (qm 0), .int .i64 (qm 1), .int .i64 (qm 2), .int .i64 (qm 3), .int .i64 (qm 4), .int .i64 (qm 5), .int .i64 (qm 6), .int .i64 (qm 7), .int .i64 (qm 8), .int .i64 (qm 9), .int .i64 (qm 10), .int .i64 (qm 11), .int .i64 (qm 12), .int .i64 (qm 13), .int .i64 (qm 14), .int .i64 (qm 15)], .agg #[.bool f0, .int .i64 f1, .int .i64 f2, .int .i64 f3, .bool f4], .int .i64 E]) 43 rfl rfl (by kernel_rfl) (by kernel_rfl) (by kernel_rfl) (fun _ _ _ h => h) (Or.inl ⟨by rfl, by intro W hSW; go_simp⟩) (by assumption) ?_
                (try simp only [Act.put, List.setIfInBounds_toArray, List.set_cons_zero, List.set_cons_succ])
                refine take_put (i := 10) (v := .agg #[.int .i64 q0, .int .i64 q1, .int .i64 (qm 0), .int .i64 (qm 1), .int .i64 (qm 2), .int .i64 (qm 3), .int .i64 (qm 4), .int .i64 (qm 5), .int .i64 (qm 6), .int .i64 (qm 7), .int .i64 (qm 8), .int .i64 (qm 9), .int .i64 (qm 10), .int .i64 (qm 11), .int .i64 (qm 12), .int .i64 (qm 13), .int .i64 (qm 14), .int .i64 (qm 15)]) 53 rfl rfl (by kernel_rfl) (by kernel_rfl) (by kernel_rfl) (fun _ _ _ h => h) (Or.inl ⟨by rfl, by intro W hSW; go_simp⟩) (by assumption) ?_
                (try simp only [Act.put, List.setIfInBounds_toArray, List.set_cons_zero, List.set_cons_succ])
                refine take_put (i := 11) (v := .agg #[.bool f0, .int .i64 f1, .int .i64 f2, .int .i64 f3, .bool f4]) 54 rfl rfl (by kernel_rfl) (by kernel_rfl) (by kernel_rfl) (fun _ _ _ h => h) (Or.inl ⟨by rfl, by intro W hSW; go_simp⟩) (by assumption) ?_
                (try simp only [Act.put, List.setIfInBounds_toArray, List.set_cons_zero, List.set_cons_succ])
                refine take_put (i := 12) (v := .int .i64 E) 55 rfl rfl (by kernel_rfl) (by kernel_rfl) (by kernel_rfl) (fun _ _ _ h => h) (Or.inl ⟨by rfl, by intro W hSW; go_simp⟩) (by assumption) ?_
                (try simp only [Act.put, List.setIfInBounds_toArray, List.set_cons_zero, List.set_cons_succ])
                refine wpAnyH_ready (rs := [14]) (by kernel_rfl) (by simp) ?_
                refine AllReadyH.cons rfl (fun K hK => ?_) AllReadyH.nil
                · go_simp
                  have hg := World.grownBy_alloc Wk7 (.cells #[.bool false, .int .i64 0, .int .i64 0, .int .i64 0, .bool false] 30) none
                  have HY2 := hide (World.heap_alloc_new Wk7 (.cells #[.bool false, .int .i64 0, .int .i64 0, .int .i64 0, .bool false] 30))
                  have HL2 := hide HGr.out.size
                  have HNE : Hid (Y1 ≠ Wk7.heap.size) := hide (by have := box_lt HY1.out; omega)
                  have HY1 := hide (box_grown HY1.out hg (by simp))
                  have HGr := hide (grownBy_trans HGr.out hg)
                  clear hg
                  refine hK.out _ _ (SF.out _ HGr.out) (fun hHeld => ?_)
                  clear hK K
                  (try simp only [Act.put])
                  generalize hWn : Wk7.alloc (.cells #[.bool false, .int .i64 0, .int .i64 0, .int .i64 0, .bool false] 30) = Wk8 at *
                  generalize hYn : Wk7.heap.size = Y2 at *
                  clear hWn hYn
                  refine wpAnyH_ready (rs := [15]) (by kernel_rfl) (by simp) ?_
                  refine AllReadyH.cons rfl (fun K hK => ?_) AllReadyH.nil
                  refine step_store 25 (.tmp 15) (.tmp 53) Y1 #[.int .i64 q0, .int .i64 q1, .int .i64 (qm 0), .int .i64 (qm 1), .int .i64 (qm 2), .int .i64 (qm 3), .int .i64 (qm 4), .int .i64 (qm 5), .int .i64 (qm 6), .int .i64 (qm 7), .int .i64 (qm 8), .int .i64 (qm 9), .int .i64 (qm 10), .int .i64 (qm 11), .int .i64 (qm 12), .int .i64 (qm 13), .int .i64 (qm 14), .int .i64 (qm 15)] 25 #[.int .i64 0, .int .i64 0, .int .i64 0, .int .i64 0, .int .i64 0, .int .i64 0, .int .i64 0, .int .i64 0, .int .i64 0, .int .i64 0, .int .i64 0, .int .i64 0, .int .i64 0, .int .i64 0, .int .i64 0, .int .i64 0, .int .i64 0, .int .i64 0] rfl rfl HY1.out sizeVm rfl (by simp [Value.oneCell']) ?_
                  intro w5 h5 e5 g5
                  have HG5 := hide (grown_spoil HGr.out HL1.out g5)
                  have HY2b := hide ((e5 Y2 (fun e => HNE.out e.symm)).trans HY2.out)
                  have HY1b := hide h5
                  clear h5 e5 g5
                  refine hK.out _ _ (SF.out _ HG5.out) (fun hHeld => ?_)
                  clear hK K
                  (try simp only [Act.put])
                  refine wpAnyH_ready (rs := [16]) (by kernel_rfl) (by simp) ?_
                  refine AllReadyH.cons rfl (fun K hK => ?_) AllReadyH.nil
                  refine step_store 30 (.tmp 16) (.tmp 54) Y2 #[.bool f0, .int .i64 f1, .int .i64 f2, .int .i64 f3, .bool f4] 30 #[.bool false, .int .i64 0, .int .i64 0, .int .i64 0, .bool false] rfl rfl HY2b.out sizeEf rfl (by simp [Value.oneCell']) ?_
                  intro w6 h6 e6 g6
                  have HG6 := hide (grown_spoil HG5.out HL2.out g6)
                  have HY1c := hide ((e6 Y1 HNE.out).trans HY1b.out)
                  have HY2c := hide h6
                  clear h6 e6 g6
                  refine hK.out _ _ (SF.out _ HG6.out) (fun hHeld => ?_)
                  clear hK K
                  (try simp only [Act.put])
                  refine take_put (i := 17) (v := .int .i64 E) 17 rfl rfl (by kernel_rfl) (by kernel_rfl) (by kernel_rfl) (fun _ _ _ h => h) (Or.inl ⟨by rfl, by intro W hSW; go_simp⟩) (by assumption) ?_
                  (try simp only [Act.put, List.setIfInBounds_toArray, List.set_cons_zero, List.set_cons_succ])
                  refine wpAnyH_done (by kernel_rfl) ?_ _
                  clear hHeld
                  go_wp2
                  go_meet
                  case rel => exact ⟨Y1, Y2, rfl, rfl, rfl, HY1c.out, HY2c.out, HG6.out, HL1.out⟩
              · go_simp
                have hg := World.grownBy_alloc Wk6 (.cells #[.bool false, .int .i64 0, .int .i64 0, .int .i64 0, .bool false] 30) none
                have HY2 := hide (World.heap_alloc_new Wk6 (.cells #[.bool false, .int .i64 0, .int .i64 0, .int .i64 0, .bool false] 30))
                have HL2 := hide HGr.out.size
                have HNE : Hid (Y1 ≠ Wk6.heap.size) := hide (by have := box_lt HY1.out; omega)
                have HY1 := hide (box_grown HY1.out hg (by simp))
                have HGr := hide (grownBy_trans HGr.out hg)
                clear hg
                refine hK.out _ _ (SF.out _ HGr.out) (fun hHeld => ?_)
                clear hK K
                (try simp only [Act.put])
                generalize hWn : Wk6.alloc (.cells #[.bool false, .int .i64 0, .int .i64 0, .int .i64 0, .bool false] 30) = Wk9 at *
                generalize hYn : Wk6.heap.size = Y2 at *
                clear hWn hYn
                refine wpAnyH_ready (rs := [8]) (by kernel_rfl) (by simp) ?_
                refine AllReadyH.cons rfl (fun K hK => ?_) AllReadyH.nil
                · go_simp
                  refine (CRx.out _ (grownBy_trans HG.out HGr.out)).mono ?_; rintro e Wk10 ⟨rfl, hg⟩
                  have HY1 := hide (box_grown HY1.out hg (by simp))
                  have HY2 := hide (box_grown HY2.out hg (by simp))
                  have HGr := hide (grownBy_trans HGr.out hg)
                  clear hg
                  refine hK.out _ _ (SF.out _ HGr.out) (fun hHeld => ?_)
                  clear hK K
                  (try simp only [Act.put])
                  refine take_put (i := 9) (v := .tuple #[.agg #[.int .i64 q0, .int .i64 q1, .int .i64 (qm 0), .int .i64 (qm 1), .int .i64 (qm 2), .int .i64 (qm 3), .int .i64 (qm 4), .int .i64 (qm 5), .int .i64 (qm 6), .int .i64 (qm 7), .int .i64 (qm 8), .int .i64 (qm 9), .int .i64 (qm 10), .int .i64 (qm 11), .int .i64 (qm 12), .int .i64 (qm 13), .int .i64 (qm 14), .int .i64 (qm 15)], .agg #[.bool f0, .int .i64 f1, .int .i64 f2, .int .i64 f3, .bool f4], .int .i64 E]) 43 rfl rfl (by kernel_rfl) (by kernel_rfl) (by kernel_rfl) (fun _ _ _ h => h) (Or.inl ⟨by rfl, by intro W hSW; go_simp⟩) (by assumption) ?_
                  (try simp only [Act.put, List.setIfInBounds_toArray, List.set_cons_zero, List.set_cons_succ])
                  refine take_put (i := 10) (v := .agg #[.int .i64 q0, .int .i64 q1, .int .i64 (qm 0), .int .i64 (qm 1), .int .i64 (qm 2), .int .i64 (qm 3), .int .i64 (qm 4), .int .i64 (qm 5), .int .i64 (qm 6), .int .i64 (qm 7), .int .i64 (qm 8), .int .i64 (qm 9), .int .i64 (qm 10), .int .i64 (qm 11), .int .i64 (qm 12), .int .i64 (qm 13), .int .i64 (qm 14), .int .i64 (qm 15)]) 53 rfl rfl (by kernel_rfl) (by kernel_rfl) (by kernel_rfl) (fun _ _ _ h => h) (Or.inl ⟨by rfl, by intro W hSW; go_simp⟩) (by assumption) ?_
                  (try simp only [Act.put, List.setIfInBounds_toArray, List.set_cons_zero, List.set_cons_succ])
                  refine take_put (i := 11) (v := .agg #[.bool f0, .int .i64 f1, .int .i64 f2, .int .i64 f3, .bool f4]) 54 rfl rfl (by kernel_rfl) (by kernel_rfl) (by kernel_rfl) (fun _ _ _ h => h) (Or.inl ⟨by rfl, by intro W hSW; go_simp⟩) (by assumption) ?_
                  (try simp only [Act.put, List.setIfInBounds_toArray, List.set_cons_zero, List.set_cons_succ])
                  refine take_put (i := 12) (v := .int .i64 E) 55 rfl rfl (by kernel_rfl) (by kernel_rfl) (by kernel_rfl) (fun _ _ _ h => h) (Or.inl ⟨by rfl, by intro W hSW; go_simp⟩) (by assumption) ?_
                  (try simp only [Act.put, List.setIfInBounds_toArray, List.set_cons_zero, List.set_cons_succ])
                  refine wpAnyH_ready (rs := [15]) (by kernel_rfl) (by simp) ?_
                  refine AllReadyH.cons rfl (fun K hK => ?_) AllReadyH.nil
                  refine step_store 25 (.tmp 15) (.tmp 53) Y1 #[.int .i64 q0, .int .i64 q1, .int .i64 (qm 0), .int .i64 (qm 1), .int .i64 (qm 2), .int .i64 (qm 3), .int .i64 (qm 4), .int .i64 (qm 5), .int .i64 (qm 6), .int .i64 (qm 7), .int .i64 (qm 8), .int .i64 (qm 9), .int .i64 (qm 10), .int .i64 (qm 11), .int .i64 (qm 12), .int .i64 (qm 13), .int .i64 (qm 14), .int .i64 (qm 15)] 25 #[.int .i64 0, .int .i64 0, .int .i64 0, .int .i64 0, .int .i64 0, .int .i64 0, .int .i64 0, .int .i64 0, .int .i64 0, .int .i64 0, .int .i64 0, .int .i64 0, .int .i64 0, .int .i64 0, .int .i64 0, .int .i64 0, .int .i64 0, .int .i64 0] rfl rfl HY1.out sizeVm rfl (by simp [Value.oneCell']) ?_
                  intro w5 h5 e5 g5
                  have HG5 := hide (grown_spoil HGr.out HL1.out g5)
                  have HY2b := hide ((e5 Y2 (fun e => HNE.out e.symm)).trans HY2.out)
                  have HY1b := hide h5
                  clear h5 e5 g5
                  refine hK.out _ _ (SF.out _ HG5.out) (fun hHeld => ?_)
                  clear hK K
                  (try simp only [Act.put])
                  refine wpAnyH_ready (rs := [16]) (by kernel_rfl) (by simp) ?_
                  refine AllReadyH.cons rfl (fun K hK => ?_) AllReadyH.nil
                  refine step_store 30 (.tmp 16) (.tmp 54) Y2 #[.bool f0, .int .i64 f1, .int .i64 f2, .int .i64 f3, .bool f4] 30 #[.bool false, .int .i64 0, .int .i64 0, .int .i64 0, .bool false] rfl rfl HY2b.out sizeEf rfl (by simp [Value.oneCell']) ?_
                  intro w6 h6 e6 g6
                  have HG6 := hide (grown_spoil HG5.out HL2.out g6)
                  have HY1c := hide ((e6 Y1 HNE.out).trans HY1b.out)
                  have HY2c := hide h6
                  clear h6 e6 g6
                  refine hK.out _ _ (SF.out _ HG6.out) (fun hHeld => ?_)
                  clear hK K
                  (try simp only [Act.put])
                  refine take_put (i := 17) (v := .int .i64 E) 17 rfl rfl (by kernel_rfl) (by kernel_rfl) (by kernel_rfl) (fun _ _ _ h => h) (Or.inl ⟨by rfl, by intro W hSW; go_simp⟩) (by assumption) ?_
                  (try simp only [Act.put, List.setIfInBounds_toArray, List.set_cons_zero, List.set_cons_succ])
                  refine wpAnyH_done (by kernel_rfl) ?_ _
                  clear hHeld
                  go_wp2
                  go_meet
                  case rel => exact ⟨Y1, Y2, rfl, rfl, rfl, HY1c.out, HY2c.out, HG6.out, HL1.out⟩
            · go_simp
              have hg := World.grownBy_alloc W (.cells #[.bool false, .int .i64 0, .int .i64 0, .int .i64 0, .bool false] 30) none
              have HY2 := hide (World.heap_alloc_new W (.cells #[.bool false, .int .i64 0, .int .i64 0, .int .i64 0, .bool false] 30))
              have HL2 := hide HGr.out.size
              have HGr := hide (grownBy_trans HGr.out hg)
              clear hg
              refine hK.out _ _ (SF.out _ HGr.out) (fun hHeld => ?_)
              clear hK K
              (try simp only [Act.put])
              generalize hWn : W.alloc (.cells #[.bool false, .int .i64 0, .int .i64 0, .int .i64 0, .bool false] 30) = Wk11 at *
              generalize hYn : W.heap.size = Y2 at *
              clear hWn hYn
              refine wpAnyH_ready (rs := [8, 13]) (by kernel_rfl) (by simp) ?_
              refine AllReadyH.cons rfl (fun K hK => ?_) (AllReadyH.cons rfl (fun K hK => ?_) AllReadyH.nil)
              · go_simp
                refine (CRx.out _ (grownBy_trans HG.out HGr.out)).mono ?_; rintro e Wk12 ⟨rfl, hg⟩
                have HY2 := hide (box_grown HY2.out hg (by simp))
                have HGr := hide (grownBy_trans HGr.out hg)
                clear hg
                refine hK.out _ _ (SF.out _ HGr.out) (fun hHeld => ?_)
                clear hK K
                (try simp only [Act.put])
                refine take_put (i := 9) (v := .tuple #[.agg #[.int .i64 q0, .int .i64 q1, .int .i64 (qm 0), .int .i64 (qm 1), .int .i64 (qm 2), .int .i64 (qm 3), .int .i64 (qm 4), .int .i64 (qm 5), .int .i64 (qm 6), .int .i64 (qm 7), .int .i64 (qm 8), .int .i64 (qm 9), .int .i64 (qm 10), .int .i64 (qm 11), .int .i64 (qm 12), .int .i64 (qm 13), .int .i64 (qm 14), .int .i64 (qm 15)], .agg #[.bool f0, .int .i64 f1, .int .i64 f2, .int .i64 f3, .bool f4], .int .i64 E]) 43 rfl rfl (by kernel_rfl) (by kernel_rfl) (by kernel_rfl) (fun _ _ _ h => h) (Or.inl ⟨by rfl, by intro W hSW; go_simp⟩) (by assumption) ?_
                (try simp only [Act.put, List.setIfInBounds_toArray, List.set_cons_zero, List.set_cons_succ])
                refine take_put (i := 10) (v := .agg #[.int .i64 q0, .int .i64 q1, .int .i64 (qm 0), .int .i64 (qm 1), .int .i64 (qm 2), .int .i64 (qm 3), .int .i64 (qm 4), .int .i64 (qm 5), .int .i64 (qm 6), .int .i64 (qm 7), .int .i64 (qm 8), .int .i64 (qm 9), .int .i64 (qm 10), .int .i64 (qm 11), .int .i64 (qm 12), .int .i64 (qm 13), .int .i64 (qm 14), .int .i64 (qm 15)]) 53 rfl rfl (by kernel_rfl) (by kernel_rfl) (by kernel_rfl) (fun _ _ _ h => h) (Or.inl ⟨by rfl, by intro W hSW; go_simp⟩) (by assumption) ?_
                (try simp only [Act.put, List.setIfInBounds_toArray, List.set_cons_zero, List.set_cons_succ])
                refine take_put (i := 11) (v := .agg #[.bool f0, .int .i64 f1, .int .i64 f2, .int .i64 f3, .bool f4]) 54 rfl rfl (by kernel_rfl) (by kernel_rfl) (by kernel_rfl) (fun _ _ _ h => h) (Or.inl ⟨by rfl, by intro W hSW; go_simp⟩) (by assumption) ?_
                (try simp only [Act.put, List.setIfInBounds_toArray, List.set_cons_zero, List.set_cons_succ])
                refine take_put (i := 12) (v := .int .i64 E) 55 rfl rfl (by kernel_rfl) (by kernel_rfl) (by kernel_rfl) (fun _ _ _ h => h) (Or.inl ⟨by rfl, by intro W hSW; go_simp⟩) (by assumption) ?_
                (try simp only [Act.put, List.setIfInBounds_toArray, List.set_cons_zero, List.set_cons_succ])
                refine wpAnyH_ready (rs := [13]) (by kernel_rfl) (by simp) ?_
                refine AllReadyH.cons rfl (fun K hK => ?_) AllReadyH.nil
                · go_simp
                  have hg := World.grownBy_alloc Wk12 (.cells #[.int .i64 0, .int .i64 0, .int .i64 0, .int .i64 0, .int .i64 0, .int .i64 0, .int .i64 0, .int .i64 0, .int .i64 0, .int .i64 0, .int .i64 0, .int .i64 0, .int .i64 0, .int .i64 0, .int .i64 0, .int .i64 0, .int .i64 0, .int .i64 0] 25) none
                  have HY1 := hide (World.heap_alloc_new Wk12 (.cells #[.int .i64 0, .int .i64 0, .int .i64 0, .int .i64 0, .int .i64 0, .int .i64 0, .int .i64 0, .int .i64 0, .int .i64 0, .int .i64 0, .int .i64 0, .int .i64 0, .int .i64 0, .int .i64 0, .int .i64 0, .int .i64 0, .int .i64 0, .int .i64 0] 25))
                  have HL1 := hide HGr.out.size
                  have HNE : Hid (Wk12.heap.size ≠ Y2) := hide (by have := box_lt HY2.out; omega)
                  have HY2 := hide (box_grown HY2.out hg (by simp))
                  have HGr := hide (grownBy_trans HGr.out hg)
                  clear hg
                  refine hK.out _ _ (SF.out _ HGr.out) (fun hHeld => ?_)
                  clear hK K
                  (try simp only [Act.put])
                  generalize hWn : Wk12.alloc (.cells #[.int .i64 0, .int .i64 0, .int .i64 0, .int .i64 0, .int .i64 0, .int .i64 0, .int .i64 0, .int .i64 0, .int .i64 0, .int .i64 0, .int .i64 0, .int .i64 0, .int .i64 0, .int .i64 0, .int .i64 0, .int .i64 0, .int .i64 0, .int .i64 0] 25) = Wk13 at *
                  generalize hYn : Wk12.heap.size = Y1 at *
                  clear hWn hYn
                  refine wpAnyH_ready (rs := [15]) (by kernel_rfl) (by simp) ?_
                  refine AllReadyH.cons rfl (fun K hK => ?_) AllReadyH.nil
                  refine step_store 25 (.tmp 15) (.tmp 53) Y1 #[.int .i64 q0, .int .i64 q1, .int .i64 (qm 0), .int .i64 (qm 1), .int .i64 (qm 2), .int .i64 (qm 3), .int .i64 (qm 4), .int .i64 (qm 5), .int .i64 (qm 6), .int .i64 (qm 7), .int .i64 (qm 8), .int .i64 (qm 9), .int .i64 (qm 10), .int .i64 (qm 11), .int .i64 (qm 12), .int .i64 (qm 13), .int .i64 (qm 14), .int .i64 (qm 15)] 25 #[.int .i64 0, .int .i64 0, .int .i64 0, .int .i64 0, .int .i64 0, .int .i64 0, .int .i64 0, .int .i64 0, .int .i64 0, .int .i64 0, .int .i64 0, .int .i64 0, .int .i64 0, .int .i64 0, .int .i64 0, .int .i64 0, .int .i64 0, .int .i64 0] rfl rfl HY1.out sizeVm rfl (by simp [Value.oneCell']) ?_
                  intro w5 h5 e5 g5
                  have HG5 := hide (grown_spoil HGr.out HL1.out g5)
                  have HY2b := hide ((e5 Y2 (fun e => HNE.out e.symm)).trans HY2.out)
                  have HY1b := hide h5
                  clear h5 e5 g5
                  refine hK.out _ _ (SF.out _ HG5.out) (fun hHeld => ?_)
                  clear hK K
                  (try simp only [Act.put])
                  refine wpAnyH_ready (rs := [16]) (by kernel_rfl) (by simp) ?_
                  refine AllReadyH.cons rfl (fun K hK => ?_) AllReadyH.nil
                  refine step_store 30 (.tmp 16) (.tmp 54) Y2 #[.bool f0, .int .i64 f1, .int .i64 f2, .int .i64 f3, .bool f4] 30 #[.bool false, .int .i64 0, .int .i64 0, .int .i64 0, .bool false] rfl rfl HY2b.out sizeEf rfl (by simp [Value.oneCell']) ?_
                  intro w6 h6 e6 g6
                  have HG6 := hide (grown_spoil HG5.out HL2.out g6)
                  have HY1c := hide ((e6 Y1 HNE.out).trans HY1b.out)
                  have HY2c := hide h6
                  clear h6 e6 g6
                  refine hK.out _ _ (SF.out _ HG6.out) (fun hHeld => ?_)
                  clear hK K
                  (try simp only [Act.put])
                  refine take_put (i := 17) (v := .int .i64 E) 17 rfl rfl (by kernel_rfl) (by kernel_rfl) (by kernel_rfl) (fun _ _ _ h => h) (Or.inl ⟨by rfl, by intro W hSW; go_simp⟩) (by assumption) ?_
                  (try simp only [Act.put, List.setIfInBounds_toArray, List.set_cons_zero, List.set_cons_succ])
                  refine wpAnyH_done (by kernel_rfl) ?_ _
                  clear hHeld
                  go_wp2
                  go_meet
                  case rel => exact ⟨Y1, Y2, rfl, rfl, rfl, HY1c.out, HY2c.out, HG6.out, HL1.out⟩
              · go_simp
                have hg := World.grownBy_alloc Wk11 (.cells #[.int .i64 0, .int .i64 0, .int .i64 0, .int .i64 0, .int .i64 0, .int .i64 0, .int .i64 0, .int .i64 0, .int .i64 0, .int .i64 0, .int .i64 0, .int .i64 0, .int .i64 0, .int .i64 0, .int .i64 0, .int .i64 0, .int .i64 0, .int .i64 0] 25) none
                have HY1 := hide (World.heap_alloc_new Wk11 (.cells #[.int .i64 0, .int .i64 0, .int .i64 0, .int .i64 0, .int .i64 0, .int .i64 0, .int .i64 0, .int .i64 0, .int .i64 0, .int .i64 0, .int .i64 0, .int .i64 0, .int .i64 0, .int .i64 0, .int .i64 0, .int .i64 0, .int .i64 0, .int .i64 0] 25))
                have HL1 := hide HGr.out.size
                have HNE : Hid (Wk11.heap.size ≠ Y2) := hide (by have := box_lt HY2.out; omega)
                have HY2 := hide (box_grown HY2.out hg (by simp))
                have HGr := hide (grownBy_trans HGr.out hg)
                clear hg
                refine hK.out _ _ (SF.out _ HGr.out) (fun hHeld => ?_)
                clear hK K
                (try simp only [Act.put])
                generalize hWn : Wk11.alloc (.cells #[.int .i64 0, .int .i64 0, .int .i64 0, .int .i64 0, .int .i64 0, .int .i64 0, .int .i64 0, .int .i64 0, .int .i64 0, .int .i64 0, .int .i64 0, .int .i64 0, .int .i64 0, .int .i64 0, .int .i64 0, .int .i64 0, .int .i64 0, .int .i64 0] 25) = Wk14 at *
                generalize hYn : Wk11.heap.size = Y1 at *
                clear hWn hYn
                refine wpAnyH_ready (rs := [8]) (by kernel_rfl) (by simp) ?_
                refine AllReadyH.cons rfl (fun K hK => ?_) AllReadyH.nil
                · go_simp
                  refine (CRx.out _ (grownBy_trans HG.out HGr.out)).mono ?_; rintro e Wk15 ⟨rfl, hg⟩
                  have HY1 := hide (box_grown HY1.out hg (by simp))
                  have HY2 := hide (box_grown HY2.out hg (by simp))
                  have HGr := hide (grownBy_trans HGr.out hg)
                  clear hg
                  refine hK.out _ _ (SF.out _ HGr.out) (fun hHeld => ?_)
                  clear hK K
                  (try simp only [Act.put])
                  refine take_put (i := 9) (v := .tuple #[.agg #[.int .i64 q0, .int .i64 q1, .int .i64 (qm 0), .int .i64 (qm 1), .int .i64 (qm 2), .int .i64 (qm 3), .int .i64 (qm 4), .int .i64 (qm 5), .int .i64 (qm 6), .int .i64 (qm 7), .int .i64 (qm 8), .int .i64 (qm 9), .int .i64 (qm 10), .int .i64 (qm 11), .int .i64 (qm 12), .int .i64 (qm 13), .int .i64 (qm 14), .int .i64 (qm 15)], .agg #[.bool f0, .int .i64 f1, .int .i64 f2, .int .i64 f3, .bool f4], .int .i64 E]) 43 rfl rfl (by kernel_rfl) (by kernel_rfl) (by kernel_rfl) (fun _ _ _ h => h) (Or.inl ⟨by rfl, by intro W hSW; go_simp⟩) (by assumption) ?_
                  (try simp only [Act.put, List.setIfInBounds_toArray, List.set_cons_zero, List.set_cons_succ])
                  refine take_put (i := 10) (v := .agg #[.int .i64 q0, .int .i64 q1, .int .i64 (qm 0), .int .i64 (qm 1), .int .i64 (qm 2), .int .i64 (qm 3), .int .i64 (qm 4), .int .i64 (qm 5), .int .i64 (qm 6), .int .i64 (qm 7), .int .i64 (qm 8), .int .i64 (qm 9), .int .i64 (qm 10), .int .i64 (qm 11), .int .i64 (qm 12), .int .i64 (qm 13), .int .i64 (qm 14), .int .i64 (qm 15)]) 53 rfl rfl (by kernel_rfl) (by kernel_rfl) (by kernel_rfl) (fun _ _ _ h => h) (Or.inl ⟨by rfl, by intro W hSW; go_simp⟩) (by assumption) ?_
                  (try simp only [Act.put, List.setIfInBounds_toArray, List.set_cons_zero, List.set_cons_succ])
                  refine take_put (i := 11) (v := .agg #[.bool f0, .int .i64 f1, .int .i64 f2, .int .i64 f3, .bool f4]) 54 rfl rfl (by kernel_rfl) (by kernel_rfl) (by kernel_rfl) (fun _ _ _ h => h) (Or.inl ⟨by rfl, by intro W hSW; go_simp⟩) (by assumption) ?_
                  (try simp only [Act.put, List.setIfInBounds_toArray, List.set_cons_zero, List.set_cons_succ])
                  refine take_put (i := 12) (v := .int .i64 E) 55 rfl rfl (by kernel_rfl) (by kernel_rfl) (by kernel_rfl) (fun _ _ _ h => h) (Or.inl ⟨by rfl, by intro W hSW; go_simp⟩) (by assumption) ?_
                  (try simp only [Act.put, List.setIfInBounds_toArray, List.set_cons_zero, List.set_cons_succ])
                  refine wpAnyH_ready (rs := [15]) (by kernel_rfl) (by simp) ?_
                  refine AllReadyH.cons rfl (fun K hK => ?_) AllReadyH.nil
                  refine step_store 25 (.tmp 15) (.tmp 53) Y1 #[.int .i64 q0, .int .i64 q1, .int .i64 (qm 0), .int .i64 (qm 1), .int .i64 (qm 2), .int .i64 (qm 3), .int .i64 (qm 4), .int .i64 (qm 5), .int .i64 (qm 6), .int .i64 (qm 7), .int .i64 (qm 8), .int .i64 (qm 9), .int .i64 (qm 10), .int .i64 (qm 11), .int .i64 (qm 12), .int .i64 (qm 13), .int .i64 (qm 14), .int .i64 (qm 15)] 25 #[.int .i64 0, .int .i64 0, .int .i64 0, .int .i64 0, .int .i64 0, .int .i64 0, .int .i64 0, .int .i64 0, .int .i64 0, .int .i64 0, .int .i64 0, .int .i64 0, .int .i64 0, .int .i64 0, .int .i64 0, .int .i64 0, .int .i64 0, .int .i64 0] rfl rfl HY1.out sizeVm rfl (by simp [Value.oneCell']) ?_
                  intro w5 h5 e5 g5
                  have HG5 := hide (grown_spoil HGr.out HL1.out g5)
                  have HY2b := hide ((e5 Y2 (fun e => HNE.out e.symm)).trans HY2.out)
                  have HY1b := hide h5
                  clear h5 e5 g5
                  refine hK.out _ _ (SF.out _ HG5.out) (fun hHeld => ?_)
                  clear hK K
                  (try simp only [Act.put])
                  refine wpAnyH_ready (rs := [16]) (by kernel_rfl) (by simp) ?_
                  refine AllReadyH.cons rfl (fun K hK => ?_) AllReadyH.nil
                  refine step_store 30 (.tmp 16) (.tmp 54) Y2 #[.bool f0, .int .i64 f1, .int .i64 f2, .int .i64 f3, .bool f4] 30 #[.bool false, .int .i64 0, .int .i64 0, .int .i64 0, .bool false] rfl rfl HY2b.out sizeEf rfl (by simp [Value.oneCell']) ?_
                  intro w6 h6 e6 g6
                  have HG6 := hide (grown_spoil HG5.out HL2.out g6)
                  have HY1c := hide ((e6 Y1 HNE.out).trans HY1b.out)
                  have HY2c := hide h6
                  clear h6 e6 g6
                  refine hK.out _ _ (SF.out _ HG6.out) (fun hHeld => ?_)
                  clear hK K
                  (try simp only [Act.put])
                  refine take_put (i := 17) (v := .int .i64 E) 17 rfl rfl (by kernel_rfl) (by kernel_rfl) (by kernel_rfl) (fun _ _ _ h => h) (Or.inl ⟨by rfl, by intro W hSW; go_simp⟩) (by assumption) ?_
                  (try simp only [Act.put, List.setIfInBounds_toArray, List.set_cons_zero, List.set_cons_succ])
                  refine wpAnyH_done (by kernel_rfl) ?_ _
                  clear hHeld
                  go_wp2
                  go_meet
                  case rel => exact ⟨Y1, Y2, rfl, rfl, rfl, HY1c.out, HY2c.out, HG6.out, HL1.out⟩
          case rest =>
            obtain ⟨X1, X2, rfl, rfl, rfl, HX1, HX2, HGc, HLX⟩ := hcut
            have HNX : Hid (X1 ≠ Ba) := hide (by have := HLX.out; have := box_lt HA.out; omega)
            clear HLX
            have HA := hide (box_grown HA.out HGc.out (by simp))
            have HB := hide (box_grown HB.out HGc.out (by simp))
            have HY1 := hide (box_grown HY1.out HGc.out (by simp))
            have HY2 := hide (box_grown HY2.out HGc.out (by simp))
            have HG := hide (grownBy_trans HG.out HGc.out)
            clear HGc CRx HC
            have hARR := arr_self
            by_cases h0 : E = 0
            · subst h0
              go_wp2_with (first | (go_at_call 13; refine (NUM.out _ _).mono ?_; rintro e wn ⟨rfl, rfl⟩) | ((with_reducible refine list_load 25 (.tmp 12) (Y1) 25 #[.int .i64 q0, .int .i64 q1, .int .i64 (qm 0), .int .i64 (qm 1), .int .i64 (qm 2), .int .i64 (qm 3), .int .i64 (qm 4), .int .i64 (qm 5), .int .i64 (qm 6), .int .i64 (qm 7), .int .i64 (qm 8), .int .i64 (qm 9), .int .i64 (qm 10), .int .i64 (qm 11), .int .i64 (qm 12), .int .i64 (qm 13), .int .i64 (qm 14), .int .i64 (qm 15)] (0, 0) _ ?hw ?hx ?hg Tryd.underlying25 ?hd ?hi ?_); (case hw => kernel_rfl); (case hx => rfl); (case hg => exact HY1.out); (case hd => rfl); (case hi => exact sizeVm)) | ((with_reducible refine list_load 25 (.tmp 15) (X1) 25 #[.int .i64 q0, .int .i64 q1, .int .i64 (qm 0), .int .i64 (qm 1), .int .i64 (qm 2), .int .i64 (qm 3), .int .i64 (qm 4), .int .i64 (qm 5), .int .i64 (qm 6), .int .i64 (qm 7), .int .i64 (qm 8), .int .i64 (qm 9), .int .i64 (qm 10), .int .i64 (qm 11), .int .i64 (qm 12), .int .i64 (qm 13), .int .i64 (qm 14), .int .i64 (qm 15)] (0, 0) _ ?hw ?hx ?hg Tryd.underlying25 ?hd ?hi ?_); (case hw => kernel_rfl); (case hx => rfl); (case hg => exact HX1.out); (case hd => rfl); (case hi => exact sizeVm)) | ((with_reducible refine list_load 30 (.tmp 13) (Y2) 30 #[.bool f0, .int .i64 f1, .int .i64 f2, .int .i64 f3, .bool f4] (0, 0) _ ?hw ?hx ?hg Tryd.underlying30 ?hd ?hi ?_); (case hw => kernel_rfl); (case hx => rfl); (case hg => exact HY2.out); (case hd => rfl); (case hi => exact sizeEf)) | ((with_reducible refine list_load 30 (.tmp 16) (X2) 30 #[.bool f0, .int .i64 f1, .int .i64 f2, .int .i64 f3, .bool f4] (0, 0) _ ?hw ?hx ?hg Tryd.underlying30 ?hd ?hi ?_); (case hw => kernel_rfl); (case hx => rfl); (case hg => exact HX2.out); (case hd => rfl); (case hi => exact sizeEf)) | ((with_reducible refine list_store 25 (.tmp 9) (.tmp 72) (Ba) #[.int .i64 q0, .int .i64 q1, .int .i64 (qm 0), .int .i64 (qm 1), .int .i64 (qm 2), .int .i64 (qm 3), .int .i64 (qm 4), .int .i64 (qm 5), .int .i64 (qm 6), .int .i64 (qm 7), .int .i64 (qm 8), .int .i64 (qm 9), .int .i64 (qm 10), .int .i64 (qm 11), .int .i64 (qm 12), .int .i64 (qm 13), .int .i64 (qm 14), .int .i64 (qm 15)] 25 #[.int .i64 pc, .int .i64 acc, .int .i64 (m 0), .int .i64 (m 1), .int .i64 (m 2), .int .i64 (m 3), .int .i64 (m 4), .int .i64 (m 5), .int .i64 (m 6), .int .i64 (m 7), .int .i64 (m 8), .int .i64 (m 9), .int .i64 (m 10), .int .i64 (m 11), .int .i64 (m 12), .int .i64 (m 13), .int .i64 (m 14), .int .i64 (m 15)] ?hx ?hy ?hg ?hi ?ho ?h1 ?_); (case hx => rfl); (case hy => rfl); (case hg => exact HA.out); (case hi => exact sizeVm); (case ho => rfl); (case h1 => simp [Value.oneCell']); intro w11 h1 e1 g1; have HA := hide h1; have HB := hide ((e1 Bb (by have := HO.out; omega)).trans HB.out); have HX1 := hide ((e1 X1 HNX.out).trans HX1.out); have HG := hide (grown_spoil HG.out (by have := HO.out; omega) g1); clear h1 e1 g1) | ((with_reducible refine list_store 25 (.tmp 10) (.tmp 73) (Bb) #[.int .i64 q0, .int .i64 q1, .int .i64 (qm 0), .int .i64 (qm 1), .int .i64 (qm 2), .int .i64 (qm 3), .int .i64 (qm 4), .int .i64 (qm 5), .int .i64 (qm 6), .int .i64 (qm 7), .int .i64 (qm 8), .int .i64 (qm 9), .int .i64 (qm 10), .int .i64 (qm 11), .int .i64 (qm 12), .int .i64 (qm 13), .int .i64 (qm 14), .int .i64 (qm 15)] 25 #[.int .i64 pc, .int .i64 acc, .int .i64 (m 0), .int .i64 (m 1), .int .i64 (m 2), .int .i64 (m 3), .int .i64 (m 4), .int .i64 (m 5), .int .i64 (m 6), .int .i64 (m 7), .int .i64 (m 8), .int .i64 (m 9), .int .i64 (m 10), .int .i64 (m 11), .int .i64 (m 12), .int .i64 (m 13), .int .i64 (m 14), .int .i64 (m 15)] ?hx ?hy ?hg ?hi ?ho ?h1 ?_); (case hx => rfl); (case hy => rfl); (case hg => exact HB.out); (case hi => exact sizeVm); (case ho => rfl); (case h1 => simp [Value.oneCell']); intro w12 h1 e1 g1; have HB := hide h1; have HA := hide ((e1 Ba (by have := HO.out; omega)).trans HA.out); have HG := hide (grown_spoil HG.out (by have := HO.out; omega) g1); clear h1 e1 g1) | fail)
              go_roundw
              case rel => exact ⟨j + 1, ⟨q0, q1, qm⟩, by omega, by go_num, HA.out, HB.out, HG.out⟩
              case measure => simp [intOf]; omega
            · have hE : (E == 0) = false := by simpa using h0
              clear h0
              go_wp2_with (first | (go_at_call 13; refine (NUM.out _ _).mono ?_; rintro e wn ⟨rfl, rfl⟩) | ((with_reducible refine list_load 25 (.tmp 12) (Y1) 25 #[.int .i64 q0, .int .i64 q1, .int .i64 (qm 0), .int .i64 (qm 1), .int .i64 (qm 2), .int .i64 (qm 3), .int .i64 (qm 4), .int .i64 (qm 5), .int .i64 (qm 6), .int .i64 (qm 7), .int .i64 (qm 8), .int .i64 (qm 9), .int .i64 (qm 10), .int .i64 (qm 11), .int .i64 (qm 12), .int .i64 (qm 13), .int .i64 (qm 14), .int .i64 (qm 15)] (0, 0) _ ?hw ?hx ?hg Tryd.underlying25 ?hd ?hi ?_); (case hw => kernel_rfl); (case hx => rfl); (case hg => exact HY1.out); (case hd => rfl); (case hi => exact sizeVm)) | ((with_reducible refine list_load 25 (.tmp 15) (X1) 25 #[.int .i64 q0, .int .i64 q1, .int .i64 (qm 0), .int .i64 (qm 1), .int .i64 (qm 2), .int .i64 (qm 3), .int .i64 (qm 4), .int .i64 (qm 5), .int .i64 (qm 6), .int .i64 (qm 7), .int .i64 (qm 8), .int .i64 (qm 9), .int .i64 (qm 10), .int .i64 (qm 11), .int .i64 (qm 12), .int .i64 (qm 13), .int .i64 (qm 14), .int .i64 (qm 15)] (0, 0) _ ?hw ?hx ?hg Tryd.underlying25 ?hd ?hi ?_); (case hw => kernel_rfl); (case hx => rfl); (case hg => exact HX1.out); (case hd => rfl); (case hi => exact sizeVm)) | ((with_reducible refine list_load 30 (.tmp 13) (Y2) 30 #[.bool f0, .int .i64 f1, .int .i64 f2, .int .i64 f3, .bool f4] (0, 0) _ ?hw ?hx ?hg Tryd.underlying30 ?hd ?hi ?_); (case hw => kernel_rfl); (case hx => rfl); (case hg => exact HY2.out); (case hd => rfl); (case hi => exact sizeEf)) | ((with_reducible refine list_load 30 (.tmp 16) (X2) 30 #[.bool f0, .int .i64 f1, .int .i64 f2, .int .i64 f3, .bool f4] (0, 0) _ ?hw ?hx ?hg Tryd.underlying30 ?hd ?hi ?_); (case hw => kernel_rfl); (case hx => rfl); (case hg => exact HX2.out); (case hd => rfl); (case hi => exact sizeEf)) | fail)
              go_roundw
              case rel => exact ⟨j + 1, ⟨pc, acc, m⟩, by omega, by go_num, HA.out, HB.out, HG.out⟩
              case measure => simp [intOf]; omega
      · go_wp2_with (first | fail)
        refine (awake_any _ (HT.out _ HG.out)).mono ?_; rintro e w10 ⟨rfl, hg⟩
        have HGF := hide (grownBy_trans HG.out hg)
        clear hg
        go_wp2
        go_ret
        exact ⟨by first | rfl | simp, HGF.out⟩
    · go_wp2_with (first | fail)
      refine (awake_any _ (HT.out _ HG.out)).mono ?_; rintro e w10 ⟨rfl, hg⟩
      have HGF := hide (grownBy_trans HG.out hg)
      clear hg
      go_wp2
      go_ret
      exact ⟨by first | rfl | simp, HGF.out⟩
#print axioms stepRows_any
end Go.Proofs.YthdpdnibgmjdaaaDoor
