/- Contracts of the document's own turnsMay, may, Late, proved over the translation: they answer as the program's. -/
import Derived.Test.YtephnppanbckkaaRefTask
import Derived.Test.YtephnppanbckkaaMeth
namespace Go.Proofs.Ytephnppanbckkaa
open Go.RowKit
attribute [local go_sem] alloc_drewN setCell_drewN

theorem all_step {zs : List Int} {j : Nat} {x : Int} (h : zs[j]? = some x) : (zs.take (j + 1)).all demMay = ((zs.take j).all demMay && demMay x) := by
  rw [List.take_add_one, h]
  simp
theorem all_no {zs : List Int} {j : Nat} {x : Int} (h : zs[j]? = some x) (hx : demMay x = false) : zs.all demMay = false := by
  rw [List.all_eq_false]
  exact ⟨x, List.mem_of_getElem? h, by rw [hx]; simp⟩
set_option maxRecDepth 100000 in
set_option maxHeartbeats 2000000 in
theorem rturns_any {lo : Nat} (L : Int) (v : Value) (zs : List Int) (w : World) (hv : RowAt shN lo w v zs) :
    Calls Try.prog 27 #[.agg #[.int .i64 L, v]] w fun e w' => e = .returned (.bool (turnsMay ⟨L, zs⟩)) ∧ w.grownBy w' none := by
  have RV := hide (fun W (hg : w.grownBy W none) => hv.grown hg)
  obtain ⟨hl, a, cap, rfl, -⟩ := hv
  have HW := hide (fun (j : Nat) (hj : j < zs.length) => (⟨_, List.getElem?_eq_getElem (l := zs) hj⟩ : ∃ q, zs[j]? = some q))
  have HTK := hide (fun (j : Nat) (h : j = zs.length) => (show zs.take j = zs by rw [h]; exact List.take_length))
  have HOUT := hide (fun (b : Bool) (h : zs.all demMay = b) => (show turnsMay ⟨L, zs⟩ = (decide (-1 ≤ L) && (decide (L ≤ 1099511627776) && (decide (zs.length ≤ 4) && b))) by unfold turnsMay; rw [h]))
  generalize hN : zs.length = n at *
  clear hN
  go_enter Try.func27, Try.ntmps27
  go_upto_region 1 with (first | fail)
  have HG := hide (World.grownBy_alloc w (.cells #[.int .i64 L, .slice a n cap] 26) none)
  have HS := hide (heap_alloc_new w (.cells #[.int .i64 L, .slice a n cap] 26))
  generalize hWx : w.alloc (.cells #[.int .i64 L, .slice a n cap] 26) = wk at *
  generalize hBx : w.heap.size = BS at *
  clear hWx hBx
  go_wp2
  go_loopw [3] (fun i W => ∃ (j : Nat), j ≤ n ∧ i = .int .i64 j ∧ W = wk ∧ Hid ((zs.take j).all demMay = true)) (fun i _ => n - (intOf i).toNat)
  case atStart => exact ⟨0, by omega, rfl, rfl, hide (by simp)⟩
  case round =>
    obtain ⟨j, hj, rfl, rfl, HB⟩ := hrel
    have cS1 : wr.cell? ⟨BS, 1, none⟩ = some (.slice a n cap) := blk_cell HS.out 1
    by_cases hlt : j < n
    · obtain ⟨q, hq⟩ : ∃ q, zs[j]? = some q := HW.out j hlt
      have HST := hide (all_step hq)
      have HNO := hide (all_no hq)
      obtain ⟨-, a2, cap2, e2, ha⟩ := RV.out _ HG.out
      simp only [Value.slice.injEq] at e2
      obtain ⟨rfl, e3, rfl⟩ := e2
      obtain ⟨g, o, rfl, -, hc⟩ := ha (by omega)
      have c1 : wr.cell? ⟨g, o + j * 1, none⟩ = some (.int .i64 q) := hc j q hq 0 _ rfl
      rw [Nat.mul_one] at c1
      clear hc ha hq e3
      by_cases h1 : q < 1
      · have hd : demMay q = false := by unfold demMay; rw [decide_eq_false (show ¬ 1 ≤ q by omega), Bool.false_and]
        have hf : turnsMay ⟨L, zs⟩ = false := by rw [HOUT.out _ (HNO.out hd)]; simp
        have HF := hide hf
        clear hd hf
        go_wp2
        go_ret
        exact ⟨by rw [HF.out]; first | rfl | (simp; done) | (simp; omega), HG.out⟩
      · by_cases h2 : 65535 < q
        · have hd : demMay q = false := by unfold demMay; rw [decide_eq_false (show ¬ q ≤ 65535 by omega), Bool.and_false]
          have hf : turnsMay ⟨L, zs⟩ = false := by rw [HOUT.out _ (HNO.out hd)]; simp
          have HF := hide hf
          clear hd hf
          go_wp2
          go_ret
          exact ⟨by rw [HF.out]; first | rfl | (simp; done) | (simp; omega), HG.out⟩
        · have hd : demMay q = true := by unfold demMay; rw [decide_eq_true (show 1 ≤ q by omega), decide_eq_true (show q ≤ 65535 by omega)]; rfl
          have HD := hide hd
          clear hd
          go_wp2
          go_roundw
          case rel => exact ⟨j + 1, by omega, by go_num, by first | rfl | trivial, hide (by rw [HST.out, HB.out, HD.out]; rfl)⟩
          case measure => simp [intOf]; omega
    · have HL := hide (RV.out _ HG.out).1
      have hf := HOUT.out true (by
        obtain ⟨-, a2, cap2, e2, -⟩ := RV.out _ HG.out
        simp only [Value.slice.injEq] at e2
        have e3 := e2.2.1
        have h3 := HB.out
        rw [HTK.out j (by omega)] at h3
        exact h3)
      have HF := hide hf
      clear hf
      have cS0 : wr.cell? ⟨BS, 0, none⟩ = some (.int .i64 L) := blk_cell HS.out 0
      by_cases h0 : -1 ≤ L
      · by_cases h1 : L ≤ 1099511627776
        · by_cases h2 : n ≤ 4
          · have HF2 : Hid (turnsMay ⟨L, zs⟩ = true) := hide (by rw [HF.out, decide_eq_true h0, decide_eq_true h1, decide_eq_true h2]; rfl)
            go_wp2
            go_ret
            exact ⟨by rw [HF2.out]; first | rfl | (simp; done) | (simp; omega), HG.out⟩
          · have HF2 : Hid (turnsMay ⟨L, zs⟩ = false) := hide (by rw [HF.out, decide_eq_true h0, decide_eq_true h1, decide_eq_false h2]; rfl)
            go_wp2
            go_ret
            exact ⟨by rw [HF2.out]; first | rfl | (simp; done) | (simp; omega), HG.out⟩
        · have HF2 : Hid (turnsMay ⟨L, zs⟩ = false) := hide (by rw [HF.out, decide_eq_true h0, decide_eq_false h1]; rfl)
          go_wp2
          go_ret
          exact ⟨by rw [HF2.out]; first | rfl | (simp; done) | (simp; omega), HG.out⟩
      · have HF2 : Hid (turnsMay ⟨L, zs⟩ = false) := hide (by rw [HF.out, decide_eq_false h0]; rfl)
        go_wp2
        go_ret
        exact ⟨by rw [HF2.out]; first | rfl | (simp; done) | (simp; omega), HG.out⟩
#print axioms rturns_any

set_option maxRecDepth 100000 in
set_option maxHeartbeats 1000000 in
theorem rmay_any {lo : Nat} (t : TaskV) (L : Int) (v : Value) (zs : List Int) (now : Int) (w : World) (hv : RowAt shN lo w v zs) :
    Calls Try.prog 30 #[taskVal t, .agg #[.int .i64 L, v], .int .i64 now] w fun e w' => e = .returned (.bool (atMay t ⟨L, zs⟩ now)) ∧ w.grownBy w' none := by
  have CT := hide (fun W => rtask_any t W)
  have CU := hide (fun W (hg : w.grownBy W none) => rturns_any L v zs W (hv.grown hg))
  unfold atMay
  generalize taskMay t = b at *
  generalize turnsMay ⟨L, zs⟩ = c at *
  obtain ⟨x0, x1, x2, x3, x4, x5⟩ := t
  cases b with
  | false =>
    rw [Bool.false_and]
    go_enter Try.func30, Try.ntmps30
    go_wp2_with (first | fail)
    refine (CT.out _).mono ?_; rintro e w' ⟨rfl, hg⟩
    have HG := hide (grownBy_trans (grownBy_trans (World.grownBy_alloc _ _ _) (World.grownBy_alloc _ _ _)) hg)
    clear hg
    go_wp2
    go_ret
    exact ⟨by first | rfl | simp [*], HG.out⟩
  | true =>
    rw [Bool.true_and]
    cases c with
    | false =>
      rw [Bool.false_and]
      go_enter Try.func30, Try.ntmps30
      go_wp2_with (first | fail)
      refine (CT.out _).mono ?_; rintro e w1 ⟨rfl, hg⟩
      have hc1 : w1.heap[w.heap.size + 1]? = _ := box_grown (alloc_next w _ _) hg (by simp)
      have HB := hide hc1
      have HG := hide (grownBy_trans (grownBy_trans (World.grownBy_alloc _ _ _) (World.grownBy_alloc _ _ _)) hg)
      have c0 := blk_cell hc1 0
      have c1 := blk_cell hc1 1
      clear hg hc1
      go_wp2_with (first | fail)
      refine (CU.out _ HG.out).mono ?_; rintro e w2 ⟨rfl, hg⟩
      have HG := hide (grownBy_trans HG.out hg)
      clear hg
      go_wp2
      go_ret
      exact ⟨by first | rfl | simp [*], HG.out⟩
    | true =>
      rw [Bool.true_and]
      by_cases h0 : 0 ≤ now
      · rw [decide_eq_true h0, Bool.true_and]
        by_cases h1 : now ≤ 1099511627776
        · rw [decide_eq_true h1]
          go_enter Try.func30, Try.ntmps30
          go_wp2_with (first | fail)
          refine (CT.out _).mono ?_; rintro e w1 ⟨rfl, hg⟩
          have hc1 : w1.heap[w.heap.size + 1]? = _ := box_grown (alloc_next w _ _) hg (by simp)
          have HG := hide (grownBy_trans (grownBy_trans (World.grownBy_alloc _ _ _) (World.grownBy_alloc _ _ _)) hg)
          have c0 := blk_cell hc1 0
          have c1 := blk_cell hc1 1
          clear hg hc1
          go_wp2_with (first | fail)
          refine (CU.out _ HG.out).mono ?_; rintro e w2 ⟨rfl, hg⟩
          have HG := hide (grownBy_trans HG.out hg)
          clear hg
          go_wp2
          go_ret
          exact ⟨by first | rfl | simp [*], HG.out⟩
        · rw [decide_eq_false h1]
          go_enter Try.func30, Try.ntmps30
          go_wp2_with (first | fail)
          refine (CT.out _).mono ?_; rintro e w1 ⟨rfl, hg⟩
          have hc1 : w1.heap[w.heap.size + 1]? = _ := box_grown (alloc_next w _ _) hg (by simp)
          have HG := hide (grownBy_trans (grownBy_trans (World.grownBy_alloc _ _ _) (World.grownBy_alloc _ _ _)) hg)
          have c0 := blk_cell hc1 0
          have c1 := blk_cell hc1 1
          clear hg hc1
          go_wp2_with (first | fail)
          refine (CU.out _ HG.out).mono ?_; rintro e w2 ⟨rfl, hg⟩
          have HG := hide (grownBy_trans HG.out hg)
          clear hg
          go_wp2
          go_ret
          exact ⟨by first | rfl | simp [*], HG.out⟩
      · rw [decide_eq_false h0, Bool.false_and]
        go_enter Try.func30, Try.ntmps30
        go_wp2_with (first | fail)
        refine (CT.out _).mono ?_; rintro e w1 ⟨rfl, hg⟩
        have hc1 : w1.heap[w.heap.size + 1]? = _ := box_grown (alloc_next w _ _) hg (by simp)
        have HG := hide (grownBy_trans (grownBy_trans (World.grownBy_alloc _ _ _) (World.grownBy_alloc _ _ _)) hg)
        have c0 := blk_cell hc1 0
        have c1 := blk_cell hc1 1
        clear hg hc1
        go_wp2_with (first | fail)
        refine (CU.out _ HG.out).mono ?_; rintro e w2 ⟨rfl, hg⟩
        have HG := hide (grownBy_trans HG.out hg)
        clear hg
        go_wp2
        go_ret
        exact ⟨by first | rfl | simp [*], HG.out⟩
#print axioms rmay_any
end Go.Proofs.Ytephnppanbckkaa
