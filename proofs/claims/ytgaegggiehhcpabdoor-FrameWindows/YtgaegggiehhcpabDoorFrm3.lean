/- The contract of package frame's Hyper, proved over the translation. -/
import Derived.Test.YtgaegggiehhcpabDoorFrm2
namespace Go.Proofs.YtgaegggiehhcpabDoor
open Go.RowKit
attribute [local go_sem] alloc_drewN setCell_drewN

theorem Fine.per2 {C : ConfV} (h : Fine C) (i : Nat) (hi : i < C.parts.length) : ∀ t ∈ (partAt C.parts i).tasks, 1 ≤ t.period := by
  intro t ht
  obtain ⟨j, hj, e⟩ := List.getElem_of_mem ht
  have := ((h.per i hi).2 j hj).1
  rw [taskAt_of (show (partAt C.parts i).tasks[j]? = some t by rw [← e]; exact List.getElem?_eq_getElem hj)] at this
  exact this

set_option maxRecDepth 100000 in
set_option maxHeartbeats 2000000 in
theorem hyper_any {lo : Nat} (c : Value) (C : ConfV) (w : World) (hT : Tab w) (hc : ConfAt lo w c C) :
    Calls Tryd.prog 13 #[c] w fun e w' => e = .returned (.tuple #[.int .u64 (hyV C), .int .i64 (hyE C)]) ∧ w.grownBy w' none := by
  have C1 := hide (fun W (hg : w.grownBy W none) => cmay_any c C W (hT.grown hg) (hc.grown hg))
  have HCC := hc
  obtain ⟨vp, vw, vo, rfl, hp, -, -⟩ := hc
  have HPA := hide (fun W (hg : w.grownBy W none) => hp.grown hg)
  obtain ⟨vp', vw', vo', e, ⟨qs, hlen, ⟨hl, pa, pc, rfl, -⟩, -⟩, ⟨-, wa, wc, rfl, -⟩, ⟨-, oa, oc, rfl, -⟩⟩ := HCC
  simp only [Value.agg.injEq, Array.mk.injEq, List.cons.injEq, and_true, true_and] at e
  obtain ⟨rfl, rfl, rfl⟩ := e
  have HV : Hid (hyV C = if checkN C = 0 then (hypP C.frame C.parts).1 else 0) := rfl
  have HE : Hid (hyE C = if checkN C = 0 then (hypP C.frame C.parts).2 else 600) := rfl
  have HF0 := hide (fun h : checkN C = 0 => fine_of h)
  clear hT hp
  rw [hlen] at hl HPA C1 ⊢
  clear hlen
  generalize hyV C = av at *
  generalize hyE C = ae at *
  generalize checkN C = ce at *
  generalize C.quiet = qt at *
  generalize C.wins.length = n1 at *
  generalize C.ports.length = n2 at *
  generalize hN : C.parts.length = N at *
  have HN := hide hN
  clear hN
  generalize hfr : C.frame = fr at *
  have HFR := hide hfr
  clear hfr
  have HG0 := hide (World.grownBy_alloc w (.cells #[.int .i64 fr, .int .i64 qt, .slice pa N pc, .slice wa n1 wc, .slice oa n2 oc] 26) none)
  have KEEP : Hid (∀ W, (w.alloc (.cells #[.int .i64 fr, .int .i64 qt, .slice pa N pc, .slice wa n1 wc, .slice oa n2 oc] 26)).grownBy W none → W.cell? ⟨w.heap.size, 0, none⟩ = some (.int .i64 fr) ∧ W.cell? ⟨w.heap.size, 2, none⟩ = some (.slice pa N pc)) := by
    intro W hW
    have b := fun k => World.cell?_of_block (a := ⟨w.heap.size, k, none⟩) (hW.block w.heap.size (by simp) (by simp))
    exact ⟨(b 0).trans (by simp), (b 2).trans (by simp)⟩
  go_enter Tryd.func13, Tryd.ntmps13
  go_wp2_with (first | fail)
  refine (C1.out _ HG0.out).mono ?_; rintro e w1 ⟨rfl, hg⟩
  have G1 := hide (grownBy_trans HG0.out hg)
  obtain ⟨f0, f2⟩ := KEEP.out w1 hg
  clear hg C1 HG0 KEEP
  by_cases h : ce = 0
  · subst h
    have HF := hide (HF0.out rfl)
    have fr0 : 1 ≤ fr := by rw [← HFR.out]; exact HF.out.f0
    have fr1 : fr ≤ 256 := by rw [← HFR.out]; exact HF.out.f1
    clear HF0
    have HV2 := hide (HV.out.trans (if_pos rfl))
    have HE2 := hide (HE.out.trans (if_pos rfl))
    clear HV HE
    go_wp2
    go_loopw [4, 6, 7, 8, 18] (fun s _ _ _ i W => ∃ (j : Nat) (X : Int), j ≤ N ∧ 1 ≤ X ∧ X ≤ 18446744073709551615 ∧ i = .int .i64 j ∧ s = .int .u64 X ∧ Hid (hypP X (C.parts.drop j) = hypP fr C.parts) ∧ Hid (w.grownBy W none)) (fun _ _ _ _ i _ => N - (intOf i).toNat)
    case atStart => exact ⟨0, fr, by omega, by omega, by omega, rfl, rfl, rfl, G1⟩
    case round =>
      obtain ⟨j, X, hj, X0, X1, rfl, rfl, HX, HG⟩ := hrel
      by_cases hlt : j < N
      · obtain ⟨qs2, hlen2, ⟨-, a2, cap2, e2, hc⟩, hel⟩ := HPA.out wr HG.out
        rw [HN.out] at hlen2
        rw [hlen2] at e2
        simp only [Value.slice.injEq] at e2
        obtain ⟨rfl, -, rfl⟩ := e2
        obtain ⟨g, o, rfl, -, hc2⟩ := hc (by rw [hlen2]; omega)
        obtain ⟨q, hq⟩ : ∃ q, qs2[j]? = some q := ⟨_, List.getElem?_eq_getElem (by rw [hlen2]; exact hlt)⟩
        have hpt := partAt_mem (ws := C.parts) (i := j) (by rw [HN.out]; exact hlt)
        have hc3 := hc2 j _ hq
        obtain ⟨-, htk, -⟩ := hel j q _ hq hpt
        have CC := hide (fun W (hg : wr.grownBy W none) => common_any X X0 X1 q.tasks (partAt C.parts j).tasks (HF.out.per j (by rw [HN.out]; exact hlt)).2 W (htk.grown hg))
        have HX2 := hide ((drop_cons hpt ▸ HX.out : hypP X (partAt C.parts j :: C.parts.drop (j + 1)) = hypP fr C.parts))
        have HX3 := hide ((hypP_cons X (partAt C.parts j) (C.parts.drop (j + 1))).symm.trans HX2.out)
        have HFIT := hide (fun h => hypT_fits (HF.out.per2 j (by rw [HN.out]; exact hlt)) X0 X1 h)
        unfold PartM.tasks at CC
        obtain ⟨l, ta, tn, tc, ca, cn, cc⟩ := q
        have c0 : wr.cell? ⟨g, o + j * 3, none⟩ = some (.int .i64 l) := hc3 0 _ rfl
        have c1 : wr.cell? ⟨g, o + j * 3 + 1, none⟩ = some (.slice ta tn tc) := hc3 1 _ rfl
        have c2 : wr.cell? ⟨g, o + j * 3 + 2, none⟩ = some (.slice ca cn cc) := hc3 2 _ rfl
        clear hc hc2 hc3 hq hpt hel htk HX2 hlen2
        dsimp only at CC
        generalize (hypT X (partAt C.parts j).tasks).1 = LV at *
        generalize (hypT X (partAt C.parts j).tasks).2 = LE at *
        by_cases hE : LE = 0
        · subst hE
          obtain ⟨v0, v1⟩ := HFIT.out rfl
          have HX4 := hide (((if_pos rfl).symm : hypP LV (C.parts.drop (j + 1)) = _).trans HX3.out)
          clear HX3 HX HFIT
          go_wp2_with (go_at_call 28; refine (CC.out _ (World.grownBy_alloc _ _ _)).mono ?_; rintro e w2 ⟨rfl, hg⟩; have G2 := hide hg; clear hg)
          go_roundw
          case rel => exact ⟨j + 1, LV, by omega, v0, v1, by go_num, rfl, HX4, hide (grownBy_trans HG.out (grownBy_trans (World.grownBy_alloc _ _ _) G2.out))⟩
          case measure => simp [intOf]; omega
        · have hb : (LE != 0) = true := by simp [hE]
          have HX4 := hide (((if_neg hE).symm : ((0, LE) : Int × Int) = _).trans HX3.out)
          clear HX3 HX HFIT
          go_wp2_with (go_at_call 28; refine (CC.out _ (World.grownBy_alloc _ _ _)).mono ?_; rintro e w2 ⟨rfl, hg⟩; have G2 := hide hg; clear hg)
          go_ret2
          exact ⟨by rw [HV2.out, HE2.out, ← HX4.out]; rfl, grownBy_trans HG.out (grownBy_trans (World.grownBy_alloc _ _ _) G2.out)⟩
      · have HX2 := hide (show hypP X [] = hypP fr C.parts by rw [← HX.out, List.drop_of_length_le (by rw [HN.out]; omega)])
        go_wp2
        go_ret2
        exact ⟨by rw [HV2.out, HE2.out, ← HX2.out]; rfl, HG.out⟩
  · have HV2 := hide (HV.out.trans (if_neg h))
    have HE2 := hide (HE.out.trans (if_neg h))
    have hd : decide (ce = 0) = false := by simp [h]
    rw [hd]
    go_wp2
    go_ret2
    exact ⟨by rw [HV2.out, HE2.out]; rfl, G1.out⟩
#print axioms hyper_any
end Go.Proofs.YtgaegggiehhcpabDoor
