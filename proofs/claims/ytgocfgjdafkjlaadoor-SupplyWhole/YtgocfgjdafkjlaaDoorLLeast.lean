/- The walk of the statement SupplyLeast: from no begin on are there fewer; proved over the translation. -/
import Derived.Test.YtgocfgjdafkjlaaDoorAw7
import Derived.Test.YtgocfgjdafkjlaaDoorLCnt0
namespace Go.Proofs.YtgocfgjdafkjlaaDoor.P7
open Go.RowKit
attribute [local go_sem] alloc_drewN setCell_drewN

theorem and9 (z : Int) : ∃ c : Nat, c ≤ 511 ∧ bits .and .i64 z 511 = (c : Int) := ⟨(z % 512).toNat, by omega, by rw [and_low z 9 (by decide) 511 (by decide)]; omega⟩
theorem and8 (z : Int) : ∃ c : Nat, c ≤ 255 ∧ bits .and .i64 z 255 = (c : Int) := ⟨(z % 256).toNat, by omega, by rw [and_low z 8 (by decide) 255 (by decide)]; omega⟩
theorem at_own {C : ConfV} (hc : checkN C = 0) (P F : Nat) (hF : (F : Int) = C.frame) (t : Nat) (ht : t ≤ 1099511627776) : atE C t = 0 ∧ own1 C P F t = if atV C t = P then 1 else 0 := by
  have ok : atOK C t = true := by unfold atOK; rw [hc]; simp; omega
  unfold atE atV own1
  rw [if_pos ok, if_pos ok, ← hF]
  exact ⟨rfl, rfl⟩

set_option maxRecDepth 100000 in
set_option maxHeartbeats 4000000 in
theorem supplyLeast_any {lo : Nat} (c : Value) (C : ConfV) (p x2 x3 : Int) (w : World) (hT : Tab w) (hc : ConfAt lo w c C) :
    Calls Tryd.prog 7 #[c, .int .i64 p, .int .i64 x2, .int .i64 x3] w fun e w' => e = .returned (.bool true) ∧ w.grownBy w' none := by
  have NUM : Hid (∀ (e : Int) (W : World), Calls Tryd.prog 15 #[.int .i64 e] W fun r w' => r = .returned (.int .i64 e) ∧ W = w') := fun e W => (num_any e W).mono fun _ _ h => ⟨h.1, h.2.symm⟩
  have CA := hide (fun W (hg : w.grownBy W none) => awake_any W (hT.grown hg))
  have CT := hide (fun k W (hg : w.grownBy W none) => at_any c C k W (hT.grown hg) (hc.grown hg))
  have CL := hide (fun k W (hg : w.grownBy W none) => least_any c C p k W (hT.grown hg) (hc.grown hg))
  obtain ⟨vp, vw, vo, rfl, ⟨qs, hlen, ⟨hl, pa, pc, rfl, -⟩, -⟩, ⟨-, wa, wc, rfl, -⟩, ⟨-, oa, oc, rfl, -⟩⟩ := hc
  clear hT
  obtain ⟨k, hk, hk2⟩ := and9 x2
  obtain ⟨fm, hfm, hfm2⟩ := and8 x3
  by_cases hok : leOK C p k = true
  · have hok2 := hok
    unfold leOK at hok2
    simp only [Bool.and_eq_true, decide_eq_true_eq] at hok2
    obtain ⟨hck, p0, p1, -, -⟩ := hok2
    clear hok
    have HFI := hide (fine_of hck)
    have f0 := HFI.out.f0
    have f1 := HFI.out.f1
    obtain ⟨P, rfl⟩ : ∃ P : Nat, p = P := ⟨p.toNat, by omega⟩
    obtain ⟨F, hF⟩ : ∃ F : Nat, (F : Int) = C.frame := ⟨C.frame.toNat, by omega⟩
    have F0 : 0 < F := by omega
    have L1 := le_in hck P F k (by omega) hF (by omega)
    have L2 := le_in hck P F (k + 1) (by omega) hF (by omega)
    rw [leastN_eq F0 (own1_period _ _ _) (own1_bd _ _ _)] at L1 L2
    have HAT := hide (fun t ht => at_own hck P F hF t ht)
    have HOB := hide (own1_bd C P F)
    clear HFI hck p1
    rw [show ((k + 1 : Nat) : Int) = (k : Int) + 1 by omega] at L2
    obtain ⟨L1v, L1e⟩ := L1
    obtain ⟨L2v, L2e⟩ := L2
    have HL1v := hide L1v
    have HL1e := hide L1e
    have HL2v := hide L2v
    have HL2e := hide L2e
    clear L1v L1e L2v L2e
    generalize own1 C P F = o at *
    have HST := hide (leastS_step (F := F) HOB.out k)
    have HSB := hide (leastS_bd (F := F) HOB.out k)
    have HSM := hide (fun n (hn : n ≤ F) => leastS_some hn HOB.out k)
    have HSA := hide (leastS_all F0 HOB.out k)
    have HM0 : Hid (minTo (fun s => cf o s k) ((k : Int) + 1) 0 = (k : Int) + 1) := rfl
    have HMS : Hid (∀ n, minTo (fun s => cf o s k) ((k : Int) + 1) (n + 1) = min (minTo (fun s => cf o s k) ((k : Int) + 1) n) (cf o n k)) := fun n => rfl
    have HC0 := hide (fun s => cf_zero o s)
    have HCS := hide (fun s k => cf_succ o s k)
    have HCB := hide (fun s k => cf_bd HOB.out s k)
    generalize minTo (fun s => cf o s k) ((k : Int) + 1) = M at *
    generalize cf o = cfo at *
    generalize leastS o F k = A at *
    generalize leastS o F (k + 1) = B at *
    generalize atV C = aV at *
    generalize atE C = aE at *
    generalize leV C = lV at *
    generalize leE C = lE at *
    have hAB := HST.out
    have hAb := HSB.out
    clear HST HSB hlen
    generalize C.quiet = qt at *
    generalize C.wins.length = n1 at *
    generalize C.ports.length = n2 at *
    generalize qs.length = N at *
    have F1 : F ≤ 256 := by omega
    rw [← hF] at CT CL ⊢
    clear hF f0 f1
    generalize hwb : w.alloc (.cells #[.int .i64 F, .int .i64 qt, .slice pa N pc, .slice wa n1 wc, .slice oa n2 oc] 26) = wb
    have HG0 := hide (show w.grownBy wb none by rw [← hwb]; exact World.grownBy_alloc _ _ none)
    have KEEP : Hid (∀ V, wb.grownBy V none → V.cell? ⟨w.heap.size, 0, none⟩ = some (.int .i64 F) ∧ V.cell? ⟨w.heap.size, 1, none⟩ = some (.int .i64 qt) ∧ V.cell? ⟨w.heap.size, 2, none⟩ = some (.slice pa N pc) ∧ V.cell? ⟨w.heap.size, 3, none⟩ = some (.slice wa n1 wc) ∧ V.cell? ⟨w.heap.size, 4, none⟩ = some (.slice oa n2 oc)) := by
      intro V hV
      have b := fun k => World.cell?_of_block (a := ⟨w.heap.size, k, none⟩) (hV.block w.heap.size (by rw [← hwb]; simp) (by simp))
      exact ⟨(b 0).trans (by rw [← hwb]; simp), (b 1).trans (by rw [← hwb]; simp), (b 2).trans (by rw [← hwb]; simp), (b 3).trans (by rw [← hwb]; simp), (b 4).trans (by rw [← hwb]; simp)⟩
    go_enter Tryd.func7, Tryd.ntmps7
    go_wp2_with (first | fail)
    have HWB := hide hwb
    clear hwb
    refine (CA.out _ HG0.out).mono ?_; rintro e w1 ⟨rfl, hg⟩
    have G1 := hide hg
    clear hg CA
    obtain ⟨k0, k1, k2, k3, k4⟩ := KEEP.out w1 G1.out
    go_wp2_with (first | fail)
    refine (CL.out k _ (grownBy_trans HG0.out G1.out)).mono ?_; rintro e w2 ⟨rfl, hg⟩
    have G2 := hide (grownBy_trans G1.out hg)
    rw [HL1v.out, HL1e.out]
    clear hg k0 k1 k2 k3 k4
    obtain ⟨k0, k1, k2, k3, k4⟩ := KEEP.out w2 G2.out
    go_upto_region 7 with (go_at_call 15; refine (NUM.out _ _).mono ?_; rintro e w' ⟨rfl, rfl⟩)
    go_wp2_with (first | fail)
    refine (CL.out (k + 1) _ (grownBy_trans HG0.out G2.out)).mono ?_; rintro e w3 ⟨rfl, hg⟩
    have G3 := hide (grownBy_trans G2.out hg)
    rw [HL2v.out, HL2e.out]
    clear hg k0 k1 k2 k3 k4
    go_wp2_with (go_at_call 15; refine (NUM.out _ _).mono ?_; rintro e w' ⟨rfl, rfl⟩)
    go_loopw [14, 15] (fun lw s V => ∃ (n : Nat), n ≤ F ∧ s = .int .i64 n ∧ lw = .int .i64 (M n) ∧ Hid (wb.grownBy V none)) (fun _ s _ => F - (intOf s).toNat)
    case atStart => exact ⟨0, by omega, rfl, by rw [HM0.out], G3⟩
    case round =>
      obtain ⟨n, hn, rfl, rfl, HG⟩ := hrel
      obtain ⟨k0, k1, k2, k3, k4⟩ := KEEP.out wr HG.out
      by_cases hlt : n < F
      · go_wp2
        go_loopw [16, 17] (fun mn i V => ∃ (j : Nat), j ≤ k ∧ i = .int .i64 j ∧ mn = .int .i64 (cfo n j) ∧ Hid (wb.grownBy V none)) (fun _ i _ => k - (intOf i).toNat)
        case atStart => exact ⟨0, by omega, rfl, by rw [HC0.out], HG⟩
        case round =>
          obtain ⟨j, hj, rfl, rfl, HI⟩ := hrel
          clear k0 k1 k2 k3 k4
          obtain ⟨k0, k1, k2, k3, k4⟩ := KEEP.out wr HI.out
          by_cases hj2 : j < k
          · obtain ⟨t1, t2⟩ := HAT.out (n + j) (by omega)
            rw [show ((n + j : Nat) : Int) = (n : Int) + j by omega] at t1 t2
            have HS := hide (HCS.out n j)
            have cb := HCB.out n j
            have HT2 := hide t2
            clear t2
            go_wp2_with (first | fail)
            refine (CT.out ((n : Int) + j) _ (grownBy_trans HG0.out HI.out)).mono ?_; rintro e w4 ⟨rfl, hg⟩
            have HI2 := hide (grownBy_trans HI.out hg)
            rw [t1]
            clear hg k0 k1 k2 k3 k4 t1
            generalize aV ((n : Int) + j) = ov at *
            generalize o (n + j) = oj at *
            generalize cfo n j = cj at *
            by_cases ho : ov = P
            · have HS2 := hide (HS.out.trans (by rw [HT2.out, if_pos ho]))
              subst ho
              clear HS HT2
              go_wp2_with (go_at_call 15; refine (NUM.out _ _).mono ?_; rintro e w' ⟨rfl, rfl⟩)
              go_roundw
              case rel => exact ⟨j + 1, by omega, by go_num, by rw [HS2.out], HI2⟩
              case measure => simp [intOf]; omega
            · have HS2 := hide (HS.out.trans (by rw [HT2.out, if_neg ho, Int.add_zero]))
              have ho2 : (ov == (P : Int)) = false := by simp [ho]
              clear HS HT2
              go_wp2_with (go_at_call 15; refine (NUM.out _ _).mono ?_; rintro e w' ⟨rfl, rfl⟩)
              go_roundw
              case rel => exact ⟨j + 1, by omega, by go_num, by rw [HS2.out], HI2⟩
              case measure => simp [intOf]; omega
          · have e : j = k := by omega
            subst e
            have HS := hide (HMS.out n)
            have cb := HCB.out n j
            have mA := HSM.out (n + 1) (by omega)
            rw [HS.out] at mA
            generalize cfo n j = cj at *
            generalize M n = mn at *
            by_cases b1 : 3 < n
            · by_cases b2 : n = fm
              · have b3 : ((n : Int) != (fm : Int)) = false := by simp [b2]
                go_wp2
                go_roundw
                case rel => exact ⟨n + 1, by omega, by go_num, by rw [HS.out], HI⟩
                case measure => simp [intOf]; omega
              · have b3 : ((n : Int) != (fm : Int)) = true := by simp; omega
                by_cases b4 : 60 < j
                · go_wp2
                  go_ret
                  exact ⟨rfl, grownBy_trans HG0.out HI.out⟩
                · skip
                  go_wp2
                  go_roundw
                  case rel => exact ⟨n + 1, by omega, by go_num, by rw [HS.out], HI⟩
                  case measure => simp [intOf]; omega
            · skip
              go_wp2
              go_roundw
              case rel => exact ⟨n + 1, by omega, by go_num, by rw [HS.out], HI⟩
              case measure => simp [intOf]; omega
      · have e : n = F := by omega
        subst e
        rw [HSA.out]
        by_cases b4 : 60 < k
        · go_wp2
          go_ret
          exact ⟨rfl, grownBy_trans HG0.out HG.out⟩
        · go_wp2
          go_ret
          exact ⟨rfl, grownBy_trans HG0.out HG.out⟩
  · have L1v : leV C p k = 0 := by unfold leV; rw [if_neg hok]
    have L1e : leE C p k = 700 := by unfold leE; rw [if_neg hok]
    have HL1v := hide L1v
    have HL1e := hide L1e
    clear L1v L1e hok hlen
    generalize leV C = lV at *
    generalize leE C = lE at *
    generalize C.quiet = qt at *
    generalize C.wins.length = n1 at *
    generalize C.ports.length = n2 at *
    generalize qs.length = N at *
    generalize C.frame = fr at *
    generalize hwb : w.alloc (.cells #[.int .i64 fr, .int .i64 qt, .slice pa N pc, .slice wa n1 wc, .slice oa n2 oc] 26) = wb
    have HG0 := hide (show w.grownBy wb none by rw [← hwb]; exact World.grownBy_alloc _ _ none)
    have KEEP : Hid (∀ V, wb.grownBy V none → V.cell? ⟨w.heap.size, 0, none⟩ = some (.int .i64 fr) ∧ V.cell? ⟨w.heap.size, 1, none⟩ = some (.int .i64 qt) ∧ V.cell? ⟨w.heap.size, 2, none⟩ = some (.slice pa N pc) ∧ V.cell? ⟨w.heap.size, 3, none⟩ = some (.slice wa n1 wc) ∧ V.cell? ⟨w.heap.size, 4, none⟩ = some (.slice oa n2 oc)) := by
      intro V hV
      have b := fun k => World.cell?_of_block (a := ⟨w.heap.size, k, none⟩) (hV.block w.heap.size (by rw [← hwb]; simp) (by simp))
      exact ⟨(b 0).trans (by rw [← hwb]; simp), (b 1).trans (by rw [← hwb]; simp), (b 2).trans (by rw [← hwb]; simp), (b 3).trans (by rw [← hwb]; simp), (b 4).trans (by rw [← hwb]; simp)⟩
    go_enter Tryd.func7, Tryd.ntmps7
    go_wp2_with (first | fail)
    have HWB := hide hwb
    clear hwb
    refine (CA.out _ HG0.out).mono ?_; rintro e w1 ⟨rfl, hg⟩
    have G1 := hide hg
    clear hg CA
    obtain ⟨k0, k1, k2, k3, k4⟩ := KEEP.out w1 G1.out
    go_wp2_with (first | fail)
    refine (CL.out k _ (grownBy_trans HG0.out G1.out)).mono ?_; rintro e w2 ⟨rfl, hg⟩
    have G2 := hide (grownBy_trans G1.out hg)
    rw [HL1v.out, HL1e.out]
    clear hg k0 k1 k2 k3 k4
    go_wp2_with (go_at_call 15; refine (NUM.out _ _).mono ?_; rintro e w' ⟨rfl, rfl⟩)
    go_ret
    exact ⟨rfl, grownBy_trans HG0.out G2.out⟩
#print axioms supplyLeast_any
end Go.Proofs.YtgocfgjdafkjlaaDoor.P7
