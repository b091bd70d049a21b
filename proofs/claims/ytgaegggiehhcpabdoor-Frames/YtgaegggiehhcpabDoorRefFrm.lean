/- Contracts of the document's own Window, At and Hyper, proved over the translation: they answer as the program's. -/
import Derived.Test.YtgaegggiehhcpabDoorRefSh
import Derived.Test.YtgaegggiehhcpabDoorFrm3
namespace Go.Proofs.YtgaegggiehhcpabDoor.R6
open Go.RowKit
attribute [local go_sem] alloc_drewN setCell_drewN

set_option maxRecDepth 100000 in
set_option maxHeartbeats 2000000 in
theorem rwindow_any {lo : Nat} (c : Value) (C : ConfV) (hF : Fine C) (t : Int) (t0 : 0 ≤ t) (w : World) (hc : ConfAt lo w c C) :
    Calls Tryd.prog 25 #[c, .int .i64 t] w fun e w' => e = .returned (.int .i64 (ownerN C.wins (t % C.frame))) ∧ w.grownBy w' none := by
  obtain ⟨vp, vw, vo, rfl, ⟨qs, -, ⟨-, pa, pc, rfl, -⟩, -⟩, hw, ⟨-, oa, oc, rfl, -⟩⟩ := hc
  have HV := hide (fun W => hw.grown (W := W))
  obtain ⟨hl, wa, wc, rfl, -⟩ := hw
  have f0 := hF.f0
  have f1 := hF.f1
  have hw1 := hF.w1
  clear hF
  generalize C.quiet = qt at *
  generalize qs.length = n0 at *
  generalize C.ports.length = n2 at *
  generalize C.frame = fr at *
  generalize C.wins = ws at *
  have hmod : Int.tmod t fr = t % fr := Int.tmod_eq_emod_of_nonneg t0
  have hm1 : t % fr < fr := Int.emod_lt_of_pos t (by omega)
  have hm0 : 0 ≤ t % fr := Int.emod_nonneg t (by omega)
  have hne : fr ≠ 0 := by omega
  generalize t % fr = k at *
  generalize hN : ws.length = N at *
  have HN := hide hN
  clear hN
  generalize hwb : w.alloc (.cells #[.int .i64 fr, .int .i64 qt, .slice pa n0 pc, .slice wa N wc, .slice oa n2 oc] 26) = wb
  have HG0 := hide (show w.grownBy wb none by rw [← hwb]; exact World.grownBy_alloc _ _ none)
  have KEEP : Hid (∀ V, wb.grownBy V none → V.cell? ⟨w.heap.size, 0, none⟩ = some (.int .i64 fr) ∧ V.cell? ⟨w.heap.size, 1, none⟩ = some (.int .i64 qt) ∧ V.cell? ⟨w.heap.size, 2, none⟩ = some (.slice pa n0 pc) ∧ V.cell? ⟨w.heap.size, 3, none⟩ = some (.slice wa N wc) ∧ V.cell? ⟨w.heap.size, 4, none⟩ = some (.slice oa n2 oc)) := by
    intro V hV
    have b := fun k => World.cell?_of_block (a := ⟨w.heap.size, k, none⟩) (hV.block w.heap.size (by rw [← hwb]; simp) (by simp))
    exact ⟨(b 0).trans (by rw [← hwb]; simp), (b 1).trans (by rw [← hwb]; simp), (b 2).trans (by rw [← hwb]; simp), (b 3).trans (by rw [← hwb]; simp), (b 4).trans (by rw [← hwb]; simp)⟩
  go_enter Tryd.func25, Tryd.ntmps25
  go_upto_region 1 with fail
  have HWB := hide hwb
  clear hwb
  obtain ⟨k0, k1, k2, k3, k4⟩ := KEEP.out wb (grownBy_refl _ _)
  go_wp2
  clear k0 k1 k2 k3 k4
  go_loopw [6] (fun i V => ∃ (j : Nat), j ≤ N ∧ i = .int .i64 j ∧ Hid (wb.grownBy V none) ∧ Hid (∀ i, i < j → inW (winAt ws i) k = false)) (fun i _ => N - (intOf i).toNat)
  case atStart => exact ⟨0, by omega, rfl, grownBy_refl _ _, fun i hi => absurd hi (Nat.not_lt_zero _)⟩
  case round =>
    obtain ⟨j, hj, rfl, HG, HALL⟩ := hrel
    obtain ⟨k0, k1, k2, k3, k4⟩ := KEEP.out wr HG.out
    by_cases hlt : j < N
    · have HVW := hide (HV.out wr (grownBy_trans HG0.out HG.out))
      obtain ⟨g, o, rfl⟩ := row_addr HVW.out (by omega)
      have hq := winAt_mem (ws := ws) (i := j) (by rw [HN.out]; exact hlt)
      have c0 : wr.cell? ⟨g, o + j * 3, none⟩ = some (.int .i64 (winAt ws j).fr) := row_cell (S := shW) HVW.out hq (k := 0) rfl
      have c1 : wr.cell? ⟨g, o + j * 3 + 1, none⟩ = some (.int .i64 (winAt ws j).til) := row_cell (S := shW) HVW.out hq (k := 1) rfl
      have c2 : wr.cell? ⟨g, o + j * 3 + 2, none⟩ = some (.int .i64 (winAt ws j).part) := row_cell (S := shW) HVW.out hq (k := 2) rfl
      have HOW := hide (fun h => ownerN_some (ws := ws) (k := k) (j := j) (by rw [HN.out]; exact hlt) HALL.out h)
      have HIN := hide (show inW (winAt ws j) k = (decide ((winAt ws j).fr ≤ k) && decide (k < (winAt ws j).til)) from rfl)
      have HST : Hid (inW (winAt ws j) k = false → ∀ i, i < j + 1 → inW (winAt ws i) k = false) := fun h i hi => by
        rcases (by omega : i < j ∨ i = j) with h' | rfl
        · exact HALL.out i h'
        · exact h
      clear hq HVW
      generalize inW (winAt ws j) k = b at HOW HIN HST
      generalize (winAt ws j).fr = x0 at *
      generalize (winAt ws j).til = x1 at *
      generalize (winAt ws j).part = x2 at *
      by_cases h1 : x0 ≤ k
      · by_cases h2 : k < x1
        · have HO := hide (HOW.out (by rw [HIN.out]; simp [h1, h2]))
          clear HOW HIN
          go_wp2
          go_ret
          exact ⟨ret_int HO.out.symm, grownBy_trans HG0.out HG.out⟩
        · have HO := hide (HST.out (by rw [HIN.out]; simp [h2]))
          clear HOW HIN
          go_wp2
          go_roundw
          case rel => exact ⟨j + 1, by omega, by go_num, HG, HO⟩
          case measure => simp [intOf]; omega
      · have HO := hide (HST.out (by rw [HIN.out]; simp [h1]))
        clear HOW HIN
        go_wp2
        go_roundw
        case rel => exact ⟨j + 1, by omega, by go_num, HG, HO⟩
        case measure => simp [intOf]; omega
    · go_wp2
      go_ret
      exact ⟨ret_int (ownerN_none (fun i hi => HALL.out i (by rw [HN.out] at hi; omega))).symm, grownBy_trans HG0.out HG.out⟩

set_option maxRecDepth 100000 in
set_option maxHeartbeats 2000000 in
theorem rAt_any {lo : Nat} (c : Value) (C : ConfV) (t : Int) (w : World) (hc : ConfAt lo w c C) :
    Calls Tryd.prog 10 #[c, .int .i64 t] w fun e w' => e = .returned (.tuple #[.int .i64 (atV C t), .int .i64 (atE C t)]) ∧ w.grownBy w' none := by
  have C1 := hide (fun W (hg : w.grownBy W none) => rcheck_any c C W (hc.grown hg))
  have C2 := hide (fun W (hg : w.grownBy W none) (h : checkN C = 0) (t0 : 0 ≤ t) => rwindow_any c C (fine_of h) t t0 W (hc.grown hg))
  obtain ⟨vp, vw, vo, rfl, ⟨qs, -, ⟨hl, pa, pc, rfl, -⟩, -⟩, ⟨-, wa, wc, rfl, -⟩, ⟨-, oa, oc, rfl, -⟩⟩ := hc
  have HV : Hid (atV C t = if atOK C t = true then ownerN C.wins (t % C.frame) else 0) := rfl
  have HE : Hid (atE C t = if atOK C t = true then 0 else 600) := rfl
  have HOK : Hid (atOK C t = (decide (checkN C = 0) && (decide (0 ≤ t) && decide (t ≤ 1099511627776)))) := rfl
  generalize atV C t = av at *
  generalize atE C t = ae at *
  generalize atOK C t = ok at *
  generalize ownerN C.wins (t % C.frame) = ow at *
  generalize checkN C = ce at *
  generalize C.frame = fr at *
  generalize C.quiet = qt at *
  generalize qs.length = n0 at *
  generalize C.wins.length = N at *
  generalize C.ports.length = n2 at *
  generalize hwb : w.alloc (.cells #[.int .i64 fr, .int .i64 qt, .slice pa n0 pc, .slice wa N wc, .slice oa n2 oc] 26) = wb
  have HG0 := hide (show w.grownBy wb none by rw [← hwb]; exact World.grownBy_alloc _ _ none)
  have KEEP : Hid (∀ V, wb.grownBy V none → V.cell? ⟨w.heap.size, 0, none⟩ = some (.int .i64 fr) ∧ V.cell? ⟨w.heap.size, 1, none⟩ = some (.int .i64 qt) ∧ V.cell? ⟨w.heap.size, 2, none⟩ = some (.slice pa n0 pc) ∧ V.cell? ⟨w.heap.size, 3, none⟩ = some (.slice wa N wc) ∧ V.cell? ⟨w.heap.size, 4, none⟩ = some (.slice oa n2 oc)) := by
    intro V hV
    have b := fun k => World.cell?_of_block (a := ⟨w.heap.size, k, none⟩) (hV.block w.heap.size (by rw [← hwb]; simp) (by simp))
    exact ⟨(b 0).trans (by rw [← hwb]; simp), (b 1).trans (by rw [← hwb]; simp), (b 2).trans (by rw [← hwb]; simp), (b 3).trans (by rw [← hwb]; simp), (b 4).trans (by rw [← hwb]; simp)⟩
  go_enter Tryd.func10, Tryd.ntmps10
  go_upto_region 1 with fail
  have HWB := hide hwb
  clear hwb
  obtain ⟨k0, k1, k2, k3, k4⟩ := KEEP.out wb (grownBy_refl _ _)
  go_wp2_with (first | fail)
  refine (C1.out _ HG0.out).mono ?_; rintro e w1 ⟨rfl, hg⟩
  have G1 := hide hg
  clear hg C1 k0 k1 k2 k3 k4
  obtain ⟨f0, f1, f2, f3, f4⟩ := KEEP.out w1 G1.out
  by_cases h : ce = 0
  · subst h
    by_cases h0 : t < 0
    · have HO := hide (HOK.out.trans (show _ = false by simp; omega))
      go_wp2
      go_ret2
      exact ⟨by rw [HV.out, HE.out, HO.out]; rfl, grownBy_trans HG0.out G1.out⟩
    · by_cases h1 : 1099511627776 < t
      · have HO := hide (HOK.out.trans (show _ = false by simp; omega))
        go_wp2
        go_ret2
        exact ⟨by rw [HV.out, HE.out, HO.out]; rfl, grownBy_trans HG0.out G1.out⟩
      · have HO := hide (HOK.out.trans (show _ = true by simp; omega))
        have C3 := hide (C2.out w1 (grownBy_trans HG0.out G1.out) rfl (by omega))
        go_wp2_with (go_at_call 25; refine C3.out.mono ?_; rintro e w2 ⟨rfl, hg⟩; have G2 := hide (grownBy_trans G1.out hg); clear hg)
        go_ret2
        exact ⟨by rw [HV.out, HE.out, HO.out]; rfl, grownBy_trans HG0.out G2.out⟩
  · have HO := hide (HOK.out.trans (show _ = false by simp [h]))
    have hd : (ce != 0) = true := by simp [h]
    go_wp2
    go_ret2
    exact ⟨by rw [HV.out, HE.out, HO.out]; rfl, grownBy_trans HG0.out G1.out⟩

set_option maxRecDepth 100000 in
set_option maxHeartbeats 4000000 in
theorem rHyper_any {lo : Nat} (c : Value) (C : ConfV) (w : World) (hc : ConfAt lo w c C) :
    Calls Tryd.prog 14 #[c] w fun e w' => e = .returned (.tuple #[.int .u64 (hyV C), .int .i64 (hyE C)]) ∧ w.grownBy w' none := by
  have C1 := hide (fun W (hg : w.grownBy W none) => rcheck_any c C W (hc.grown hg))
  have CL := hide (fun a a0 a1 b b0 b1 W => (rlcm_def a b a0 a1 b0 b1 W).mono fun e w' h => And.intro h.1 (show W.grownBy w' none by rw [h.2]; exact grownBy_refl _ _))
  obtain ⟨vp, vw, vo, rfl, ⟨qs, hlen, hrow, hel⟩, ⟨-, wa, wc, rfl, -⟩, ⟨-, oa, oc, rfl, -⟩⟩ := hc
  have HRP := hide (fun W => hrow.grown (W := W))
  have HEL := hide (fun W (hg : w.grownBy W none) i q p hq hp => (hel i q p hq hp).kept (keep_grown hg))
  obtain ⟨hl, pa, pc, rfl, -⟩ := hrow
  have HV : Hid (hyV C = if checkN C = 0 then (hypP C.frame C.parts).1 else 0) := rfl
  have HE : Hid (hyE C = if checkN C = 0 then (hypP C.frame C.parts).2 else 600) := rfl
  have HF0 := hide (fun h : checkN C = 0 => fine_of h)
  rw [hlen] at hl HRP C1 ⊢
  have HLQ := hide hlen
  clear hlen hel
  generalize hyV C = av at *
  generalize hyE C = ae at *
  generalize checkN C = ce at *
  generalize C.quiet = qt at *
  generalize C.wins.length = N at *
  generalize C.ports.length = n2 at *
  generalize hN : C.parts.length = n0 at *
  have HN := hide hN
  clear hN
  generalize hfr : C.frame = fr at *
  have HFR := hide hfr
  clear hfr
  generalize hwb : w.alloc (.cells #[.int .i64 fr, .int .i64 qt, .slice pa n0 pc, .slice wa N wc, .slice oa n2 oc] 26) = wb
  have HG0 := hide (show w.grownBy wb none by rw [← hwb]; exact World.grownBy_alloc _ _ none)
  have KEEP : Hid (∀ V, wb.grownBy V none → V.cell? ⟨w.heap.size, 0, none⟩ = some (.int .i64 fr) ∧ V.cell? ⟨w.heap.size, 1, none⟩ = some (.int .i64 qt) ∧ V.cell? ⟨w.heap.size, 2, none⟩ = some (.slice pa n0 pc) ∧ V.cell? ⟨w.heap.size, 3, none⟩ = some (.slice wa N wc) ∧ V.cell? ⟨w.heap.size, 4, none⟩ = some (.slice oa n2 oc)) := by
    intro V hV
    have b := fun k => World.cell?_of_block (a := ⟨w.heap.size, k, none⟩) (hV.block w.heap.size (by rw [← hwb]; simp) (by simp))
    exact ⟨(b 0).trans (by rw [← hwb]; simp), (b 1).trans (by rw [← hwb]; simp), (b 2).trans (by rw [← hwb]; simp), (b 3).trans (by rw [← hwb]; simp), (b 4).trans (by rw [← hwb]; simp)⟩
  go_enter Tryd.func14, Tryd.ntmps14
  go_upto_region 1 with fail
  have HWB := hide hwb
  clear hwb
  obtain ⟨k0, k1, k2, k3, k4⟩ := KEEP.out wb (grownBy_refl _ _)
  go_wp2_with (first | fail)
  refine (C1.out _ HG0.out).mono ?_; rintro e w1 ⟨rfl, hg⟩
  have G1 := hide hg
  clear hg C1 k0 k1 k2 k3 k4
  obtain ⟨f0, f1, f2, f3, f4⟩ := KEEP.out w1 G1.out
  by_cases h : ce = 0
  · subst h
    have HF := hide (HF0.out rfl)
    have fr0 : 1 ≤ fr := by rw [← HFR.out]; exact HF.out.f0
    have fr1 : fr ≤ 256 := by rw [← HFR.out]; exact HF.out.f1
    clear HF0
    have HV2 := hide (HV.out.trans (if_pos rfl))
    have HE2 := hide (HE.out.trans (if_pos rfl))
    clear HV HE
    go_wp2
    clear f0 f1 f2 f3 f4
    go_loopw [4, 5] (fun s i V => ∃ (j : Nat) (X : Int), j ≤ n0 ∧ 1 ≤ X ∧ X ≤ 18446744073709551615 ∧ i = .int .i64 j ∧ s = .int .u64 X ∧ Hid (hypP X (C.parts.drop j) = hypP fr C.parts) ∧ Hid (wb.grownBy V none)) (fun _ i _ => n0 - (intOf i).toNat)
    case atStart => exact ⟨0, fr, by omega, by omega, by omega, rfl, rfl, rfl, G1⟩
    case round =>
      obtain ⟨j, X, hj, X0, X1, rfl, rfl, HX, HG⟩ := hrel
      obtain ⟨k0, k1, k2, k3, k4⟩ := KEEP.out wr HG.out
      by_cases hlt : j < n0
      · obtain ⟨g, o, rfl⟩ := row_addr (HRP.out wr (grownBy_trans HG0.out HG.out)) (by omega)
        obtain ⟨q, hq⟩ : ∃ q, qs[j]? = some q := ⟨_, List.getElem?_eq_getElem (by rw [HLQ.out]; exact hlt)⟩
        have hpt := partAt_mem (ws := C.parts) (i := j) (by rw [HN.out]; exact hlt)
        have HTR := hide (fun V (h : wb.grownBy V none) => (HEL.out V (grownBy_trans HG0.out h) j q _ hq hpt).2.1)
        have HCL : Hid (∀ V, wb.grownBy V none → V.cell? ⟨g, o + j * 3 + 1, none⟩ = some (.slice q.ta q.tn q.tc)) := fun V hV => row_cell (S := shP) (HRP.out V (grownBy_trans HG0.out hV)) hq (k := 1) rfl
        have HPR := hide ((HF.out.per j (by rw [HN.out]; exact hlt)).2)
        have HX2 := hide ((drop_cons hpt ▸ HX.out : hypP X (partAt C.parts j :: C.parts.drop (j + 1)) = hypP fr C.parts))
        have HX3 := hide ((hypP_cons X (partAt C.parts j) (C.parts.drop (j + 1))).symm.trans HX2.out)
        unfold PartM.tasks at HTR
        obtain ⟨l, ta, tn, tc, ca, cn, cc⟩ := q
        dsimp only at HTR HCL
        clear hq hpt HX2 HX
        generalize (partAt C.parts j).tasks = ts at *
        have htn : tn = ts.length := by obtain ⟨_, a, cap, e, _⟩ := HTR.out wr HG.out; simp only [Value.slice.injEq] at e; exact e.2.1
        subst htn
        have hlt2 : ts.length ≤ 9223372036854775807 := (HTR.out wr HG.out).1
        generalize hM : ts.length = M at *
        have HM := hide hM
        clear hM
        have c1 := HCL.out wr HG.out
        go_wp2
        go_loopw [4, 6] (fun s i V => ∃ (m : Nat) (Y : Int), m ≤ M ∧ 1 ≤ Y ∧ Y ≤ 18446744073709551615 ∧ i = .int .i64 m ∧ s = .int .u64 Y ∧ Hid (hypT Y (ts.drop m) = hypT X ts) ∧ Hid (wb.grownBy V none)) (fun _ i _ => M - (intOf i).toNat)
        case atStart => exact ⟨0, X, by omega, X0, X1, rfl, rfl, rfl, HG⟩
        case round =>
          obtain ⟨m, Y, hm, Y0, Y1, rfl, rfl, HY, HI⟩ := hrel
          clear k0 k1 k2 k3 k4 c1
          obtain ⟨k0, k1, k2, k3, k4⟩ := KEEP.out wr HI.out
          have c1 := HCL.out wr HI.out
          by_cases hm2 : m < M
          · have HTW := hide (HTR.out wr HI.out)
            obtain ⟨g', o', rfl⟩ := row_addr HTW.out (by omega)
            have hqt := taskAt_mem (ws := ts) (i := m) (by rw [HM.out]; exact hm2)
            have d1 : wr.cell? ⟨g', o' + m * 6 + 1, none⟩ = some (.int .i64 (taskAt ts m).period) := row_cell (S := shT) HTW.out hqt (k := 1) rfl
            have pb := HPR.out m hm2
            have HY2 := hide ((drop_cons hqt ▸ HY.out : hypT Y (taskAt ts m :: ts.drop (m + 1)) = hypT X ts))
            have HY3 := hide ((hypT_cons Y (taskAt ts m) (ts.drop (m + 1))).symm.trans HY2.out)
            have CX := hide (fun W => (CL.out Y (by omega) Y1 (taskAt ts m).period (by omega) (by omega) W))
            have HFIT := hide (fun h => lcm_fits (x := Y) (y := (taskAt ts m).period) Y0 pb.1 h)
            clear hqt HTW HY2 HY
            generalize (taskAt ts m).period = y1 at *
            generalize lcmV Y y1 = LV at *
            generalize lcmE Y y1 = LE at *
            obtain ⟨p0, p1⟩ := pb
            by_cases hE : LE = 0
            · subst hE
              obtain ⟨v0, v1⟩ := HFIT.out rfl
              have HY4 := hide (((if_pos rfl).symm : hypT LV (ts.drop (m + 1)) = _).trans HY3.out)
              clear HY3 HFIT
              go_wp2_with (go_at_call 29; refine (CX.out _).mono ?_; rintro e w2 ⟨rfl, hg⟩; have G2 := hide hg; clear hg)
              go_roundw
              case rel => exact ⟨m + 1, LV, by omega, v0, v1, by go_num, rfl, HY4, hide (grownBy_trans HI.out G2.out)⟩
              case measure => simp [intOf]; omega
            · have hb : (LE != 0) = true := by simp [hE]
              have HY4 := hide (((if_neg hE).symm : ((0, LE) : Int × Int) = _).trans HY3.out)
              have HX4 := hide (show hypP fr C.parts = (0, LE) by rw [← HX3.out, ← HY4.out]; exact if_neg hE)
              clear HY3 HFIT HX3
              go_wp2_with (go_at_call 29; refine (CX.out _).mono ?_; rintro e w2 ⟨rfl, hg⟩; have G2 := hide hg; clear hg)
              go_ret2
              exact ⟨by rw [HV2.out, HE2.out, HX4.out]; rfl, grownBy_trans HG0.out (grownBy_trans HI.out G2.out)⟩
          · have HY2 := hide (show hypT Y [] = hypT X ts by rw [← HY.out, List.drop_of_length_le (by rw [HM.out]; omega)])
            have HX4 := hide (show hypP Y (C.parts.drop (j + 1)) = hypP fr C.parts by rw [← HX3.out, ← HY2.out]; rfl)
            go_wp2
            go_roundw
            case rel => exact ⟨j + 1, Y, by omega, Y0, Y1, by go_num, rfl, HX4, HI⟩
            case measure => simp [intOf]; omega
      · have HX2 := hide (show hypP X [] = hypP fr C.parts by rw [← HX.out, List.drop_of_length_le (by rw [HN.out]; omega)])
        go_wp2
        go_ret2
        exact ⟨by rw [HV2.out, HE2.out, ← HX2.out]; rfl, grownBy_trans HG0.out HG.out⟩
  · have HV2 := hide (HV.out.trans (if_neg h))
    have HE2 := hide (HE.out.trans (if_neg h))
    have hd : (ce != 0) = true := by simp [h]
    go_wp2
    go_ret2
    exact ⟨by rw [HV2.out, HE2.out]; rfl, grownBy_trans HG0.out G1.out⟩
#print axioms rHyper_any
end Go.Proofs.YtgaegggiehhcpabDoor.R6
