/- Contracts of package frame's At and Share, proved over the translation. -/
import Derived.Test.YtgaegggiehhcpabDoorFmath
namespace Go.Proofs.YtgaegggiehhcpabDoor
open Go.RowKit
attribute [local go_sem] alloc_drewN setCell_drewN

set_option maxRecDepth 100000 in
set_option maxHeartbeats 1000000 in
theorem cmay_any {lo : Nat} (c : Value) (C : ConfV) (w : World) (hT : Tab w) (hc : ConfAt lo w c C) :
    Calls Tryd.prog 21 #[c] w fun e w' => e = .returned (.bool (decide (checkN C = 0))) ∧ w.grownBy w' none := by
  have C1 := hide (fun W (hg : w.grownBy W none) => check_any c C W (hT.grown hg) (hc.grown hg))
  obtain ⟨vp, vw, vo, rfl, ⟨qs, -, ⟨-, pa, pc, rfl, -⟩, -⟩, ⟨-, wa, wc, rfl, -⟩, ⟨-, oa, oc, rfl, -⟩⟩ := hc
  have HG0 := hide (World.grownBy_alloc w (.cells #[.int .i64 C.frame, .int .i64 C.quiet, .slice pa qs.length pc, .slice wa C.wins.length wc, .slice oa C.ports.length oc] 26) none)
  clear hT
  generalize checkN C = ce at *
  generalize C.frame = fr at *
  generalize C.quiet = qt at *
  generalize qs.length = n0 at *
  generalize C.wins.length = n1 at *
  generalize C.ports.length = n2 at *
  go_enter Tryd.func21, Tryd.ntmps21
  go_wp2_with (first | fail)
  refine (C1.out _ HG0.out).mono ?_; rintro e w1 ⟨rfl, hg⟩
  have G1 := hide hg
  clear hg C1
  by_cases h : ce = 0
  · subst h
    go_wp2
    go_ret
    exact ⟨rfl, grownBy_trans HG0.out G1.out⟩
  · have h2 : (ce == 0) = false := by simp [h]
    go_wp2
    go_ret
    exact ⟨by simp [h], grownBy_trans HG0.out G1.out⟩

set_option maxRecDepth 100000 in
set_option maxHeartbeats 2000000 in
theorem owner_any {lo : Nat} (vw : Value) (ws : List WinV) (k : Int) (w : World) (hv : RowAt shW lo w vw ws) :
    Calls Tryd.prog 23 #[vw, .int .i64 k] w fun e w' => e = .returned (.int .i64 (ownerN ws k)) ∧ w.grownBy w' none := by
  have HV := hide (fun W => hv.grown (W := W))
  obtain ⟨hl, wa, wc, rfl, -⟩ := hv
  generalize hN : ws.length = N at *
  have HN := hide hN
  clear hN
  go_enter Tryd.func23, Tryd.ntmps23
  go_wp2
  go_loopw [6, 9] (fun _ i W => ∃ (j : Nat), j ≤ N ∧ i = .int .i64 j ∧ Hid (w.grownBy W none) ∧ Hid (∀ i, i < j → inW (winAt ws i) k = false)) (fun _ i _ => N - (intOf i).toNat)
  case atStart => exact ⟨0, by omega, rfl, grownBy_refl _ _, fun i hi => absurd hi (Nat.not_lt_zero _)⟩
  case round =>
    obtain ⟨j, hj, rfl, HG, HALL⟩ := hrel
    by_cases hlt : j < N
    · obtain ⟨-, a2, cap2, e2, hc⟩ := HV.out wr HG.out
      simp only [Value.slice.injEq] at e2
      obtain ⟨rfl, -, rfl⟩ := e2
      obtain ⟨g, o, rfl, -, hc2⟩ := hc (by rw [HN.out]; omega)
      have hq := winAt_mem (ws := ws) (i := j) (by rw [HN.out]; exact hlt)
      have hc3 := hc2 j _ hq
      have HOW := hide (fun h => ownerN_some (ws := ws) (k := k) (j := j) (by rw [HN.out]; exact hlt) HALL.out h)
      have HIN := hide (show inW (winAt ws j) k = (decide ((winAt ws j).fr ≤ k) && decide (k < (winAt ws j).til)) from rfl)
      have c0 : wr.cell? ⟨g, o + j * 3, none⟩ = some (.int .i64 (winAt ws j).fr) := hc3 0 _ rfl
      have c1 : wr.cell? ⟨g, o + j * 3 + 1, none⟩ = some (.int .i64 (winAt ws j).til) := hc3 1 _ rfl
      have c2 : wr.cell? ⟨g, o + j * 3 + 2, none⟩ = some (.int .i64 (winAt ws j).part) := hc3 2 _ rfl
      clear hc hc2 hc3 hq
      have HST : Hid (inW (winAt ws j) k = false → ∀ i, i < j + 1 → inW (winAt ws i) k = false) := fun h i hi => by
        rcases (by omega : i < j ∨ i = j) with h' | rfl
        · exact HALL.out i h'
        · exact h
      generalize inW (winAt ws j) k = b at HOW HIN HST
      generalize (winAt ws j).fr = x0 at *
      generalize (winAt ws j).til = x1 at *
      generalize (winAt ws j).part = x2 at *
      by_cases h1 : x0 ≤ k
      · by_cases h2 : k < x1
        · have HO := hide (HOW.out (by rw [HIN.out]; simp [h1, h2]))
          clear HOW HIN
          go_wp2
          go_ret
          exact ⟨ret_int HO.out.symm, grownBy_trans HG.out (World.grownBy_alloc _ _ _)⟩
        · have HO := hide (HST.out (by rw [HIN.out]; simp [h2]))
          clear HOW HIN
          go_wp2
          go_roundw
          case rel => exact ⟨j + 1, by omega, by go_num, hide (grownBy_trans HG.out (World.grownBy_alloc _ _ _)), HO⟩
          case measure => simp [intOf]; omega
      · have HO := hide (HST.out (by rw [HIN.out]; simp [h1]))
        clear HOW HIN
        go_wp2
        go_roundw
        case rel => exact ⟨j + 1, by omega, by go_num, hide (grownBy_trans HG.out (World.grownBy_alloc _ _ _)), HO⟩
        case measure => simp [intOf]; omega
    · go_wp2
      go_ret
      exact ⟨ret_int (ownerN_none (fun i hi => HALL.out i (by rw [HN.out] at hi; omega))).symm, HG.out⟩

set_option maxRecDepth 100000 in
set_option maxHeartbeats 2000000 in
theorem ticks_any {lo : Nat} (vw : Value) (C : ConfV) (hF : Fine C) (p : Int) (w : World) (hv : RowAt shW lo w vw C.wins) :
    Calls Tryd.prog 26 #[vw, .int .i64 p] w fun e w' => e = .returned (.int .i64 (ticksN C.wins p)) ∧ w.grownBy w' none := by
  have HV := hide (fun W => hv.grown (W := W))
  obtain ⟨hl, wa, wc, rfl, -⟩ := hv
  have HTO := hide (hF.to p)
  have HON := hide (hF.one p)
  have HBD := hide (fun i hi => And.intro (hF.fr0 i hi) (hF.win i hi).2.2.1)
  have HF1 := hide hF.f1
  have hw1 := hF.w1
  have HTN := hide (show ticksN C.wins p = tickTo C.wins p C.wins.length from rfl)
  clear hF
  generalize C.frame = fr at *
  generalize C.wins = ws at *
  generalize hN : ws.length = N at *
  have HN := hide hN
  clear hN
  go_enter Tryd.func26, Tryd.ntmps26
  go_wp2
  go_loopw [5, 7, 10] (fun s _ i W => ∃ (j : Nat), j ≤ N ∧ i = .int .i64 j ∧ s = .int .i64 (tickTo ws p j) ∧ Hid (w.grownBy W none)) (fun _ _ i _ => N - (intOf i).toNat)
  case atStart => exact ⟨0, by omega, rfl, rfl, grownBy_refl _ _⟩
  case round =>
    obtain ⟨j, hj, rfl, rfl, HG⟩ := hrel
    by_cases hlt : j < N
    · obtain ⟨-, a2, cap2, e2, hc⟩ := HV.out wr HG.out
      simp only [Value.slice.injEq] at e2
      obtain ⟨rfl, -, rfl⟩ := e2
      obtain ⟨g, o, rfl, -, hc2⟩ := hc (by rw [HN.out]; omega)
      have hq := winAt_mem (ws := ws) (i := j) (by rw [HN.out]; exact hlt)
      have hc3 := hc2 j _ hq
      have t0 := HTO.out j (by omega)
      have b0 := HBD.out j (by omega)
      have f1 := HF1.out
      have HS := hide (show tickTo ws p (j + 1) = tickTo ws p j + (if (winAt ws j).part = p then (winAt ws j).til - (winAt ws j).fr else 0) from rfl)
      have o0 := HON.out j (by omega)
      unfold tickOne at o0
      have c0 : wr.cell? ⟨g, o + j * 3, none⟩ = some (.int .i64 (winAt ws j).fr) := hc3 0 _ rfl
      have c1 : wr.cell? ⟨g, o + j * 3 + 1, none⟩ = some (.int .i64 (winAt ws j).til) := hc3 1 _ rfl
      have c2 : wr.cell? ⟨g, o + j * 3 + 2, none⟩ = some (.int .i64 (winAt ws j).part) := hc3 2 _ rfl
      clear hc hc2 hc3 hq
      generalize (winAt ws j).fr = x0 at *
      generalize (winAt ws j).til = x1 at *
      generalize (winAt ws j).part = x2 at *
      generalize tickTo ws p j = T at *
      by_cases h1 : x2 = p
      · subst h1
        rw [if_pos rfl] at o0
        have HS2 := hide (HS.out.trans (by rw [if_pos rfl]))
        clear HS
        go_wp2
        go_roundw
        case rel => exact ⟨j + 1, by omega, by go_num, by rw [HS2.out], hide (grownBy_trans HG.out (World.grownBy_alloc _ _ _))⟩
        case measure => simp [intOf]; omega
      · have h2 : (x2 == p) = false := by simp [h1]
        have HS2 := hide (HS.out.trans (by rw [if_neg h1, Int.add_zero]))
        clear HS
        go_wp2
        go_roundw
        case rel => exact ⟨j + 1, by omega, by go_num, by rw [HS2.out], hide (grownBy_trans HG.out (World.grownBy_alloc _ _ _))⟩
        case measure => simp [intOf]; omega
    · have e : j = N := by omega
      go_wp2
      go_ret
      exact ⟨ret_int (by rw [HTN.out, e]), HG.out⟩

theorem clock_any (x : Int) (w : World) : Calls Tryd.prog 22 #[.int .i64 x] w fun e w' => e = .returned (.bool (decide (0 ≤ x) && decide (x ≤ 1099511627776))) ∧ w = w' := by
  by_cases h0 : 0 ≤ x
  · by_cases h1 : x ≤ 1099511627776
    · rw [decide_eq_true h0, decide_eq_true h1]
      go_enter Tryd.func22, Tryd.ntmps22
      go_wp2
      go_ret
      exact ⟨rfl, rfl⟩
    · rw [decide_eq_true h0, decide_eq_false h1]
      go_enter Tryd.func22, Tryd.ntmps22
      go_wp2
      go_ret
      exact ⟨rfl, rfl⟩
  · rw [decide_eq_false h0]
    go_enter Tryd.func22, Tryd.ntmps22
    go_wp2
    go_ret
    exact ⟨rfl, rfl⟩
set_option maxRecDepth 100000 in
set_option maxHeartbeats 2000000 in
theorem at_any {lo : Nat} (c : Value) (C : ConfV) (t : Int) (w : World) (hT : Tab w) (hc : ConfAt lo w c C) :
    Calls Tryd.prog 9 #[c, .int .i64 t] w fun e w' => e = .returned (.tuple #[.int .i64 (atV C t), .int .i64 (atE C t)]) ∧ w.grownBy w' none := by
  have C1 := hide (fun W (hg : w.grownBy W none) => cmay_any c C W (hT.grown hg) (hc.grown hg))
  have CKL := hide (fun W => clock_any t W)
  have HCC := hc
  obtain ⟨vp, vw, vo, rfl, -, hw, -⟩ := hc
  have C2 := hide (fun W (hg : w.grownBy W none) => owner_any vw C.wins (t % C.frame) W (hw.grown hg))
  obtain ⟨vp', vw', vo', e, ⟨qs, -, ⟨-, pa, pc, rfl, -⟩, -⟩, ⟨-, wa, wc, rfl, -⟩, ⟨-, oa, oc, rfl, -⟩⟩ := HCC
  simp only [Value.agg.injEq, Array.mk.injEq, List.cons.injEq, and_true, true_and] at e
  obtain ⟨rfl, rfl, rfl⟩ := e
  have HFR := hide (fun h : checkN C = 0 => (fine_of h).f0)
  have HV : Hid (atV C t = if atOK C t = true then ownerN C.wins (t % C.frame) else 0) := rfl
  have HE : Hid (atE C t = if atOK C t = true then 0 else 600) := rfl
  have HOK : Hid (atOK C t = (decide (checkN C = 0) && (decide (0 ≤ t) && decide (t ≤ 1099511627776)))) := rfl
  clear hT hw
  generalize atV C t = av at *
  generalize atE C t = ae at *
  generalize atOK C t = ok at *
  generalize ownerN C.wins (t % C.frame) = ow at *
  generalize checkN C = ce at *
  generalize C.frame = fr at *
  generalize C.quiet = qt at *
  generalize qs.length = n0 at *
  generalize C.wins.length = n1 at *
  generalize C.ports.length = n2 at *
  have HG0 := hide (World.grownBy_alloc w (.cells #[.int .i64 fr, .int .i64 qt, .slice pa n0 pc, .slice wa n1 wc, .slice oa n2 oc] 26) none)
  have KEEP : Hid (∀ W, (w.alloc (.cells #[.int .i64 fr, .int .i64 qt, .slice pa n0 pc, .slice wa n1 wc, .slice oa n2 oc] 26)).grownBy W none → W.cell? ⟨w.heap.size, 0, none⟩ = some (.int .i64 fr) ∧ W.cell? ⟨w.heap.size, 3, none⟩ = some (.slice wa n1 wc)) := by
    intro W hW
    have b := fun k => World.cell?_of_block (a := ⟨w.heap.size, k, none⟩) (hW.block w.heap.size (by simp) (by simp))
    exact ⟨(b 0).trans (by simp), (b 3).trans (by simp)⟩
  go_enter Tryd.func9, Tryd.ntmps9
  go_wp2_with (first | fail)
  refine (C1.out _ HG0.out).mono ?_; rintro e w1 ⟨rfl, hg⟩
  have G1 := hide hg
  clear hg C1
  obtain ⟨f0, f3⟩ := KEEP.out w1 G1.out
  by_cases h : ce = 0
  · subst h
    have hf := HFR.out rfl
    by_cases h0 : t < 0
    · have HO := hide (HOK.out.trans (show _ = false by simp; omega))
      rw [show (decide (0 ≤ t) && decide (t ≤ 1099511627776)) = false by simp; omega] at CKL
      go_wp2_with (first | (go_at_call 22; refine (CKL.out _).mono ?_; rintro e w' ⟨rfl, rfl⟩) | fail)
      go_ret2
      exact ⟨by rw [HV.out, HE.out, HO.out]; rfl, grownBy_trans HG0.out G1.out⟩
    · by_cases h1 : 1099511627776 < t
      · have HO := hide (HOK.out.trans (show _ = false by simp; omega))
        rw [show (decide (0 ≤ t) && decide (t ≤ 1099511627776)) = false by simp; omega] at CKL
        go_wp2_with (first | (go_at_call 22; refine (CKL.out _).mono ?_; rintro e w' ⟨rfl, rfl⟩) | fail)
        go_ret2
        exact ⟨by rw [HV.out, HE.out, HO.out]; rfl, grownBy_trans HG0.out G1.out⟩
      · have HO := hide (HOK.out.trans (show _ = true by simp; omega))
        have hne : fr ≠ 0 := by omega
        have HD0 := hide (grownBy_trans HG0.out G1.out)
        obtain ⟨U, hU, F, HF, HR⟩ := class_of w1
        have d0 := fun u => (KEEP.out _ (grownBy_trans G1.out (HF.out u))).1
        have d3 := fun u => (KEEP.out _ (grownBy_trans G1.out (HF.out u))).2
        have ht0 : 0 ≤ t := by omega
        have hmod : Int.tmod t fr = t % fr := Int.tmod_eq_emod_of_nonneg ht0
        have hm1 : t % fr < fr := Int.emod_lt_of_pos t (by omega)
        have hm0 : 0 ≤ t % fr := Int.emod_nonneg t hne
        clear f0 f3
        rw [show (decide (0 ≤ t) && decide (t ≤ 1099511627776)) = true by simp; omega] at CKL
        go_wp2_with (first | (go_at_call 22; refine (CKL.out _).mono ?_; rintro e w' ⟨rfl, rfl⟩) | fail)
        refine wp_region_quiet_in F (by kernel_rfl) (by kernel_rfl) (HR.out _ (drew_grown _)) ?_
        repeat (go_big_quiet_step (first | (go_at_call 23; exact calls_in HR (HF.out _) (C2.out _ (grownBy_trans HD0.out (HF.out _))))))
        refine wpQuiet_nil ?_
        intro _ hw1
        obtain ⟨uq, hw2⟩ := hw1
        subst hw2
        go_wp2
        go_ret2
        exact ⟨by rw [HV.out, HE.out, HO.out]; rfl, grownBy_trans HD0.out (HF.out uq)⟩
  · have HO := hide (HOK.out.trans (show _ = false by simp [h]))
    have hd : decide (ce = 0) = false := by simp [h]
    rw [hd]
    go_wp2
    go_ret2
    exact ⟨by rw [HV.out, HE.out, HO.out]; rfl, grownBy_trans HG0.out G1.out⟩
#print axioms at_any
end Go.Proofs.YtgaegggiehhcpabDoor
