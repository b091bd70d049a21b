/- Contracts of the document's own share and Share, proved over the translation. -/
import Derived.Test.YtgaegggiehhcpabDoorRefChk
import Derived.Test.YtgaegggiehhcpabDoorFmath
namespace Go.Proofs.YtgaegggiehhcpabDoor.R6
open Go.RowKit
attribute [local go_sem] alloc_drewN setCell_drewN

set_option maxRecDepth 100000 in
set_option maxHeartbeats 2000000 in
theorem rshare_any {lo : Nat} (c : Value) (C : ConfV) (hF : Fine C) (p : Int) (w : World) (hc : ConfAt lo w c C) :
    Calls Tryd.prog 27 #[c, .int .i64 p] w fun e w' => e = .returned (.int .i64 (ticksN C.wins p)) ∧ w.grownBy w' none := by
  obtain ⟨vp, vw, vo, rfl, ⟨qs, -, ⟨-, pa, pc, rfl, -⟩, -⟩, hw, ⟨-, oa, oc, rfl, -⟩⟩ := hc
  have HV := hide (fun W => hw.grown (W := W))
  obtain ⟨hl, wa, wc, rfl, -⟩ := hw
  have HTO := hide (hF.to p)
  have HON := hide (hF.one p)
  have HBD := hide (fun i hi => And.intro (hF.fr0 i hi) (hF.win i hi))
  have HF1 := hide hF.f1
  have hw1 := hF.w1
  have HTN := hide (show ticksN C.wins p = tickTo C.wins p C.wins.length from rfl)
  clear hF
  generalize C.quiet = qt at *
  generalize qs.length = n0 at *
  generalize C.ports.length = n2 at *
  generalize C.frame = fr at *
  generalize C.wins = ws at *
  generalize ticksN ws p = tn at *
  generalize hN : ws.length = N at *
  have HN := hide hN
  clear hN
  generalize hwb : w.alloc (.cells #[.int .i64 fr, .int .i64 qt, .slice pa n0 pc, .slice wa N wc, .slice oa n2 oc] 26) = wb
  have HG0 := hide (show w.grownBy wb none by rw [← hwb]; exact World.grownBy_alloc _ _ none)
  have KEEP : Hid (∀ V, wb.grownBy V none → V.cell? ⟨w.heap.size, 0, none⟩ = some (.int .i64 fr) ∧ V.cell? ⟨w.heap.size, 1, none⟩ = some (.int .i64 qt) ∧ V.cell? ⟨w.heap.size, 2, none⟩ = some (.slice pa n0 pc) ∧ V.cell? ⟨w.heap.size, 3, none⟩ = some (.slice wa N wc) ∧ V.cell? ⟨w.heap.size, 4, none⟩ = some (.slice oa n2 oc)) := by
    intro V hV
    have b := fun k => World.cell?_of_block (a := ⟨w.heap.size, k, none⟩) (hV.block w.heap.size (by rw [← hwb]; simp) (by simp))
    exact ⟨(b 0).trans (by rw [← hwb]; simp), (b 1).trans (by rw [← hwb]; simp), (b 2).trans (by rw [← hwb]; simp), (b 3).trans (by rw [← hwb]; simp), (b 4).trans (by rw [← hwb]; simp)⟩
  go_enter Tryd.func27, Tryd.ntmps27
  go_upto_region 1 with fail
  have HWB := hide hwb
  clear hwb
  go_wp2
  go_loopw [5, 6] (fun s i V => ∃ (j : Nat), j ≤ N ∧ i = .int .i64 j ∧ s = .int .i64 (tickTo ws p j) ∧ Hid (wb.grownBy V none)) (fun _ i _ => N - (intOf i).toNat)
  case atStart => exact ⟨0, by omega, rfl, rfl, grownBy_refl _ _⟩
  case round =>
    obtain ⟨j, hj, rfl, rfl, HG⟩ := hrel
    obtain ⟨k0, k1, k2, k3, k4⟩ := KEEP.out wr HG.out
    by_cases hlt : j < N
    · have HVW := hide (HV.out wr (grownBy_trans HG0.out HG.out))
      obtain ⟨g, o, rfl⟩ := row_addr HVW.out (by omega)
      have hq := winAt_mem (ws := ws) (i := j) (by rw [HN.out]; exact hlt)
      have c0 : wr.cell? ⟨g, o + j * 3, none⟩ = some (.int .i64 (winAt ws j).fr) := row_cell (S := shW) HVW.out hq (k := 0) rfl
      have c1 : wr.cell? ⟨g, o + j * 3 + 1, none⟩ = some (.int .i64 (winAt ws j).til) := row_cell (S := shW) HVW.out hq (k := 1) rfl
      have c2 : wr.cell? ⟨g, o + j * 3 + 2, none⟩ = some (.int .i64 (winAt ws j).part) := row_cell (S := shW) HVW.out hq (k := 2) rfl
      have t0 := HTO.out j (by omega)
      have b0 := HBD.out j (by omega)
      have f1 := HF1.out
      have HS := hide (show tickTo ws p (j + 1) = tickTo ws p j + (if (winAt ws j).part = p then (winAt ws j).til - (winAt ws j).fr else 0) from rfl)
      obtain ⟨b1, -, b2, b3, -, -⟩ := b0
      clear hq HVW
      generalize (winAt ws j).fr = x0 at *
      generalize (winAt ws j).til = x1 at *
      generalize (winAt ws j).part = x2 at *
      generalize tickTo ws p j = T at *
      by_cases h1 : x2 = p
      · subst h1
        have HS2 := hide (HS.out.trans (by rw [if_pos rfl]))
        clear HS
        go_wp2
        go_quiet (fail)
        go_wp2
        go_roundw
        case rel => exact ⟨j + 1, by omega, by go_num, by rw [HS2.out]; congr 1; omega, hide (grownBy_trans HG.out (grownBy_draws _ _ _))⟩
        case measure => simp [intOf]; omega
      · have h2 : (x2 == p) = false := by simp [h1]
        have HS2 := hide (HS.out.trans (by rw [if_neg h1, Int.add_zero]))
        clear HS
        go_wp2
        go_roundw
        case rel => exact ⟨j + 1, by omega, by go_num, by rw [HS2.out], HG⟩
        case measure => simp [intOf]; omega
    · have e : j = N := by omega
      go_wp2
      go_ret
      exact ⟨ret_int (by rw [HTN.out, e]), grownBy_trans HG0.out HG.out⟩

set_option maxRecDepth 100000 in
set_option maxHeartbeats 2000000 in
theorem rShare_any {lo : Nat} (c : Value) (C : ConfV) (p : Int) (w : World) (hc : ConfAt lo w c C) :
    Calls Tryd.prog 12 #[c, .int .i64 p] w fun e w' => e = .returned (.tuple #[.int .i64 (shV C p), .int .i64 (shE C p)]) ∧ w.grownBy w' none := by
  have C1 := hide (fun W (hg : w.grownBy W none) => rcheck_any c C W (hc.grown hg))
  have C2 := hide (fun W (hg : w.grownBy W none) (h : checkN C = 0) => rshare_any c C (fine_of h) p W (hc.grown hg))
  obtain ⟨vp, vw, vo, rfl, ⟨qs, hlen, ⟨hl, pa, pc, rfl, -⟩, -⟩, ⟨-, wa, wc, rfl, -⟩, ⟨-, oa, oc, rfl, -⟩⟩ := hc
  have HV : Hid (shV C p = if shOK C p = true then ticksN C.wins p else 0) := rfl
  have HE : Hid (shE C p = if shOK C p = true then 0 else 600) := rfl
  have HOK : Hid (shOK C p = (decide (checkN C = 0) && (decide (0 ≤ p) && decide (p < C.parts.length)))) := rfl
  rw [← hlen] at HOK
  clear hlen
  generalize shV C p = av at *
  generalize shE C p = ae at *
  generalize shOK C p = ok at *
  generalize ticksN C.wins p = ow at *
  generalize checkN C = ce at *
  generalize C.frame = fr at *
  generalize C.quiet = qt at *
  generalize qs.length = n0 at *
  generalize C.wins.length = N at *
  generalize C.ports.length = n2 at *
  generalize hwb : w.alloc (.cells #[.int .i64 fr, .int .i64 qt, .slice pa n0 pc, .slice wa N wc, .slice oa n2 oc] 26) = wb
  have HG0 := hide (show w.grownBy wb none by rw [← hwb]; exact World.grownBy_alloc _ _ none)
  have KEEP : Hid (∀ V, wb.grownBy V none → V.cell? ⟨w.heap.size, 0, none⟩ = some (.int .i64 fr) ∧ V.cell? ⟨w.heap.size, 1, none⟩ = some (.int .i64 qt) ∧ V.cell? ⟨w.heap.size, 2, none⟩ = some (.slice pa n0 pc) ∧ V.cell? ⟨w.heap.size, 3, none⟩ = some (.slice wa N wc) ∧ V.cell? ⟨w.heap.size, 4, none⟩ = some (.slice oa n2 oc)) := by
    intro V hV
    have b := fun k => World.cell?_of_block (a := ⟨w.heap.size, k, none⟩) (hV.block w.heap.size (by rw [← hwb]; simp) (by simp))
    exact ⟨(b 0).trans (by rw [← hwb]; simp), (b 1).trans (by rw [← hwb]; simp), (b 2).trans (by rw [← hwb]; simp), (b 3).trans (by rw [← hwb]; simp), (b 4).trans (by rw [← hwb]; simp)⟩
  go_enter Tryd.func12, Tryd.ntmps12
  go_upto_region 1 with fail
  have HWB := hide hwb
  clear hwb
  obtain ⟨k0, k1, k2, k3, k4⟩ := KEEP.out wb (grownBy_refl _ _)
  go_wp2_with (first | fail)
  refine (C1.out _ HG0.out).mono ?_; rintro e w1 ⟨rfl, hg⟩
  have G1 := hide hg
  clear hg C1 k0 k1 k2 k3 k4
  obtain ⟨f0, f1, f2, f3, f4⟩ := KEEP.out w1 G1.out
  by_cases h : ce = 0
  · subst h
    by_cases h0 : p < 0
    · have HO := hide (HOK.out.trans (show _ = false by simp; omega))
      go_wp2
      go_ret2
      exact ⟨by rw [HV.out, HE.out, HO.out]; rfl, grownBy_trans HG0.out G1.out⟩
    · by_cases h1 : (n0 : Int) ≤ p
      · have HO := hide (HOK.out.trans (show _ = false by simp; omega))
        go_wp2
        go_ret2
        exact ⟨by rw [HV.out, HE.out, HO.out]; rfl, grownBy_trans HG0.out G1.out⟩
      · have HO := hide (HOK.out.trans (show _ = true by simp; omega))
        have C3 := hide (C2.out w1 (grownBy_trans HG0.out G1.out) rfl)
        go_wp2_with (go_at_call 27; refine C3.out.mono ?_; rintro e w2 ⟨rfl, hg⟩; have G2 := hide (grownBy_trans G1.out hg); clear hg)
        go_ret2
        exact ⟨by rw [HV.out, HE.out, HO.out]; rfl, grownBy_trans HG0.out G2.out⟩
  · have HO := hide (HOK.out.trans (show _ = false by simp [h]))
    have hd : (ce != 0) = true := by simp [h]
    go_wp2
    go_ret2
    exact ⟨by rw [HV.out, HE.out, HO.out]; rfl, grownBy_trans HG0.out G1.out⟩
#print axioms rShare_any
end Go.Proofs.YtgaegggiehhcpabDoor.R6
