/- The contract of package admit's Check, proved over the translation. -/
import Derived.Test.YtehnklpjkcofcaaDoorAdmC
namespace Go.Proofs.YtehnklpjkcofcaaDoor
open Go.RowKit R6
attribute [local go_sem] alloc_drewN setCell_drewN

set_option maxRecDepth 100000 in
set_option maxHeartbeats 2000000 in
theorem admit_any {lo : Nat} (c : Value) (C : ConfV) (w : World) (hT : Tab w) (hc : ConfAt lo w c C) :
    Calls Tryd.prog 12 #[c] w fun e w' => e = .returned (.int .i64 (adN C)) ∧ w.grownBy w' none := by
  have C1 := hide (fun W (hg : w.grownBy W none) => check_any c C W (hT.grown hg) (hc.grown hg))
  have C2 := hide (fun W (hg : w.grownBy W none) => late_any c C W (hT.grown hg) (hc.grown hg))
  have C3 := hide (fun W (hg : w.grownBy W none) => bare_any c C W (hT.grown hg) (hc.grown hg))
  obtain ⟨vp, vw, vo, rfl, ⟨qs, -, ⟨hl, pa, pc, rfl, -⟩, -⟩, ⟨-, wa, wc, rfl, -⟩, ⟨-, oa, oc, rfl, -⟩⟩ := hc
  have HA : Hid (adN C = if checkN C = 0 then (if lateB C = true then 901 else if bareB C = true then 902 else 0) else checkN C) := rfl
  clear hT
  generalize adN C = an at *
  generalize lateB C = lb at *
  generalize bareB C = bb at *
  generalize checkN C = ce at *
  generalize C.frame = fr at *
  generalize C.quiet = qt at *
  generalize qs.length = n0 at *
  generalize C.wins.length = n1 at *
  generalize C.ports.length = n2 at *
  generalize hwb : w.alloc (.cells #[.int .i64 fr, .int .i64 qt, .slice pa n0 pc, .slice wa n1 wc, .slice oa n2 oc] 26) = wb
  have HG0 := hide (show w.grownBy wb none by rw [← hwb]; exact World.grownBy_alloc _ _ none)
  have KEEP : Hid (∀ V, wb.grownBy V none → V.cell? ⟨w.heap.size, 0, none⟩ = some (.int .i64 fr) ∧ V.cell? ⟨w.heap.size, 1, none⟩ = some (.int .i64 qt) ∧ V.cell? ⟨w.heap.size, 2, none⟩ = some (.slice pa n0 pc) ∧ V.cell? ⟨w.heap.size, 3, none⟩ = some (.slice wa n1 wc) ∧ V.cell? ⟨w.heap.size, 4, none⟩ = some (.slice oa n2 oc)) := by
    intro V hV
    have b := fun k => World.cell?_of_block (a := ⟨w.heap.size, k, none⟩) (hV.block w.heap.size (by rw [← hwb]; simp) (by simp))
    exact ⟨(b 0).trans (by rw [← hwb]; simp), (b 1).trans (by rw [← hwb]; simp), (b 2).trans (by rw [← hwb]; simp), (b 3).trans (by rw [← hwb]; simp), (b 4).trans (by rw [← hwb]; simp)⟩
  obtain ⟨k0, k1, k2, k3, k4⟩ := KEEP.out wb (grownBy_refl _ _)
  go_enter Tryd.func12, Tryd.ntmps12
  go_wp2_with (first | fail)
  have HWB := hide hwb
  clear hwb k0 k1 k2 k3 k4
  refine (C1.out _ HG0.out).mono ?_; rintro e w1 ⟨rfl, hg⟩
  have G1 := hide hg
  clear hg C1
  obtain ⟨k0, k1, k2, k3, k4⟩ := KEEP.out w1 G1.out
  by_cases h : ce = 0
  · subst h
    have HA2 := hide (HA.out.trans (if_pos rfl))
    clear HA
    go_wp2_with (first | fail)
    refine (C2.out _ (grownBy_trans HG0.out G1.out)).mono ?_; rintro e w2 ⟨rfl, hg⟩
    have G2 := hide (grownBy_trans G1.out hg)
    clear hg C2 k0 k1 k2 k3 k4
    obtain ⟨k0, k1, k2, k3, k4⟩ := KEEP.out w2 G2.out
    cases lb with
    | true =>
      have HA3 := hide (HA2.out.trans (if_pos rfl))
      clear HA2
      go_wp2
      go_ret
      exact ⟨by rw [HA3.out]; rfl, grownBy_trans HG0.out G2.out⟩
    | false =>
      have HA3 := hide (HA2.out.trans (if_neg (by simp)))
      clear HA2
      go_wp2_with (first | fail)
      refine (C3.out _ (grownBy_trans HG0.out G2.out)).mono ?_; rintro e w3 ⟨rfl, hg⟩
      have G3 := hide (grownBy_trans G2.out hg)
      clear hg C3 k0 k1 k2 k3 k4
      cases bb with
      | true =>
        have HA4 := hide (HA3.out.trans (if_pos rfl))
        clear HA3
        go_wp2
        go_ret
        exact ⟨by rw [HA4.out]; rfl, grownBy_trans HG0.out G3.out⟩
      | false =>
        have HA4 := hide (HA3.out.trans (if_neg (by simp)))
        clear HA3
        go_wp2
        go_ret
        exact ⟨by rw [HA4.out]; rfl, grownBy_trans HG0.out G3.out⟩
  · have HA2 := hide (HA.out.trans (if_neg h))
    have hd : (ce != 0) = true := by simp [h]
    go_wp2
    go_ret
    exact ⟨by rw [HA2.out]; rfl, grownBy_trans HG0.out G1.out⟩
#print axioms admit_any
end Go.Proofs.YtehnklpjkcofcaaDoor
