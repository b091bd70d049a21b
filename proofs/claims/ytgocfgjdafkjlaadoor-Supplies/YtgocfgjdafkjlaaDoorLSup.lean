/- The walk of the statement Supplies: any configuration and length; proved over the translation. -/
import Derived.Test.YtgocfgjdafkjlaaDoorAw7
import Derived.Test.YtgocfgjdafkjlaaDoorCopy
import Derived.Test.YtgocfgjdafkjlaaDoorRefLeast
namespace Go.Proofs.YtgocfgjdafkjlaaDoor.P7
open Go.RowKit
attribute [local go_sem] alloc_drewN setCell_drewN

set_option maxRecDepth 100000 in
set_option maxHeartbeats 4000000 in
theorem supplies_any {lo : Nat} (c : Value) (C : ConfV) (hbig : Big C) (p k : Int) (w : World) (hT : Tab w) (hc : ConfAt lo w c C) :
    Calls Tryd.prog 6 #[c, .int .i64 p, .int .i64 k] w fun e w' => e = .returned (.bool true) ∧ w.grownBy w' none := by
  have NUM : Hid (∀ (e : Int) (W : World), Calls Tryd.prog 15 #[.int .i64 e] W fun r w' => r = .returned (.int .i64 e) ∧ W = w') := fun e W => (num_any e W).mono fun _ _ h => ⟨h.1, h.2.symm⟩
  have CA := hide (fun W (hg : w.grownBy W none) => awake_any W (hT.grown hg))
  have CC := hide (fun W (hg : w.grownBy W none) => copy_any c C hbig W (hc.grown hg))
  have CR := hide (fun W (hg : w.grownBy W none) => R6.rLeast_any c C p k W (hc.grown hg))
  have CL := hide (fun (base : Nat) c' W (hg : w.grownBy W none) (h : COwn base W c' C) => least_any c' C p k W (hT.grown hg) h.at)
  obtain ⟨vp, vw, vo, rfl, ⟨qs, hlen, ⟨hl, pa, pc, rfl, -⟩, -⟩, ⟨-, wa, wc, rfl, -⟩, ⟨-, oa, oc, rfl, -⟩⟩ := hc
  clear hT hlen
  generalize hav : leV C p k = av at *
  generalize hae : leE C p k = ae at *
  clear hav hae
  generalize hfr : C.frame = fr at *
  generalize hqt : C.quiet = qt at *
  have HFR := hide hfr
  have HQT := hide hqt
  clear hfr hqt
  generalize qs.length = n0 at *
  generalize C.wins.length = N at *
  generalize C.ports.length = n2 at *
  generalize hwb : w.alloc (.cells #[.int .i64 fr, .int .i64 qt, .slice pa n0 pc, .slice wa N wc, .slice oa n2 oc] 26) = wb
  have HG0 := hide (show w.grownBy wb none by rw [← hwb]; exact World.grownBy_alloc _ _ none)
  have KEEP : Hid (∀ V, wb.grownBy V none → V.cell? ⟨w.heap.size, 0, none⟩ = some (.int .i64 fr) ∧ V.cell? ⟨w.heap.size, 1, none⟩ = some (.int .i64 qt) ∧ V.cell? ⟨w.heap.size, 2, none⟩ = some (.slice pa n0 pc) ∧ V.cell? ⟨w.heap.size, 3, none⟩ = some (.slice wa N wc) ∧ V.cell? ⟨w.heap.size, 4, none⟩ = some (.slice oa n2 oc)) := by
    intro V hV
    have b := fun k => World.cell?_of_block (a := ⟨w.heap.size, k, none⟩) (hV.block w.heap.size (by rw [← hwb]; simp) (by simp))
    exact ⟨(b 0).trans (by rw [← hwb]; simp), (b 1).trans (by rw [← hwb]; simp), (b 2).trans (by rw [← hwb]; simp), (b 3).trans (by rw [← hwb]; simp), (b 4).trans (by rw [← hwb]; simp)⟩
  go_enter Tryd.func6, Tryd.ntmps6
  go_upto_region 1 with fail
  have HWB := hide hwb
  clear hwb
  obtain ⟨k0, k1, k2, k3, k4⟩ := KEEP.out wb (grownBy_refl _ _)
  go_wp2_with (first | fail)
  refine (CC.out _ HG0.out).mono ?_; rintro e w1 ⟨c', rfl, ho, hg⟩
  have G1 := hide hg
  have CL1 := hide (CL.out _ c' w1 (grownBy_trans HG0.out hg) ho)
  clear hg ho CC CL k0 k1 k2 k3 k4
  go_wp2_with (first | fail)
  refine CL1.out.mono ?_; rintro e w2 ⟨rfl, hg⟩
  have G2 := hide (grownBy_trans G1.out hg)
  clear hg CL1
  obtain ⟨k0, k1, k2, k3, k4⟩ := KEEP.out w2 G2.out
  go_wp2_with (first | fail)
  refine (CR.out _ (grownBy_trans HG0.out G2.out)).mono ?_; rintro e w3 ⟨rfl, hg⟩
  have G3 := hide (grownBy_trans G2.out hg)
  clear hg k0 k1 k2 k3 k4 CR
  have CA3 := hide (CA.out w3 (grownBy_trans HG0.out G3.out))
  clear CA
  go_wp2_with (first | (go_at_call 15; refine (NUM.out _ _).mono ?_; rintro e w' ⟨rfl, rfl⟩) | (go_at_call 29; refine CA3.out.mono ?_; rintro e w4 ⟨rfl, hg⟩; have G4 := hide (grownBy_trans G3.out hg); clear hg))
  go_ret
  exact ⟨rfl, grownBy_trans HG0.out G4.out⟩
#print axioms supplies_any
end Go.Proofs.YtgocfgjdafkjlaaDoor.P7
