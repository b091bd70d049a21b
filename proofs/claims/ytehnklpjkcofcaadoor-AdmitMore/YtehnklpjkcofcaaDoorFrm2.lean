/- Contracts of package frame's Share and Hyper, proved over the translation. -/
import Derived.Test.YtehnklpjkcofcaaDoorFrm
namespace Go.Proofs.YtehnklpjkcofcaaDoor
open Go.RowKit
attribute [local go_sem] alloc_drewN setCell_drewN

set_option maxRecDepth 100000 in
set_option maxHeartbeats 2000000 in
theorem share_any {lo : Nat} (c : Value) (C : ConfV) (p : Int) (w : World) (hT : Tab w) (hc : ConfAt lo w c C) :
    Calls Tryd.prog 48 #[c, .int .i64 p] w fun e w' => e = .returned (.tuple #[.int .i64 (shV C p), .int .i64 (shE C p)]) ∧ w.grownBy w' none := by
  have C1 := hide (fun W (hg : w.grownBy W none) => cmay_any c C W (hT.grown hg) (hc.grown hg))
  have HCC := hc
  obtain ⟨vp, vw, vo, rfl, -, hw, -⟩ := hc
  have C2 := hide (fun W (hg : w.grownBy W none) (h : checkN C = 0) => ticks_any vw C (fine_of h) p W (hw.grown hg))
  obtain ⟨vp', vw', vo', e, ⟨qs, hlen, ⟨hl, pa, pc, rfl, -⟩, -⟩, ⟨-, wa, wc, rfl, -⟩, ⟨-, oa, oc, rfl, -⟩⟩ := HCC
  simp only [Value.agg.injEq, Array.mk.injEq, List.cons.injEq, and_true, true_and] at e
  obtain ⟨rfl, rfl, rfl⟩ := e
  have HV : Hid (shV C p = if shOK C p = true then ticksN C.wins p else 0) := rfl
  have HE : Hid (shE C p = if shOK C p = true then 0 else 600) := rfl
  have HOK : Hid (shOK C p = (decide (checkN C = 0) && (decide (0 ≤ p) && decide (p < C.parts.length)))) := rfl
  rw [← hlen] at HOK
  clear hT hw hlen
  generalize shV C p = av at *
  generalize shE C p = ae at *
  generalize shOK C p = ok at *
  generalize ticksN C.wins p = ow at *
  generalize checkN C = ce at *
  generalize C.frame = fr at *
  generalize C.quiet = qt at *
  generalize qs.length = n0 at *
  generalize C.wins.length = n1 at *
  generalize C.ports.length = n2 at *
  have HG0 := hide (World.grownBy_alloc w (.cells #[.int .i64 fr, .int .i64 qt, .slice pa n0 pc, .slice wa n1 wc, .slice oa n2 oc] 26) none)
  have KEEP : Hid (∀ W, (w.alloc (.cells #[.int .i64 fr, .int .i64 qt, .slice pa n0 pc, .slice wa n1 wc, .slice oa n2 oc] 26)).grownBy W none → W.cell? ⟨w.heap.size, 2, none⟩ = some (.slice pa n0 pc) ∧ W.cell? ⟨w.heap.size, 3, none⟩ = some (.slice wa n1 wc)) := by
    intro W hW
    have b := fun k => World.cell?_of_block (a := ⟨w.heap.size, k, none⟩) (hW.block w.heap.size (by simp) (by simp))
    exact ⟨(b 2).trans (by simp), (b 3).trans (by simp)⟩
  go_enter Tryd.func48, Tryd.ntmps48
  go_wp2_with (first | fail)
  refine (C1.out _ HG0.out).mono ?_; rintro e w1 ⟨rfl, hg⟩
  have G1 := hide hg
  clear hg C1
  obtain ⟨f2, f3⟩ := KEEP.out w1 G1.out
  by_cases h : ce = 0
  · subst h
    by_cases h0 : p < 0
    · have HO := hide (HOK.out.trans (show _ = false by simp; omega))
      go_wp2
      go_ret2
      exact ⟨by rw [HV.out, HE.out, HO.out]; rfl, grownBy_trans HG0.out G1.out⟩
    · by_cases h1 : (n0 : Int) ≤ p
      · have HO := hide (HOK.out.trans (show _ = false by simp; omega))
        go_wp2
        go_ret2
        exact ⟨by rw [HV.out, HE.out, HO.out]; rfl, grownBy_trans HG0.out G1.out⟩
      · have HO := hide (HOK.out.trans (show _ = true by simp; omega))
        have C3 := hide (C2.out w1 (grownBy_trans HG0.out G1.out) rfl)
        go_wp2_with (go_at_call 70; refine C3.out.mono ?_; rintro e w2 ⟨rfl, hg⟩; have G2 := hide hg; clear hg)
        go_ret2
        exact ⟨by rw [HV.out, HE.out, HO.out]; rfl, grownBy_trans HG0.out (grownBy_trans G1.out G2.out)⟩
  · have HO := hide (HOK.out.trans (show _ = false by simp [h]))
    have hd : decide (ce = 0) = false := by simp [h]
    rw [hd]
    go_wp2
    go_ret2
    exact ⟨by rw [HV.out, HE.out, HO.out]; rfl, grownBy_trans HG0.out G1.out⟩

theorem drop_cons {α : Type} {xs : List α} {j : Nat} {x : α} (h : xs[j]? = some x) : xs.drop j = x :: xs.drop (j + 1) := by
  obtain ⟨hj, e⟩ := List.getElem?_eq_some_iff.1 h
  rw [← e]
  exact List.drop_eq_getElem_cons hj
theorem taskAt_mem {ws : List TaskV} {i : Nat} (h : i < ws.length) : ws[i]? = some (taskAt ws i) := by
  unfold taskAt; rw [List.getElem?_eq_getElem h]; rfl
theorem partAt_mem {ws : List PartV} {i : Nat} (h : i < ws.length) : ws[i]? = some (partAt ws i) := by
  unfold partAt; rw [List.getElem?_eq_getElem h]; rfl

#print axioms share_any
end Go.Proofs.YtehnklpjkcofcaaDoor
