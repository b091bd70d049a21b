/- The walk of the statement Frames: any configuration and tick; proved over the translation. -/
import Derived.Test.YtgaegggiehhcpabDoorAw6
import Derived.Test.YtgaegggiehhcpabDoorCopy
import Derived.Test.YtgaegggiehhcpabDoorRefFrm
namespace Go.Proofs.YtgaegggiehhcpabDoor.P6
open Go.RowKit
attribute [local go_sem] alloc_drewN setCell_drewN

set_option maxRecDepth 100000 in
set_option maxHeartbeats 4000000 in
theorem frames_any {lo : Nat} (c : Value) (C : ConfV) (hbig : Big C) (t p : Int) (w : World) (hT : Tab w) (hc : ConfAt lo w c C) :
    Calls Tryd.prog 3 #[c, .int .i64 t, .int .i64 p] w fun e w' => e = .returned (.bool true) ∧ w.grownBy w' none := by
  have NUM : Hid (∀ (e : Int) (W : World), Calls Tryd.prog 15 #[.int .i64 e] W fun r w' => r = .returned (.int .i64 e) ∧ W = w') := fun e W => (num_any e W).mono fun _ _ h => ⟨h.1, h.2.symm⟩
  have CA := hide (fun W (hg : w.grownBy W none) => awake_any W (hT.grown hg))
  have CC := hide (fun W (hg : w.grownBy W none) => copy_any c C hbig W (hc.grown hg))
  have R1 := hide (fun W (hg : w.grownBy W none) => R6.rAt_any c C t W (hc.grown hg))
  have R2 := hide (fun W (hg : w.grownBy W none) => R6.rShare_any c C p W (hc.grown hg))
  have R3 := hide (fun W (hg : w.grownBy W none) => R6.rHyper_any c C W (hc.grown hg))
  have P1 := hide (fun (base : Nat) c' W (hg : w.grownBy W none) (h : COwn base W c' C) => at_any c' C t W (hT.grown hg) h.at)
  have P2 := hide (fun (base : Nat) c' W (hg : w.grownBy W none) (h : COwn base W c' C) => share_any c' C p W (hT.grown hg) h.at)
  have P3 := hide (fun (base : Nat) c' W (hg : w.grownBy W none) (h : COwn base W c' C) => hyper_any c' C W (hT.grown hg) h.at)
  have PS := hide (fun (base : Nat) c' W (hg : w.grownBy W none) (h : COwn base W c' C) => same_conf c' c C W h.at (hc.grown hg))
  obtain ⟨vp, vw, vo, rfl, ⟨qs, hlen, ⟨hl, pa, pc, rfl, -⟩, -⟩, ⟨-, wa, wc, rfl, -⟩, ⟨-, oa, oc, rfl, -⟩⟩ := hc
  clear hT hlen
  generalize atV C t = av at *
  generalize atE C t = ae at *
  generalize shV C p = sv at *
  generalize shE C p = se at *
  generalize hyV C = hv at *
  generalize hyE C = he at *
  have HFORM : Hid (∀ base W c', COwn base W c' C → ∃ a1 n1 c1 a2 n2 c2 a3 n3 c3, c' = .agg #[.int .i64 C.frame, .int .i64 C.quiet, .slice a1 n1 c1, .slice a2 n2 c2, .slice a3 n3 c3]) := by
    rintro base W c' ⟨vp, vw, vo, rfl, ⟨qs', _, h1, _⟩, h2, h3⟩
    obtain ⟨a1, c1, rfl⟩ := own_form h1
    obtain ⟨a2, c2, rfl⟩ := own_form h2
    obtain ⟨a3, c3, rfl⟩ := own_form h3
    exact ⟨_, _, _, _, _, _, _, _, _, rfl⟩
  generalize C.frame = fr at *
  generalize C.quiet = qt at *
  generalize qs.length = n0 at *
  generalize C.wins.length = N at *
  generalize C.ports.length = n2 at *
  generalize hwb : w.alloc (.cells #[.int .i64 fr, .int .i64 qt, .slice pa n0 pc, .slice wa N wc, .slice oa n2 oc] 26) = wb
  have HG0 := hide (show w.grownBy wb none by rw [← hwb]; exact World.grownBy_alloc _ _ none)
  have KEEP : Hid (∀ V, wb.grownBy V none → V.cell? ⟨w.heap.size, 0, none⟩ = some (.int .i64 fr) ∧ V.cell? ⟨w.heap.size, 1, none⟩ = some (.int .i64 qt) ∧ V.cell? ⟨w.heap.size, 2, none⟩ = some (.slice pa n0 pc) ∧ V.cell? ⟨w.heap.size, 3, none⟩ = some (.slice wa N wc) ∧ V.cell? ⟨w.heap.size, 4, none⟩ = some (.slice oa n2 oc)) := by
    intro V hV
    have b := fun k => World.cell?_of_block (a := ⟨w.heap.size, k, none⟩) (hV.block w.heap.size (by rw [← hwb]; simp) (by simp))
    exact ⟨(b 0).trans (by rw [← hwb]; simp), (b 1).trans (by rw [← hwb]; simp), (b 2).trans (by rw [← hwb]; simp), (b 3).trans (by rw [← hwb]; simp), (b 4).trans (by rw [← hwb]; simp)⟩
  go_enter Tryd.func3, Tryd.ntmps3
  go_upto_region 1 with fail
  have HWB := hide hwb
  clear hwb
  obtain ⟨k0, k1, k2, k3, k4⟩ := KEEP.out wb (grownBy_refl _ _)
  go_wp2_with (first | fail)
  refine (CC.out _ HG0.out).mono ?_; rintro e w1 ⟨c', rfl, ho, hg⟩
  obtain ⟨a1, m1, c1, a2, m2, c2, a3, m3, c3, rfl⟩ := HFORM.out _ _ _ ho
  have G1 := hide hg
  have O1 := hide ho
  clear hg ho CC k0 k1 k2 k3 k4
  go_upto_region 2 with fail
  have A2 := hide (World.grownBy_alloc w1 (.cells #[.int .i64 fr, .int .i64 qt, .slice a1 m1 c1, .slice a2 m2 c2, .slice a3 m3 c3] 26) none)
  have HX := hide (heap_alloc_new w1 (.cells #[.int .i64 fr, .int .i64 qt, .slice a1 m1 c1, .slice a2 m2 c2, .slice a3 m3 c3] 26))
  generalize w1.alloc (.cells #[.int .i64 fr, .int .i64 qt, .slice a1 m1 c1, .slice a2 m2 c2, .slice a3 m3 c3] 26) = wx at *
  generalize w1.heap.size = X at *
  have GX := hide (grownBy_trans G1.out A2.out)
  have OX := hide (O1.out.grown A2.out)
  have KX : Hid (∀ V, wx.grownBy V none → V.cell? ⟨X, 0, none⟩ = some (.int .i64 fr) ∧ V.cell? ⟨X, 1, none⟩ = some (.int .i64 qt) ∧ V.cell? ⟨X, 2, none⟩ = some (.slice a1 m1 c1) ∧ V.cell? ⟨X, 3, none⟩ = some (.slice a2 m2 c2) ∧ V.cell? ⟨X, 4, none⟩ = some (.slice a3 m3 c3)) := fun V hV => by
    have b := hp_keep HX.out hV
    exact ⟨blk_cell b 0, blk_cell b 1, blk_cell b 2, blk_cell b 3, blk_cell b 4⟩
  have HGW : Hid (∀ V, wx.grownBy V none → w.grownBy V none) := fun V hV => grownBy_trans HG0.out (grownBy_trans GX.out hV)
  have KW : Hid (∀ V, wx.grownBy V none → V.cell? ⟨w.heap.size, 0, none⟩ = some (.int .i64 fr) ∧ V.cell? ⟨w.heap.size, 1, none⟩ = some (.int .i64 qt) ∧ V.cell? ⟨w.heap.size, 2, none⟩ = some (.slice pa n0 pc) ∧ V.cell? ⟨w.heap.size, 3, none⟩ = some (.slice wa N wc) ∧ V.cell? ⟨w.heap.size, 4, none⟩ = some (.slice oa n2 oc)) := fun V hV => KEEP.out V (grownBy_trans GX.out hV)
  have OW : Hid (∀ V, wx.grownBy V none → COwn _ V _ C) := fun V hV => OX.out.grown hV
  clear O1 A2 G1
  have Q0 := hide (grownBy_refl wx none)
  obtain ⟨x0, x1, x2, x3, x4⟩ := KX.out _ Q0.out
  go_wp2_with (first | fail)
  refine (P1.out _ _ _ (HGW.out _ Q0.out) (OW.out _ Q0.out)).mono ?_; rintro e v0 ⟨rfl, hg⟩
  have Q1 := hide (grownBy_trans Q0.out hg)
  clear hg x0 x1 x2 x3 x4
  obtain ⟨x0, x1, x2, x3, x4⟩ := KW.out _ Q1.out
  go_wp2_with (first | fail)
  refine (R1.out _ (HGW.out _ Q1.out)).mono ?_; rintro e v1 ⟨rfl, hg⟩
  have Q2 := hide (grownBy_trans Q1.out hg)
  clear hg x0 x1 x2 x3 x4
  obtain ⟨x0, x1, x2, x3, x4⟩ := KX.out _ Q2.out
  go_wp2_with (first | fail)
  refine (P2.out _ _ _ (HGW.out _ Q2.out) (OW.out _ Q2.out)).mono ?_; rintro e v2 ⟨rfl, hg⟩
  have Q3 := hide (grownBy_trans Q2.out hg)
  clear hg x0 x1 x2 x3 x4
  obtain ⟨x0, x1, x2, x3, x4⟩ := KW.out _ Q3.out
  go_wp2_with (first | fail)
  refine (R2.out _ (HGW.out _ Q3.out)).mono ?_; rintro e v3 ⟨rfl, hg⟩
  have Q4 := hide (grownBy_trans Q3.out hg)
  clear hg x0 x1 x2 x3 x4
  obtain ⟨x0, x1, x2, x3, x4⟩ := KX.out _ Q4.out
  go_wp2_with (first | fail)
  refine (P3.out _ _ _ (HGW.out _ Q4.out) (OW.out _ Q4.out)).mono ?_; rintro e v4 ⟨rfl, hg⟩
  have Q5 := hide (grownBy_trans Q4.out hg)
  clear hg x0 x1 x2 x3 x4
  obtain ⟨x0, x1, x2, x3, x4⟩ := KW.out _ Q5.out
  go_wp2_with (first | fail)
  refine (R3.out _ (HGW.out _ Q5.out)).mono ?_; rintro e v5 ⟨rfl, hg⟩
  have Q6 := hide (grownBy_trans Q5.out hg)
  clear hg x0 x1 x2 x3 x4
  obtain ⟨x0, x1, x2, x3, x4⟩ := KX.out _ Q6.out
  obtain ⟨y0, y1, y2, y3, y4⟩ := KW.out _ Q6.out
  have PS6 := hide (PS.out _ _ _ (HGW.out _ Q6.out) (OW.out _ Q6.out))
  go_wp2_with (first | (go_at_call 15; refine (NUM.out _ _).mono ?_; rintro e w' ⟨rfl, rfl⟩) | (go_at_call 16; refine PS6.out.mono ?_; rintro e v6 ⟨rfl, hg⟩; have Q7 := hide (grownBy_trans Q6.out hg); clear hg) | (go_at_call 17; refine (CA.out _ (HGW.out _ Q7.out)).mono ?_; rintro e v7 ⟨rfl, hg⟩; have Q8 := hide (grownBy_trans Q7.out hg); clear hg))
  go_ret
  exact ⟨rfl, HGW.out _ Q8.out⟩
#print axioms frames_any
end Go.Proofs.YtgaegggiehhcpabDoor.P6
