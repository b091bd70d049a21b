/- The walk of the statement Admits: any configuration, part and task; proved over the translation. -/
import Derived.Test.YtehnklpjkcofcaaDoorAw9
import Derived.Test.YtehnklpjkcofcaaDoorCopy
import Derived.Test.YtehnklpjkcofcaaDoorRefAdm2
namespace Go.Proofs.YtehnklpjkcofcaaDoor.P9
open Go.RowKit R6
attribute [local go_sem] alloc_drewN setCell_drewN

theorem cown_form {base : Nat} {W : World} {c : Value} {C : ConfV} (h : COwn base W c C) : ∃ a1 m1 c1 a2 m2 c2 a3 m3 c3, c = .agg #[.int .i64 C.frame, .int .i64 C.quiet, .slice a1 m1 c1, .slice a2 m2 c2, .slice a3 m3 c3] := by
  obtain ⟨vp, vw, vo, rfl, ⟨qs, -, h1, -⟩, h2, h3⟩ := h
  obtain ⟨a1, c1, rfl⟩ := own_form h1
  obtain ⟨a2, c2, rfl⟩ := own_form h2
  obtain ⟨a3, c3, rfl⟩ := own_form h3
  exact ⟨_, _, _, _, _, _, _, _, _, rfl⟩

set_option maxRecDepth 100000 in
set_option maxHeartbeats 4000000 in
theorem admits_any {lo : Nat} (c : Value) (C : ConfV) (hbig : Big C) (p i : Int) (w : World) (hT : Tab w) (hc : ConfAt lo w c C) :
    Calls Tryd.prog 3 #[c, .int .i64 p, .int .i64 i] w fun e w' => e = .returned (.bool true) ∧ w.grownBy w' none := by
  have NUM := hide num_any
  have CA := hide (fun W (hg : w.grownBy W none) => awake_any W (hT.grown hg))
  have CC := hide (fun W (hg : w.grownBy W none) => copy_any c C hbig W (hc.grown hg))
  have P1 := hide (fun (base : Nat) c' W (hg : w.grownBy W none) (h : COwn base W c' C) => resp_any c' C p i W (hT.grown hg) h.at)
  have P2 := hide (fun (base : Nat) c' W (hg : w.grownBy W none) (h : COwn base W c' C) => admit_any c' C W (hT.grown hg) h.at)
  have R1 := hide (fun W (hg : w.grownBy W none) => rResp_any c C p i W (hc.grown hg))
  have R2 := hide (fun W (hg : w.grownBy W none) => rAdmit_any c C W (hc.grown hg))
  have PS := hide (fun (base : Nat) c' W (hg : w.grownBy W none) (h : COwn base W c' C) => same_conf c' c C W h.at (hc.grown hg))
  have HFORM := hide (fun (base : Nat) W c' (h : COwn base W c' C) => cown_form h)
  obtain ⟨vp, vw, vo, rfl, ⟨qs, hlen, ⟨hl, pa, pc, rfl, -⟩, -⟩, ⟨-, wa, wc, rfl, -⟩, ⟨-, oa, oc, rfl, -⟩⟩ := hc
  clear hT hlen
  generalize hav : reV C p i = av at *
  generalize hae : reE C p i = ae at *
  generalize han : adN C = an at *
  clear hav hae han
  generalize hfr : C.frame = fr at *
  generalize hqt : C.quiet = qt at *
  clear hfr hqt
  generalize qs.length = n0 at *
  generalize C.wins.length = N at *
  generalize C.ports.length = n2 at *
  generalize hwb : w.alloc (.cells #[.int .i64 fr, .int .i64 qt, .slice pa n0 pc, .slice wa N wc, .slice oa n2 oc] 26) = wb
  have HG0 := hide (show w.grownBy wb none by rw [← hwb]; exact World.grownBy_alloc _ _ none)
  have KEEP : Hid (∀ V, wb.grownBy V none → V.cell? ⟨w.heap.size, 0, none⟩ = some (.int .i64 fr) ∧ V.cell? ⟨w.heap.size, 1, none⟩ = some (.int .i64 qt) ∧ V.cell? ⟨w.heap.size, 2, none⟩ = some (.slice pa n0 pc) ∧ V.cell? ⟨w.heap.size, 3, none⟩ = some (.slice wa N wc) ∧ V.cell? ⟨w.heap.size, 4, none⟩ = some (.slice oa n2 oc)) := by
    intro V hV
    have b := fun k => World.cell?_of_block (a := ⟨w.heap.size, k, none⟩) (hV.block w.heap.size (by rw [← hwb]; simp) (by simp))
    exact ⟨(b 0).trans (by rw [← hwb]; simp), (b 1).trans (by rw [← hwb]; simp), (b 2).trans (by rw [← hwb]; simp), (b 3).trans (by rw [← hwb]; simp), (b 4).trans (by rw [← hwb]; simp)⟩
  go_enter Tryd.func3, Tryd.ntmps3
  go_upto_region 1 with fail
  have HWB := hide hwb
  clear hwb
  obtain ⟨k0, k1, k2, k3, k4⟩ := KEEP.out wb (grownBy_refl _ _)
  go_wp2_with (first | fail)
  refine (CC.out _ HG0.out).mono ?_; rintro e w1 ⟨c', rfl, ho, hg⟩
  obtain ⟨a1, m1, c1, a2, m2, c2, a3, m3, c3, rfl⟩ := HFORM.out _ _ _ ho
  have G1 := hide hg
  have O1 := hide ho
  clear hg ho CC k0 k1 k2 k3 k4
  go_upto_region 2 with fail
  have A2 := hide (World.grownBy_alloc w1 (.cells #[.int .i64 fr, .int .i64 qt, .slice a1 m1 c1, .slice a2 m2 c2, .slice a3 m3 c3] 26) none)
  have HX := hide (heap_alloc_new w1 (.cells #[.int .i64 fr, .int .i64 qt, .slice a1 m1 c1, .slice a2 m2 c2, .slice a3 m3 c3] 26))
  generalize w1.alloc (.cells #[.int .i64 fr, .int .i64 qt, .slice a1 m1 c1, .slice a2 m2 c2, .slice a3 m3 c3] 26) = wx at *
  generalize w1.heap.size = X at *
  have GX := hide (grownBy_trans G1.out A2.out)
  have OX := hide (O1.out.grown A2.out)
  have KX : Hid (∀ V, wx.grownBy V none → V.cell? ⟨X, 0, none⟩ = some (.int .i64 fr) ∧ V.cell? ⟨X, 1, none⟩ = some (.int .i64 qt) ∧ V.cell? ⟨X, 2, none⟩ = some (.slice a1 m1 c1) ∧ V.cell? ⟨X, 3, none⟩ = some (.slice a2 m2 c2) ∧ V.cell? ⟨X, 4, none⟩ = some (.slice a3 m3 c3)) := fun V hV => by
    have b := box_grown HX.out hV (by simp)
    exact ⟨blk_cell b 0, blk_cell b 1, blk_cell b 2, blk_cell b 3, blk_cell b 4⟩
  have HGW : Hid (∀ V, wx.grownBy V none → w.grownBy V none) := fun V hV => grownBy_trans HG0.out (grownBy_trans GX.out hV)
  have KW : Hid (∀ V, wx.grownBy V none → V.cell? ⟨w.heap.size, 0, none⟩ = some (.int .i64 fr) ∧ V.cell? ⟨w.heap.size, 1, none⟩ = some (.int .i64 qt) ∧ V.cell? ⟨w.heap.size, 2, none⟩ = some (.slice pa n0 pc) ∧ V.cell? ⟨w.heap.size, 3, none⟩ = some (.slice wa N wc) ∧ V.cell? ⟨w.heap.size, 4, none⟩ = some (.slice oa n2 oc)) := fun V hV => KEEP.out V (grownBy_trans GX.out hV)
  have OW : Hid (∀ V, wx.grownBy V none → COwn _ V _ C) := fun V hV => OX.out.grown hV
  clear O1 A2 G1 HX
  have Q0 := hide (grownBy_refl wx none)
  obtain ⟨x0, x1, x2, x3, x4⟩ := KX.out _ Q0.out
  go_wp2_with (first | fail)
  refine (P1.out _ _ _ (HGW.out _ Q0.out) (OW.out _ Q0.out)).mono ?_; rintro e v0 ⟨rfl, hg⟩
  have Q1 := hide (grownBy_trans Q0.out hg)
  clear hg x0 x1 x2 x3 x4
  obtain ⟨x0, x1, x2, x3, x4⟩ := KW.out _ Q1.out
  go_wp2_with (first | fail)
  refine (R1.out _ (HGW.out _ Q1.out)).mono ?_; rintro e v1 ⟨rfl, hg⟩
  have Q2 := hide (grownBy_trans Q1.out hg)
  clear hg x0 x1 x2 x3 x4
  obtain ⟨x0, x1, x2, x3, x4⟩ := KX.out _ Q2.out
  go_wp2_with (first | fail)
  refine (P2.out _ _ _ (HGW.out _ Q2.out) (OW.out _ Q2.out)).mono ?_; rintro e v2 ⟨rfl, hg⟩
  have Q3 := hide (grownBy_trans Q2.out hg)
  clear hg x0 x1 x2 x3 x4
  obtain ⟨U, hU, F, HF, HR⟩ := class_of v2
  have QU : Hid (∀ u, wx.grownBy (F u) none) := fun u => grownBy_trans Q3.out (HF.out u)
  have x0 := fun u => (KX.out _ (QU.out u)).1
  have x1 := fun u => (KX.out _ (QU.out u)).2.1
  have x2 := fun u => (KX.out _ (QU.out u)).2.2.1
  have x3 := fun u => (KX.out _ (QU.out u)).2.2.2.1
  have x4 := fun u => (KX.out _ (QU.out u)).2.2.2.2
  have y0 := fun u => (KW.out _ (QU.out u)).1
  have y1 := fun u => (KW.out _ (QU.out u)).2.1
  have y2 := fun u => (KW.out _ (QU.out u)).2.2.1
  have y3 := fun u => (KW.out _ (QU.out u)).2.2.2.1
  have y4 := fun u => (KW.out _ (QU.out u)).2.2.2.2
  have PSU := hide (fun u => PS.out _ _ _ (HGW.out _ (QU.out u)) (OW.out _ (QU.out u)))
  have R2U := hide (fun u => R2.out _ (HGW.out _ (QU.out u)))
  have CAU := hide (fun u => CA.out _ (HGW.out _ (QU.out u)))
  clear PS R1 R2 CA P1 P2
  go_wp2
  refine wp_region_quiet_in F (by kernel_rfl) (by kernel_rfl) (HR.out _ (drew_grown _)) ?_
  repeat (go_big_quiet_step (first | (go_at_call 13; exact calls_in_same HR (HF.out _) (NUM.out _ _)) | (go_at_call 14; exact calls_in HR (HF.out _) (R2U.out _)) | (go_at_call 15; exact calls_in HR (HF.out _) (PSU.out _)) | (go_at_call 16; exact calls_in HR (HF.out _) (CAU.out _))))
  refine wpQuiet_nil ?_
  intro _ hwq
  obtain ⟨uq, hwq2⟩ := hwq
  subst hwq2
  go_wp2
  go_ret
  exact ⟨rfl, HGW.out _ (QU.out uq)⟩
#print axioms admits_any
end Go.Proofs.YtehnklpjkcofcaaDoor.P9
