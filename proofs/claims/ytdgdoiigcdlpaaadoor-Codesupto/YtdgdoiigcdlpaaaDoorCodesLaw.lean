/- The walk of the statement Codes: any program, any bytes: every call answers as the document's own, and the program stays. -/
import Derived.Test.YtdgdoiigcdlpaaaDoorLend
import Derived.Test.YtdgdoiigcdlpaaaDoorRefGet
namespace Go.Proofs.YtdgdoiigcdlpaaaDoor
open Go.RowKit
attribute [local go_sem] alloc_drewN setCell_drewN

theorem getL_short {s : ByteArray} (hs : s.size ≤ 9223372036854775807) : (getL s).length ≤ 9223372036854775807 := by
  unfold getL
  split
  · rw [pairs_length, nums_length]; omega
  · simp

set_option maxRecDepth 100000 in
set_option maxHeartbeats 4000000 in
theorem codes_any (v : Value) (zs : List Ins) (hz : zs.length ≤ 8796093021952) (s : ByteArray) (hs : s.size ≤ 17592186044416) (w : World) (hT : Tab w) (hv : PReads w v zs) :
    Calls Tryd.prog 3 #[v, .string s] w fun e w' => e = .returned (.bool true) ∧ w.grownBy w' none := by
  have CL := hide (lend_any v zs hz w hv)
  have HT := hide (fun W => hT.grown (W' := W))
  have HV := hide (fun W => hv.grown (W := W))
  have CP := hide (fun (u : Value) (W : World) (h : Tab W) => put_any u zs (by omega) W h)
  have CR := hide (fun (u : Value) (W : World) => put_ref u zs (by omega) W)
  have CM := hide (fun (u : Value) (W : World) (h : Tab W) => may_any u zs (by omega) W h)
  have CN := hide (fun (u : Value) (W : World) => codeMay_ref u zs (by omega) W)
  have CG := hide (fun (W : World) (h : Tab W) => get_any s (by omega) W h)
  have CH := hide (fun (W : World) => get_ref s hs W)
  have CS := hide (fun (a b : Value) (W : World) => same_any a b (getL s) (getL_short (by omega)) W)
  have CK := hide (fun (g cap : Nat) (u : Value) (h : zs.length + 2 ≤ cap) (W : World) => kept_any g cap u zs hz h W)
  have HLR := hide (fun (W : World) (g cap : Nat) => lent_reads (W := W) (g := g) (cap := cap) (zs := zs))
  clear hT
  obtain ⟨va, vcap, rfl, -⟩ := hv
  generalize putS zs = t at *
  generalize errOf (codeMay zs) = e1 at *
  generalize codeMay zs = m at *
  generalize errOf (getMay s) = e2 at *
  generalize getL s = gl at *
  generalize hN : zs.length = N at *
  clear hN
  go_enter Tryd.func3, Tryd.ntmps3
  go_wp2_with (first | fail)
  refine CL.out.mono ?_; rintro e w1 ⟨g, cap, rfl, hc1, hc2, hl, g1⟩
  have HL := hide hl
  have G1 := hide g1
  have HC1 := hide hc1
  clear hl g1 CL hc1
  go_wp2_with (first | fail)
  refine (CP.out _ _ (HT.out _ G1.out) (HLR.out _ _ _ HL.out)).mono ?_; rintro e w2 ⟨rfl, g2⟩
  have G2 := hide (grownBy_trans G1.out g2)
  have HL2 := hide (HL.out.grown g2)
  clear g2 G1 HL
  go_wp2_with (first | fail)
  refine (CR.out _ _ (HV.out _ G2.out)).mono ?_; rintro e w3 ⟨rfl, g3⟩
  have G3 := hide (grownBy_trans G2.out g3)
  have HL3 := hide (HL2.out.grown g3)
  clear g3 G2 HL2
  go_wp2_with (first | fail)
  refine (CG.out _ (HT.out _ G3.out)).mono ?_; rintro e w4 ⟨q4, rfl, p4, g4⟩
  have G4 := hide (grownBy_trans G3.out g4)
  have HL4 := hide (HL3.out.grown g4)
  have P4 := hide p4
  clear g4 G3 HL3 p4
  go_wp2_with (first | fail)
  refine (CH.out _).mono ?_; rintro e w5 ⟨q5, rfl, p5, g5⟩
  have G5 := hide (grownBy_trans G4.out g5)
  have HL5 := hide (HL4.out.grown g5)
  have P5 := hide (P4.out.grown g5)
  have Q5 := hide p5
  clear g5 G4 HL4 P4 p5
  go_wp2_with (go_at_call 12; refine (num_any _ _).mono ?_; rintro e w' ⟨rfl, rfl⟩)
  refine (CS.out _ _ _ P5.out Q5.out).mono ?_; rintro e w' ⟨rfl, n6, rfl⟩
  have G6 := hide (grownBy_trans G5.out (grownBy_draws _ n6 none))
  have HL6 := hide (HL5.out.draws n6)
  clear G5 HL5 P5 Q5
  go_wp2_with (go_at_call 12; refine (num_any _ _).mono ?_; rintro e w' ⟨rfl, rfl⟩)
  refine (CM.out _ _ (HT.out _ G6.out) (HLR.out _ _ _ HL6.out)).mono ?_; rintro e w7 ⟨rfl, g7⟩
  have G7 := hide (grownBy_trans G6.out g7)
  have HL7 := hide (HL6.out.grown g7)
  clear g7 G6 HL6
  go_wp2_with (first | fail)
  refine (CN.out _ _ (HV.out _ G7.out)).mono ?_; rintro e w8 ⟨rfl, g8⟩
  have G8 := hide (grownBy_trans G7.out g8)
  have HL8 := hide (HL7.out.grown g8)
  clear g8 G7 HL7
  go_wp2_with (first | fail)
  refine (CK.out _ _ _ HC1.out _ HL8.out (HV.out _ G8.out)).mono ?_; rintro e w' ⟨rfl, n9, rfl⟩
  have G9 := hide (grownBy_trans G8.out (grownBy_draws _ n9 none))
  clear G8 HL8
  go_wp2_with (first | fail)
  refine (awake_any _ (HT.out _ G9.out)).mono ?_; rintro e w10 ⟨rfl, g10⟩
  have G10 := hide (grownBy_trans G9.out g10)
  clear g10 G9
  go_wp2
  go_ret
  exact ⟨rfl, G10.out⟩
#print axioms codes_any
end Go.Proofs.YtdgdoiigcdlpaaaDoor
