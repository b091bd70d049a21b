/- The walk of the statement Demands: any tasks and length; proved over the translation. -/
import Derived.Test.YtadolobbidpejaaLend
import Derived.Test.YtadolobbidpejaaRefBound
namespace Go.Proofs.Ytadolobbidpejaa
open Go.RowKit
attribute [local go_sem] alloc_drewN setCell_drewN

set_option maxRecDepth 100000 in
set_option maxHeartbeats 4000000 in
theorem demands_any {lo : Nat} (v : Value) (ts : List TaskV) (i len : Int) (w : World) (hv : RowAt shT lo w v ts) (hf : Fits ts) (hbig : ts.length ≤ 2932031007317) :
    Calls Try.prog 3 #[v, .int .i64 i, .int .i64 len] w fun e w' => e = .returned (.bool true) ∧ w.grownBy w' none := by
  have NUM := hide num_any
  have CL := hide (lend_any v ts hbig w hv)
  have CR := hide (fun W (hg : w.grownBy W none) => rbound_any v ts i len W (hv.grown hg) (by omega))
  have CB := hide (fun (lo' : Nat) u W (hu : RowAt shT lo' W u ts) => bound_any u ts i len W hu hf (by omega))
  have CK := hide (fun (lo' : Nat) g cap W (hc : ts.length + 2 ≤ cap) (hl : RowAt shT lo' W (.slice (some ⟨g, 0, none⟩) (ts.length + 2) cap) (ts ++ mark)) (hg : w.grownBy W none) => kept_any g cap v ts hbig hc W hl (hv.grown hg))
  have LR := hide (fun (lo' : Nat) W g cap (h : RowAt shT lo' W (.slice (some ⟨g, 0, none⟩) (ts.length + 2) cap) (ts ++ mark)) => lent_reads h)
  obtain ⟨-, a, cap0, rfl, -⟩ := hv
  clear hf
  generalize boundV ts i len = bv at *
  generalize boundE ts i len = be at *
  generalize ts.length = N at *
  go_enter Try.func3, Try.ntmps3
  go_wp2_with (first | fail)
  refine CL.out.mono ?_; rintro e w1 ⟨g, cap, rfl, hc, -, hr, hg⟩
  have HC := hide hc
  have HR1 := hide hr
  have G1 := hide hg
  have CB1 := hide (CB.out _ _ _ (LR.out _ _ _ _ hr))
  clear hc hr hg CL CB
  go_wp2_with (first | fail)
  refine CB1.out.mono ?_; rintro e w2 ⟨rfl, hg⟩
  have HR2 := hide (HR1.out.grown hg)
  have G2 := hide (grownBy_trans G1.out hg)
  clear hg CB1
  go_wp2_with (first | fail)
  refine (CR.out w2 G2.out).mono ?_; rintro e w3 ⟨rfl, hg⟩
  have HR3 := hide (HR2.out.grown hg)
  have G3 := hide (grownBy_trans G2.out hg)
  clear hg CR
  have CK3 := hide (CK.out _ g cap w3 HC.out HR3.out G3.out)
  clear CK
  go_wp2_with (first | (go_at_call 11; refine (NUM.out _ _).mono ?_; rintro e w' ⟨rfl, rfl⟩) | (go_at_call 12; refine CK3.out.mono ?_; rintro e w4 ⟨rfl, n4, hw4⟩; have G4 := hide (show w.grownBy w4 none by rw [hw4]; exact grownBy_trans G3.out (grownBy_draws _ _ _)); clear hw4) | (go_at_call 13; refine (awake_any _).mono ?_; rintro e w5 ⟨rfl, hg⟩; have G5 := hide (grownBy_trans G4.out hg); clear hg))
  go_ret
  exact ⟨rfl, G5.out⟩
#print axioms demands_any
end Go.Proofs.Ytadolobbidpejaa
