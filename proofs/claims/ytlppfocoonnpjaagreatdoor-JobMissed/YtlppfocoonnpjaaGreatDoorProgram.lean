/- Contracts of package code's May, and of the document's instrMay and CodeMay: both answer one function, proved over the translation. -/
import Derived.Test.YtlppfocoonnpjaaGreatDoorMay
namespace Go.Proofs.YtlppfocoonnpjaaGreatDoor
open Go.RowKit
attribute [local go_sem] alloc_drewN setCell_drewN

/-- Is it a program? -/
def codeMay (zs : List Ins) : Bool := decide (zs.length ≤ 64) && zs.all (insMay zs.length)

set_option maxRecDepth 100000 in
set_option maxHeartbeats 1000000 in
theorem contains_any (v : Value) (zs : List Ins) (hz : zs.length ≤ 9223372036854775807) (B : Nat) (a : Option Addr) (cap : Nat) (w : World) (hT : Tab w) (hB : w.cell? ⟨B, 0, none⟩ = some (.slice a zs.length cap)) (hv : PReads w v zs) :
    Calls Tryz.prog 126 #[v, .func (.func 123) #[] #[.pointer (some ⟨B, 0, none⟩)]] w fun e w' => e = .returned (.bool (!zs.all (insMay zs.length))) ∧ w.grownBy w' none := by
  have C := hide (index_any v zs hz B a cap w hT hB hv)
  clear hT hB hv
  generalize (!zs.all (insMay zs.length)) = m at *
  go_enter Tryz.func126, Tryz.ntmps126
  go_wp2_with (first | fail)
  refine C.out.mono ?_; rintro e w' ⟨r, rfl, hr, hg⟩
  have HG := hide hg
  have HR := hide hr
  clear hg hr C
  go_wp2
  go_ret
  refine ⟨?_, HG.out⟩
  rw [← HR.out]
  rfl

set_option maxRecDepth 100000 in
set_option maxHeartbeats 1000000 in
theorem may_any (v : Value) (zs : List Ins) (hz : zs.length ≤ 9223372036854775807) (w : World) (hT : Tab w) (hv : PReads w v zs) :
    Calls Tryz.prog 106 #[v] w fun e w' => e = .returned (.bool (codeMay zs)) ∧ w.grownBy w' none := by
  have hmf : ∀ (fn : Fn) (first cap : Array Value) (w : World), (Instr.makeFunc fn first cap).run Tryz.prog w = .ok (.func fn first cap) w := fun _ _ _ _ => rfl
  have hg0 : w.grownBy (w.alloc (.cells #[v] 23)) none := World.grownBy_alloc _ _ _
  have C := hide (fun (a : Option Addr) (cap : Nat) (e : v = .slice a zs.length cap) => contains_any v zs hz w.heap.size a cap (w.alloc (.cells #[v] 23)) (hT.grown hg0) (by simp [e]) (hv.grown hg0))
  clear hT hg0
  unfold codeMay
  obtain ⟨va, vcap, rfl, -⟩ := hv
  generalize zs.all (insMay zs.length) = m at *
  generalize zs.length = N at *
  by_cases hN : N ≤ 64
  · rw [decide_eq_true hN]
    simp only [Bool.true_and]
    go_enter Tryz.func106, Tryz.ntmps106
    go_wp2_with (go_at_call 126; refine (C.out va vcap rfl).mono ?_; rintro e w2 ⟨rfl, hg⟩)
    go_ret
    refine ⟨by simp, grownBy_trans (World.grownBy_alloc _ _ _) hg⟩
  · rw [decide_eq_false hN]
    simp only [Bool.false_and]
    go_enter Tryz.func106, Tryz.ntmps106
    go_wp2
    go_ret
    exact ⟨rfl, World.grownBy_alloc _ _ _⟩
#print axioms may_any
end Go.Proofs.YtlppfocoonnpjaaGreatDoor
