/- What the statements' walks share: Num, and a step whose answer is known. -/
import Derived.Test.YthdpdnibgmjdaaaDoorStep
namespace Go.Proofs.YthdpdnibgmjdaaaDoor
open Go.RowKit
attribute [local go_sem] alloc_drewN setCell_drewN

theorem num_to (e : Int) (w : World) :
    Calls Tryd.prog 13 #[.int .i64 e] w fun r w' => r = .returned (.int .i64 e) ∧ w = w' := by
  go_enter Tryd.func13, Tryd.ntmps13
  go_wp2
  go_ret
  exact ⟨rfl, rfl⟩
theorem step_at {lo : Nat} (pv : Value) (zs : List Ins) (v : VmS) (inn outs : Int) (gv : Value) (gs : List Int) {A : VmS} {F : EfS} {E : Int} (hans : stepAns zs v inn outs gs = (A, F, E)) (w : World) (hz : zs.length ≤ 9223372036854775807) (hT : Tab w) (hp : PReads w pv zs) (hv : RowAt shN lo w gv gs) :
    Calls Tryd.prog 11 #[pv, vmV v, .int .i64 inn, .int .i64 outs, gv] w fun e w' => e = .returned (.tuple #[vmV A, efV F, .int .i64 E]) ∧ w.grownBy w' none := by
  have := step_any pv zs v inn outs gv gs w hz hT hp hv
  rw [hans] at this
  exact this
theorem alloc_next (w : World) (o o' : Obj) : ((w.alloc o).alloc o').heap[w.heap.size + 1]? = some o' := by
  rw [← World.size_alloc_new w o]
  exact World.heap_alloc_new _ _
theorem step_ok {zs : List Ins} {v : VmS} {inn outs : Int} {gs : List Int} (k op n : Nat) (hm : stepMay zs v inn outs gs = true) (hpc : v.pc = k) (hl : zs.length ≠ 0) (hi : insN zs k = (op, n)) :
    stepAns zs v inn outs gs = ((doS op n ⟨((k + 1) % zs.length : Nat), v.acc, v.mem⟩ inn outs gs).1, (doS op n ⟨((k + 1) % zs.length : Nat), v.acc, v.mem⟩ inn outs gs).2, 0) := by
  unfold stepAns
  rw [if_pos hm, if_neg hl, hpc, Int.toNat_natCast, hi]
theorem step_no {zs : List Ins} {v : VmS} {inn outs : Int} {gs : List Int} (hm : stepMay zs v inn outs gs = false) : stepAns zs v inn outs gs = (⟨0, 0, fun _ => 0⟩, ⟨false, 0, 0, 0, false⟩, 1000) := by
  unfold stepAns
  rw [hm]
  rfl
#print axioms step_ok
end Go.Proofs.YthdpdnibgmjdaaaDoor
