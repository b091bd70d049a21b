/- Steps that may not be, way by way, on numbers alone; a made row of integers. -/
import Derived.Test.YthdpdnibgmjdaaaDoorJmath
namespace Go.Proofs.YthdpdnibgmjdaaaDoor
open Go.RowKit

section
variable {zs : List Ins} {v : VmS} {inn outs : Int} {gs : List Int}
theorem no_code (h : codeMay zs = false) : stepMay zs v inn outs gs = false := by unfold stepMay; rw [h]; simp
theorem no_vm (h : vmMay zs.length v = false) : stepMay zs v inn outs gs = false := by unfold stepMay; rw [h]; simp
theorem no_in (h : isW inn = false) : stepMay zs v inn outs gs = false := by unfold stepMay; rw [h]; simp
theorem no_out0 (h : outs < 0) : stepMay zs v inn outs gs = false := by unfold stepMay; rw [decide_eq_false (by omega : ¬ 0 ≤ outs)]; simp
theorem no_out1 (h : 255 < outs) : stepMay zs v inn outs gs = false := by unfold stepMay; rw [decide_eq_false (by omega : ¬ outs ≤ 255)]; simp
theorem no_gets (h : getsMay gs = false) : stepMay zs v inn outs gs = false := by unfold stepMay; rw [h]; simp
theorem isW_no0 {x : Int} (h : x < 0) : isW x = false := by unfold isW; rw [decide_eq_false (by omega : ¬ 0 ≤ x)]; rfl
theorem isW_no1 {x : Int} (h : 4294967295 < x) : isW x = false := by unfold isW; rw [decide_eq_false (by omega : ¬ x < 4294967296)]; simp
theorem vm_pc0 {N : Nat} (h : v.pc < 0) : vmMay N v = false := by unfold vmMay; rw [decide_eq_false (by omega : ¬ 0 ≤ v.pc)]; simp
theorem vm_pc1 {N : Nat} (h : max (N : Int) 1 ≤ v.pc) : vmMay N v = false := by unfold vmMay; rw [decide_eq_false (by omega : ¬ v.pc < max (N : Int) 1)]; simp
theorem vm_acc {N : Nat} (h : isW v.acc = false) : vmMay N v = false := by unfold vmMay; rw [h]; simp
theorem vm_mem {N : Nat} (k : Nat) (hk : k < 16) (h : isW (v.mem k) = false) : vmMay N v = false := by unfold vmMay; rw [allB_false hk h]; simp
end

abbrev fP : List Ins := [(1, 5), (11, 0)]
abbrev fZ : VmS := ⟨0, 0, fun _ => 0⟩
theorem f_ok : stepAns fP fZ 0 0 [-1, 7] = (⟨1, 5, fun _ => 0⟩, quietE, 0) := by
  have hm : stepMay fP fZ 0 0 [-1, 7] = true := by kernel_rfl
  rw [step_ok 0 1 5 hm rfl (by decide) rfl]
  simp [doS]
theorem f_0 {d : Int} (_ : 1 ≤ d) (_ : d ≤ 64) : stepMay fP ⟨1 + d, 0, fun _ => 0⟩ 0 0 [-1, 7] = false := no_vm (vm_pc1 (by show max (2 : Int) 1 ≤ 1 + d; omega))
theorem f_1 {d : Int} (_ : 1 ≤ d) (_ : d ≤ 64) : stepMay fP ⟨-d, 0, fun _ => 0⟩ 0 0 [-1, 7] = false := no_vm (vm_pc0 (by show -d < 0; omega))
theorem f_2 {d : Int} (_ : 1 ≤ d) (_ : d ≤ 64) : stepMay fP ⟨0, -d, fun _ => 0⟩ 0 0 [-1, 7] = false := no_vm (vm_acc (isW_no0 (by show -d < 0; omega)))
theorem f_3 {d : Int} (_ : 1 ≤ d) (_ : d ≤ 64) : stepMay fP ⟨0, 4294967295 + d, fun _ => 0⟩ 0 0 [-1, 7] = false := no_vm (vm_acc (isW_no1 (by show 4294967295 < 4294967295 + d; omega)))
theorem f_4 {d : Int} (_ : 1 ≤ d) (_ : d ≤ 64) (k : Nat) (hk : k < 16) : stepMay fP ⟨0, 0, upd (fun _ => 0) k (-d)⟩ 0 0 [-1, 7] = false := no_vm (vm_mem k hk (by show isW (upd (fun _ => 0) k (-d) k) = false; rw [upd_same]; exact isW_no0 (by omega)))
theorem f_5 {d : Int} (_ : 1 ≤ d) (_ : d ≤ 64) (k : Nat) (hk : k < 16) : stepMay fP ⟨0, 0, upd (fun _ => 0) k (4294967295 + d)⟩ 0 0 [-1, 7] = false := no_vm (vm_mem k hk (by show isW (upd (fun _ => 0) k (4294967295 + d) k) = false; rw [upd_same]; exact isW_no1 (by omega)))
theorem f_6 {d : Int} (_ : 1 ≤ d) (_ : d ≤ 64) : stepMay fP fZ (-d) 0 [-1, 7] = false := no_in (isW_no0 (by omega))
theorem f_7 {d : Int} (_ : 1 ≤ d) (_ : d ≤ 64) : stepMay fP fZ (4294967295 + d) 0 [-1, 7] = false := no_in (isW_no1 (by omega))
theorem f_8 {d : Int} (_ : 1 ≤ d) (_ : d ≤ 64) : stepMay fP fZ 0 (-d) [-1, 7] = false := no_out0 (by omega)
theorem f_9 {d : Int} (_ : 1 ≤ d) (_ : d ≤ 64) : stepMay fP fZ 0 (255 + d) [-1, 7] = false := no_out1 (by omega)
theorem f_10 {d : Int} (_ : 1 ≤ d) (_ : d ≤ 64) : stepMay fP fZ 0 0 [-1 - d, 7] = false := no_gets (by
  unfold getsMay getMay
  simp only [List.all_cons, List.all_nil, isW_no0 (show -1 - d < 0 by omega), decide_eq_false (by omega : ¬ -1 - d = -1)]
  simp)
theorem f_11 {d : Int} (_ : 1 ≤ d) (_ : d ≤ 64) (M : Nat) (hM : (M : Int) = 8 + d) : stepMay fP fZ 0 0 (List.replicate M 0) = false := no_gets (by
  unfold getsMay
  rw [List.length_replicate, decide_eq_false (by omega : ¬ M ≤ 8)]
  rfl)
theorem f_12 {d : Int} (_ : 1 ≤ d) (_ : d ≤ 64) : stepMay [(1, 5), (11, d)] fZ 0 0 [-1, 7] = false := no_code (by
  have h : insMay 2 (11, d) = false := by
    unfold insMay
    rw [show most (11 : Int) 2 = 1 from rfl]
    simp only [decide_eq_false (by omega : ¬ d < 1)]
    simp
  unfold codeMay
  simp only [List.length_cons, List.length_nil, List.all_cons, List.all_nil]
  rw [show insMay ((0 + 1 + 1 : Nat) : Int) (11, d) = false from h]
  simp)
#print axioms f_12

theorem infoInt' : ∃ i, Tryd.prog.info? 3 = some i ∧ i.zero = some (.int .i64 0) ∧ i.size = 1 ∧ i.bytes = 8 := by
  have h : (Tryd.prog.info? 3).map (fun i => (i.zero, i.size, i.bytes)) = some (some (.int .i64 0), 1, 8) := by kernel_rfl
  cases hq : Tryd.prog.info? 3 with
  | none => rw [hq] at h; cases h
  | some i =>
    rw [hq] at h
    simp only [Option.map_some, Option.some.injEq, Prod.mk.injEq] at h
    exact ⟨i, rfl, h.1, h.2.1, h.2.2⟩
theorem made_ints (n : Nat) : madeCells (#[.int .i64 0] : Array Value) n = (shN.cells (List.replicate n 0)).toArray := by
  have h : shN.cells (List.replicate n 0) = List.replicate n (.int .i64 0) := by
    induction n with
    | zero => rfl
    | succ n ih => rw [List.replicate_succ, List.replicate_succ, shN.cells_cons, ih]; rfl
  rw [h]
  apply Array.ext
  · simp [madeCells]
  · intro i h1 h2
    simp [madeCells, Nat.mod_one]
theorem make_ints (x : Int) (M : Nat) (hM : (M : Int) = x) (hm : M ≤ 1000000) (W : World) : (Instr.makeSlice 26 (.int .i64 x) (.int .i64 x)).run Tryd.prog W = .ok (.slice (some ⟨W.heap.size, 0, none⟩) M M) (W.alloc (.cells (shN.cells (List.replicate M 0)).toArray 3)) := by
  obtain ⟨i0, hi, hz0, hz1, hz2⟩ := infoInt'
  have := run_make (P := Tryd.prog) W 26 3 i0 (.int .i64 0) Tryd.underlying26 hi hz0 .i64 .i64 x x (by omega) (Int.le_refl _) (by rw [hz2]; omega) (by omega)
  rw [hz1, show x.toNat = M by omega, Nat.mul_one] at this
  rw [this, show (Value.int .i64 0).cells = #[.int .i64 0] from rfl, made_ints]
#print axioms make_ints
end Go.Proofs.YthdpdnibgmjdaaaDoor
