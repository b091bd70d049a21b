/- A part of one task may be: on lists alone. -/
import Derived.Test.YtlppfocoonnpjaaGreatDoorPNewt
namespace Go.Proofs.YtlppfocoonnpjaaGreatDoor.L
open Go.RowKit

theorem allB_one {f : Nat → Bool} (h : f 0 = true) : allB 1 f = true := allB_true fun k hk => by
  obtain rfl : k = 0 := by omega
  exact h
/-- A part of one task may be. -/
theorem one_ok {i l : Int} {t : TaskV} (h0 : 0 ≤ i) (h8 : i < 8) (hl : l = 0 ∨ l = 1) (ht : taskMay t = true) (hc : l = 0 → t.chigh = t.clow) : newOk i ⟨l, [t], []⟩ = true := by
  have e0 : levelB l = true := by unfold levelB; rcases hl with rfl | rfl <;> rfl
  have e1 : partsB [⟨l, [t], []⟩] = true := by
    unfold partsB
    rw [show allB [(⟨l, [t], []⟩ : PartV)].length (fun i => levelB (partAt [⟨l, [t], []⟩] i).level) = true from allB_one e0]
    rfl
  have e2 : taskOK l [t] 0 = true := by
    show (taskMay t && (!(decide (l = 0) && !decide (t.chigh = t.clow)) && !anyPrio [] t.prio)) = true
    rw [ht, show anyPrio [] t.prio = false from rfl]
    rcases hl with h | h
    · rw [decide_eq_true (hc h)]; simp
    · rw [decide_eq_false (show ¬l = 0 by omega)]; simp
  have e3 : tasksB ⟨l, [t], []⟩ = true := by
    unfold tasksB
    rw [show allB (⟨l, [t], []⟩ : PartV).tasks.length (taskOK l [t]) = true from allB_one e2]
    rfl
  have e4 : allB [(⟨l, [t], []⟩ : PartV)].length (fun i => tasksB (partAt [⟨l, [t], []⟩] i)) = true := allB_one e3
  have e5 : allB [(⟨l, [t], []⟩ : PartV)].length (fun i => codeMay (partAt [⟨l, [t], []⟩] i).code) = true := allB_one (by show codeMay [] = true; rfl)
  have e6 : checkN (alone ⟨l, [t], []⟩) = 0 := by
    unfold checkN
    rw [show (alone ⟨l, [t], []⟩).parts = [⟨l, [t], []⟩] from rfl, e1, e4, e5]
    rfl
  unfold newOk newB
  rw [e6, decide_eq_true h0, decide_eq_true h8]
  rfl
#print axioms one_ok
end Go.Proofs.YtlppfocoonnpjaaGreatDoor.L
