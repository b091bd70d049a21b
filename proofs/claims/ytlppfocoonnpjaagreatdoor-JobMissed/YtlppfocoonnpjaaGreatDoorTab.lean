/- Contracts of package code's isOp and argBelow, proved over the translation: what the table of operations answers. -/
import Derived.Test.YtlppfocoonnpjaaGreatDoorData
namespace Go.Proofs.YtlppfocoonnpjaaGreatDoor
open Go.RowKit
attribute [local go_sem] alloc_drewN setCell_drewN

/-- What the table has for the Arg of an operation; -1: how many instructions there are. -/
def opBelow (j : Nat) : Int := [1, 256, 16, 16, 16, 16, -1, -1, 1, 8, 8, 1].getD j 0
/-- The table of operations is there: each has a name, and what its Arg is below. -/
def Tab (W : World) : Prop := ∀ j, j < 12 → ∃ s : ByteArray, s.toList ≠ [] ∧ W.cell? ⟨0, j * 2, none⟩ = some (.string s) ∧ W.cell? ⟨0, j * 2 + 1, none⟩ = some (.int .i64 (opBelow j))
theorem Tab.draws {W : World} (h : Tab W) (n : Nat) : Tab (W.drewN n) := h
theorem Tab.pos {W : World} (h : Tab W) : 0 < W.heap.size := by
  obtain ⟨s, _, h1, _⟩ := h 0 (by decide)
  exact World.block_lt_of_cell? W ⟨0, 0 * 2, none⟩ h1
theorem Tab.kept {W W' : World} (h : Tab W) (e : W'.heap[0]? = W.heap[0]?) : Tab W' := fun j hj => by
  obtain ⟨s, hs, h1, h2⟩ := h j hj
  exact ⟨s, hs, (World.cell?_of_block (a := ⟨0, j * 2, none⟩) e).trans h1, (World.cell?_of_block (a := ⟨0, j * 2 + 1, none⟩) e).trans h2⟩
theorem Tab.grown {W W' : World} (h : Tab W) (hg : W.grownBy W' none) : Tab W' := h.kept (hg.block 0 h.pos (by simp))

/-- One of the Ops. -/
def isOpB (op : Int) : Bool := decide (0 ≤ op ∧ op < 12)
/-- What the Arg of an operation is below, in a program of so many. -/
def most (op : Int) (many : Int) : Int := if opBelow op.toNat = -1 then many else opBelow op.toNat

set_option maxHeartbeats 400000 in
theorem isOp_any (op : Int) (w : World) (hT : Tab w) :
    Calls Tryz.prog 124 #[.int .i64 op] w fun e w' => e = .returned (.bool (isOpB op)) ∧ w' = w := by
  by_cases h0 : 0 ≤ op
  · by_cases h1 : op < 12
    · have hd : isOpB op = true := decide_eq_true ⟨h0, h1⟩
      obtain ⟨j, rfl⟩ : ∃ j : Nat, op = j := ⟨op.toNat, by omega⟩
      obtain ⟨s, hs, hc, -⟩ := hT j (by omega)
      have hs2 : s.toList.isEmpty = false := by
        cases h : s.toList with
        | nil => exact absurd h hs
        | cons x r => rfl
      rw [hd]
      clear hd hs hT
      go_enter Tryz.func124, Tryz.ntmps124
      go_wp2
      go_ret
      exact ⟨rfl, rfl⟩
    · have hd : isOpB op = false := decide_eq_false (fun h => h1 h.2)
      rw [hd]
      clear hd hT
      go_enter Tryz.func124, Tryz.ntmps124
      go_wp2
      go_ret
      exact ⟨rfl, rfl⟩
  · have hd : isOpB op = false := decide_eq_false (fun h => h0 h.1)
    rw [hd]
    clear hd hT
    go_enter Tryz.func124, Tryz.ntmps124
    go_wp2
    go_ret
    exact ⟨rfl, rfl⟩

set_option maxHeartbeats 400000 in
theorem argBelow_any (op many : Int) (h0 : 0 ≤ op) (h1 : op < 12) (w : World) (hT : Tab w) :
    Calls Tryz.prog 125 #[.int .i64 op, .int .i64 many] w fun e w' => e = .returned (.int .i64 (most op many)) ∧ w' = w := by
  obtain ⟨j, rfl⟩ : ∃ j : Nat, op = j := ⟨op.toNat, by omega⟩
  obtain ⟨s, -, -, hc⟩ := hT j (by omega)
  unfold most
  rw [Int.toNat_natCast]
  generalize opBelow j = b at *
  clear hT
  by_cases hb : b = -1
  · subst hb
    rw [if_pos rfl]
    go_enter Tryz.func125, Tryz.ntmps125
    go_wp2
    go_ret
    exact ⟨rfl, rfl⟩
  · rw [if_neg hb]
    go_enter Tryz.func125, Tryz.ntmps125
    go_wp2
    go_ret
    exact ⟨rfl, rfl⟩
#print axioms argBelow_any
end Go.Proofs.YtlppfocoonnpjaaGreatDoor
