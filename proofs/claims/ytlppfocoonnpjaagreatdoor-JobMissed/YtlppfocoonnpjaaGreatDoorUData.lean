/- What tasks and turns are, as plain lists and numbers, and what the document's calls answer of them: nothing of the program's functions. -/
import Derived.Test.YtlppfocoonnpjaaGreatDoorCommon
import Derived.Test.YtlppfocoonnpjaaGreatDoorTaskMay
namespace Go.Proofs.YtlppfocoonnpjaaGreatDoor.U
open Go.RowKit

abbrev taskVal (t : TaskV) : Value := .agg #[.int .i64 t.kind, .int .i64 t.period, .int .i64 t.deadline, .int .i64 t.clow, .int .i64 t.chigh, .int .i64 t.prio]
def shN : Shape Int := ⟨1, fun x => [.int .i64 x], fun _ => rfl, by decide, fun x u h => by simp at h; subst h; rfl⟩
theorem may_parts {t : TaskV} (h : taskMay t = true) : (t.kind = 0 ∨ t.kind = 1) ∧ 1 ≤ t.period ∧ t.period ≤ 1024 ∧ 1 ≤ t.deadline ∧ t.deadline ≤ t.period ∧ 1 ≤ t.clow ∧ t.clow ≤ t.chigh ∧ t.chigh ≤ t.deadline ∧ 0 ≤ t.prio ∧ t.prio ≤ 255 := by
  unfold taskMay at h
  simp only [Bool.and_eq_true, decide_eq_true_eq] at h
  omega

/-- Turns: the last release, the demands that wait. -/
structure TurnsV where
  last : Int
  picks : List Int
def noTurns : TurnsV := ⟨0, []⟩
/-- May a demand be? -/
def demMay (x : Int) : Bool := decide (1 ≤ x) && decide (x ≤ 65535)
/-- May turns be? -/
def turnsMay (s : TurnsV) : Bool := decide (-1 ≤ s.last) && (decide (s.last ≤ 1099511627776) && (decide (s.picks.length ≤ 4) && s.picks.all demMay))
/-- May a task and turns be, and is now a tick? -/
def atMay (t : TaskV) (s : TurnsV) (now : Int) : Bool := taskMay t && (turnsMay s && (decide (0 ≤ now) && decide (now ≤ 1099511627776)))
/-- Would the first demand have to wait? -/
def waitsB (t : TaskV) (s : TurnsV) (now : Int) : Bool := decide (0 < s.picks.length) && (!decide (s.last = -1) && decide (now - s.last < t.period))
def lateB (t : TaskV) (s : TurnsV) (now : Int) : Bool := atMay t s now && (decide (t.kind = 1) && waitsB t s now)
/-- Is there a job, of what may be? -/
def comesB (t : TaskV) (s : TurnsV) (now : Int) : Bool := if t.kind = 1 then decide (0 < s.picks.length) && !waitsB t s now else decide (now % t.period = 0)
/-- The turns and the demand of a job. -/
def jobS (s : TurnsV) (now : Int) : TurnsV := ⟨now, s.picks.drop 1⟩
def jobD (t : TaskV) (s : TurnsV) : Int := s.picks[0]?.getD t.clow
/-- Pick's answers, Release's. -/
def pickS (t : TaskV) (s : TurnsV) (d : Int) : TurnsV := if (taskMay t && (turnsMay s && demMay d)) = true then (if s.picks.length = 4 then noTurns else ⟨s.last, s.picks ++ [d]⟩) else noTurns
def pickE (t : TaskV) (s : TurnsV) (d : Int) : Int := if (taskMay t && (turnsMay s && demMay d)) = true then (if s.picks.length = 4 then 1101 else 0) else 1100
def isB (t : TaskV) (s : TurnsV) (now : Int) : Bool := atMay t s now && comesB t s now
def relS (t : TaskV) (s : TurnsV) (now : Int) : TurnsV := if atMay t s now = true then (if comesB t s now = true then jobS s now else s) else noTurns
def relD (t : TaskV) (s : TurnsV) (now : Int) : Int := if isB t s now = true then jobD t s else 0

/-- A row of numbers that a call made from block base on, and that nothing else holds. -/
def Own (base : Nat) (W : World) (v : Value) (xs : List Int) : Prop := W.ownsRow base 3 1 v xs.length (shN.cells xs)
theorem Own.row {base : Nat} {W : World} {v : Value} {xs : List Int} (h : Own base W v xs) : RowAt shN base W v xs := rowAt_own (S := shN) h
theorem Own.grown {base : Nat} {W W' : World} {v : Value} {xs : List Int} (h : Own base W v xs) (hg : W.grownBy W' none) : Own base W' v xs := own_kept h hg
theorem Own.base {base base' : Nat} {W : World} {v : Value} {xs : List Int} (h : Own base W v xs) (hb : base' ≤ base) : Own base' W v xs := by
  refine ⟨h.1, ?_⟩
  rcases h.2 with h2 | ⟨g, cap, cur, rfl, h3, rest⟩
  · exact .inl h2
  · exact .inr ⟨g, cap, cur, rfl, Nat.le_trans hb h3, rest⟩
theorem own_nil (base : Nat) (W : World) : Own base W (.slice none 0 0) [] := World.ownsRow_nil W base 3 1


/-! Boxes. -/
theorem box_lt {W : World} {b : Nat} {o : Obj} (h : W.heap[b]? = some o) : b < W.heap.size := (Array.getElem?_eq_some_iff.1 h).1
theorem box_grown {W W2 : World} {b : Nat} {o : Obj} {r : Option Nat} (h : W.heap[b]? = some o) (hg : W.grownBy W2 r) (hr : r ≠ some b) : W2.heap[b]? = some o := (hg.block b (box_lt h) (fun e => hr e.symm)).trans h
theorem blk_cell {W : World} {b t : Nat} {cs : Array Value} (h : W.heap[b]? = some (.cells cs t (0, 0))) (j : Nat) : W.cell? ⟨b, j, none⟩ = cs[j]? := by simp [World.cell?, h]
theorem blk_free {W : World} {b t : Nat} {cs : Array Value} (h : W.heap[b]? = some (.cells cs t (0, 0))) (j : Nat) : W.frozen? ⟨b, j, none⟩ = false := by simp [World.frozen?, h]
theorem blk_set {W : World} {b t j : Nat} {u : Value} {cs cs' : Array Value} (h : W.heap[b]? = some (.cells cs t (0, 0))) (e : cs.setIfInBounds j u = cs') : (W.setCell ⟨b, j, none⟩ u).heap[b]? = some (.cells cs' t (0, 0)) := by
  subst e
  simp [World.setCell, Array.getElem?_modify, h]
theorem alloc_next (w : World) (o o' : Obj) : ((w.alloc o).alloc o').heap[w.heap.size + 1]? = some o' := by
  have h := heap_alloc_new (w.alloc o) o'
  rwa [show (w.alloc o).heap.size = w.heap.size + 1 by simp] at h
theorem alloc_third (w : World) (o o' o'' : Obj) : (((w.alloc o).alloc o').alloc o'').heap[w.heap.size + 1 + 1]? = some o'' := by
  have h := alloc_next (w.alloc o) o' o''
  rwa [show (w.alloc o).heap.size = w.heap.size + 1 by simp] at h
#print axioms own_nil
end Go.Proofs.YtlppfocoonnpjaaGreatDoor.U
