/- Whose tick, how many ticks, and the frames' common multiple, on lists; what a configuration that may be keeps to. Nothing of the program's functions but their answers' names. -/
import Derived.Test.YtgaegggiehhcpabDoorCheck
import Derived.Test.YtgaegggiehhcpabDoorTick
namespace Go.Proofs.YtgaegggiehhcpabDoor
open Go.RowKit

/-! What may be. -/
structure Fine (C : ConfV) : Prop where
  f0 : 1 ≤ C.frame
  f1 : C.frame ≤ 256
  p0 : 1 ≤ C.parts.length
  p1 : C.parts.length ≤ 8
  w1 : C.wins.length ≤ 32
  win : ∀ i, i < C.wins.length → endAt C.wins i ≤ (winAt C.wins i).fr ∧ (winAt C.wins i).fr < (winAt C.wins i).til ∧ (winAt C.wins i).til ≤ C.frame ∧ 0 ≤ (winAt C.wins i).part ∧ (winAt C.wins i).part < C.parts.length
  per : ∀ i, i < C.parts.length → (partAt C.parts i).tasks.length ≤ 6 ∧ ∀ j, j < (partAt C.parts i).tasks.length → 1 ≤ (taskAt (partAt C.parts i).tasks j).period ∧ (taskAt (partAt C.parts i).tasks j).period ≤ 1024
theorem fine_of {C : ConfV} (h : checkN C = 0) : Fine C := by
  unfold checkN at h
  by_cases h1 : frameB C.frame C.quiet = false
  · rw [if_pos h1] at h; omega
  rw [if_neg h1] at h
  by_cases h2 : partsB C.parts = false
  · rw [if_pos h2] at h; omega
  rw [if_neg h2] at h
  by_cases h3 : allB C.parts.length (fun i => tasksB (partAt C.parts i)) = false
  · rw [if_pos h3] at h; omega
  rw [if_neg h3] at h
  by_cases h4 : winsB C.frame C.parts.length C.wins = false
  · rw [if_pos h4] at h; omega
  clear h
  rw [Bool.not_eq_false] at h1 h2 h3 h4
  simp only [frameB, Bool.and_eq_true, decide_eq_true_eq] at h1
  simp only [partsB, Bool.and_eq_true, decide_eq_true_eq] at h2
  simp only [winsB, Bool.and_eq_true, decide_eq_true_eq] at h4
  refine ⟨h1.1, h1.2.1, h2.1, h2.2.1, h4.1, fun i hi => ?_, fun i hi => ?_⟩
  · have := allB_of h4.2 i hi
    simp only [winB, isPartB, Bool.and_eq_true, Bool.not_eq_true', decide_eq_false_iff_not, decide_eq_true_eq] at this
    omega
  · have := allB_of h3 i hi
    simp only [tasksB, Bool.and_eq_true, decide_eq_true_eq] at this
    refine ⟨this.1, fun j hj => ?_⟩
    have h5 := allB_of this.2 j hj
    simp only [taskOK, taskMay, Bool.and_eq_true, decide_eq_true_eq] at h5
    omega
theorem winAt_mem {ws : List WinV} {i : Nat} (h : i < ws.length) : ws[i]? = some (winAt ws i) := by
  unfold winAt; rw [List.getElem?_eq_getElem h]; rfl
/-- The end of the one ahead is at least 0, and ends only rise. -/
theorem Fine.end0 {C : ConfV} (h : Fine C) (i : Nat) (hi : i ≤ C.wins.length) : 0 ≤ endAt C.wins i := by
  induction i with
  | zero => exact Int.le_refl _
  | succ i ih =>
    have := ih (by omega)
    have w := h.win i (by omega)
    show 0 ≤ (winAt C.wins i).til
    omega
theorem Fine.fr0 {C : ConfV} (h : Fine C) (i : Nat) (hi : i < C.wins.length) : 0 ≤ (winAt C.wins i).fr := by
  have := h.end0 i (by omega); have := h.win i hi; omega

/-! Whose tick. -/
def inW (x : WinV) (k : Int) : Bool := decide (x.fr ≤ k) && decide (k < x.til)
def ownerN : List WinV → Int → Int
  | [], _ => -1
  | x :: xs, k => if inW x k = true then x.part else ownerN xs k
theorem ownerN_none {ws : List WinV} {k : Int} (h : ∀ i, i < ws.length → inW (winAt ws i) k = false) : ownerN ws k = -1 := by
  induction ws with
  | nil => rfl
  | cons x xs ih =>
    have h0 : inW x k = false := h 0 (by simp)
    unfold ownerN
    rw [h0, if_neg (by simp)]
    exact ih fun i hi => h (i + 1) (by simp; omega)
theorem ownerN_some {ws : List WinV} {k : Int} {j : Nat} (hj : j < ws.length) (hb : ∀ i, i < j → inW (winAt ws i) k = false) (h : inW (winAt ws j) k = true) : ownerN ws k = (winAt ws j).part := by
  induction ws generalizing j with
  | nil => simp at hj
  | cons x xs ih =>
    cases j with
    | zero =>
      have h0 : inW x k = true := h
      unfold ownerN
      rw [if_pos h0]
      rfl
    | succ j =>
      have h0 : inW x k = false := hb 0 (by omega)
      unfold ownerN
      rw [h0, if_neg (by simp)]
      exact ih (j := j) (by simp at hj; omega) (fun i hi => hb (i + 1) (by omega)) h

/-! How many ticks. -/
def tickOne (x : WinV) (p : Int) : Int := if x.part = p then x.til - x.fr else 0
def tickTo (ws : List WinV) (p : Int) : Nat → Int
  | 0 => 0
  | i + 1 => tickTo ws p i + tickOne (winAt ws i) p
def ticksN (ws : List WinV) (p : Int) : Int := tickTo ws p ws.length
theorem Fine.one {C : ConfV} (h : Fine C) (p : Int) (i : Nat) (hi : i < C.wins.length) : 0 ≤ tickOne (winAt C.wins i) p ∧ tickOne (winAt C.wins i) p ≤ 256 := by
  have := h.win i hi; have := h.fr0 i hi; have := h.f1
  unfold tickOne
  split <;> omega
theorem Fine.to {C : ConfV} (h : Fine C) (p : Int) (i : Nat) (hi : i ≤ C.wins.length) : 0 ≤ tickTo C.wins p i ∧ tickTo C.wins p i ≤ 256 * i := by
  induction i with
  | zero => exact ⟨Int.le_refl _, by simp [tickTo]⟩
  | succ i ih =>
    have := ih (by omega); have := h.one p i (by omega)
    show 0 ≤ tickTo C.wins p i + tickOne (winAt C.wins i) p ∧ tickTo C.wins p i + tickOne (winAt C.wins i) p ≤ 256 * ((i + 1 : Nat) : Int)
    omega

/-! The least number that all divide. -/
def hypT : Int → List TaskV → Int × Int
  | x, [] => (x, 0)
  | x, t :: ts => if lcmE x t.period = 0 then hypT (lcmV x t.period) ts else (0, lcmE x t.period)
def hypP : Int → List PartV → Int × Int
  | x, [] => (x, 0)
  | x, p :: ps => if (hypT x p.tasks).2 = 0 then hypP (hypT x p.tasks).1 ps else (0, (hypT x p.tasks).2)
theorem hypT_cons (x : Int) (t : TaskV) (ts : List TaskV) : hypT x (t :: ts) = if lcmE x t.period = 0 then hypT (lcmV x t.period) ts else (0, lcmE x t.period) := rfl
theorem hypP_cons (x : Int) (p : PartV) (ps : List PartV) : hypP x (p :: ps) = if (hypT x p.tasks).2 = 0 then hypP (hypT x p.tasks).1 ps else (0, (hypT x p.tasks).2) := rfl
theorem lcm_fits {x y : Int} (x0 : 1 ≤ x) (y0 : 1 ≤ y) (h : lcmE x y = 0) : 1 ≤ lcmV x y ∧ lcmV x y ≤ 18446744073709551615 := by
  unfold lcmE at h
  unfold lcmV
  have hz : ¬ (x = 0 ∨ y = 0) := by omega
  rw [if_neg hz] at h ⊢
  unfold mulE at h
  unfold mulV
  have hq := quo_bd x y (by omega)
  by_cases hm : x / gcdI x y * y < 18446744073709551616
  · rw [if_pos hm]
    have := Int.mul_pos hq.1 (show 0 < y by omega)
    omega
  · rw [if_neg hm] at h; omega
theorem hypT_fits {ts : List TaskV} (hp : ∀ t ∈ ts, 1 ≤ t.period) {x : Int} (x0 : 1 ≤ x) (x1 : x ≤ 18446744073709551615) (h : (hypT x ts).2 = 0) : 1 ≤ (hypT x ts).1 ∧ (hypT x ts).1 ≤ 18446744073709551615 := by
  induction ts generalizing x with
  | nil => exact ⟨x0, x1⟩
  | cons t ts ih =>
    rw [hypT_cons] at h ⊢
    by_cases he : lcmE x t.period = 0
    · rw [if_pos he] at h ⊢
      have := lcm_fits x0 (hp t (by simp)) he
      exact ih (fun u hu => hp u (by simp [hu])) this.1 this.2 h
    · rw [if_neg he] at h; exact absurd h he
theorem hypT_err {ts : List TaskV} {x : Int} (h : (hypT x ts).2 ≠ 0) : (hypT x ts).1 = 0 := by
  induction ts generalizing x with
  | nil => exact absurd rfl h
  | cons t ts ih =>
    rw [hypT_cons] at h ⊢
    by_cases he : lcmE x t.period = 0
    · rw [if_pos he] at h ⊢; exact ih h
    · rw [if_neg he]
theorem hypP_err {ps : List PartV} {x : Int} (h : (hypP x ps).2 ≠ 0) : (hypP x ps).1 = 0 := by
  induction ps generalizing x with
  | nil => exact absurd rfl h
  | cons p ps ih =>
    rw [hypP_cons] at h ⊢
    by_cases he : (hypT x p.tasks).2 = 0
    · rw [if_pos he] at h ⊢; exact ih h
    · rw [if_neg he]

/-! The answers. -/
def atOK (C : ConfV) (t : Int) : Bool := decide (checkN C = 0) && (decide (0 ≤ t) && decide (t ≤ 1099511627776))
def atV (C : ConfV) (t : Int) : Int := if atOK C t = true then ownerN C.wins (t % C.frame) else 0
def atE (C : ConfV) (t : Int) : Int := if atOK C t = true then 0 else 600
def shOK (C : ConfV) (p : Int) : Bool := decide (checkN C = 0) && (decide (0 ≤ p) && decide (p < C.parts.length))
def shV (C : ConfV) (p : Int) : Int := if shOK C p = true then ticksN C.wins p else 0
def shE (C : ConfV) (p : Int) : Int := if shOK C p = true then 0 else 600
def hyV (C : ConfV) : Int := if checkN C = 0 then (hypP C.frame C.parts).1 else 0
def hyE (C : ConfV) : Int := if checkN C = 0 then (hypP C.frame C.parts).2 else 600
#print axioms hypP_err
end Go.Proofs.YtgaegggiehhcpabDoor
