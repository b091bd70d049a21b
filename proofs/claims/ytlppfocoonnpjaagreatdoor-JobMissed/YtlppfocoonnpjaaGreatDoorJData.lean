/- What jobs are in memory and as plain numbers, how they stand, and what the document's calls answer of them: nothing of the program's functions. -/
import Derived.Test.YtlppfocoonnpjaaGreatDoorCommon
namespace Go.Proofs.YtlppfocoonnpjaaGreatDoor.J
open Go.RowKit

structure JobV where
  task : Int
  seq : Int
  prio : Int
  rel : Int
  dead : Int
  dem : Int
  used : Int
def jobC (j : JobV) : List Value := [.int .i64 j.task, .int .i64 j.seq, .int .i64 j.prio, .int .i64 j.rel, .int .i64 j.dead, .int .i64 j.dem, .int .i64 j.used]
abbrev jobVal (j : JobV) : Value := .agg #[.int .i64 j.task, .int .i64 j.seq, .int .i64 j.prio, .int .i64 j.rel, .int .i64 j.dead, .int .i64 j.dem, .int .i64 j.used]
def shJ : Shape JobV := ⟨7, jobC, fun _ => rfl, by decide, fun x u h => by simp [jobC] at h; rcases h with rfl | rfl | rfl | rfl | rfl | rfl | rfl <;> rfl⟩
def jz : JobV := ⟨0, 0, 0, 0, 0, 0, 0⟩
def jobAt (js : List JobV) (i : Nat) : JobV := js[i]?.getD jz
theorem jobAt_mem {js : List JobV} {i : Nat} (h : i < js.length) : js[i]? = some (jobAt js i) := by
  unfold jobAt; rw [List.getElem?_eq_getElem h]; rfl
theorem jobAt_of {js : List JobV} {i : Nat} {x : JobV} (h : js[i]? = some x) : jobAt js i = x := by
  unfold jobAt; rw [h]; rfl
/-- May a job be? -/
def jobMay (j : JobV) : Bool := decide (0 ≤ j.task) && (decide (j.task < 6) && (decide (0 ≤ j.seq) && ((decide (0 ≤ j.prio) && decide (j.prio ≤ 255)) && ((decide (0 ≤ j.rel) && decide (j.rel ≤ 1099511627776)) && (decide (j.rel < j.dead) && ((decide (1 ≤ j.dem) && decide (j.dem ≤ 65535)) && (decide (0 ≤ j.used) && decide (j.used < j.dem))))))))
/-- Which one stands ahead. -/
def cmpI (a b : Int) : Int := if a < b then -1 else if b < a then 1 else 0
def orI (a b c : Int) : Int := if a ≠ 0 then a else if b ≠ 0 then b else c
def cmpJ (a b : JobV) : Int := orI (cmpI a.prio b.prio) (cmpI a.rel b.rel) (cmpI a.task b.task)
def Ahead (a b : JobV) : Prop := a.prio < b.prio ∨ (a.prio = b.prio ∧ (a.rel < b.rel ∨ (a.rel = b.rel ∧ a.task < b.task)))
def aheadB (a b : JobV) : Bool := decide (a.prio < b.prio ∨ (a.prio = b.prio ∧ (a.rel < b.rel ∨ (a.rel = b.rel ∧ a.task < b.task))))
theorem ahead_iff {a b : JobV} : aheadB a b = true ↔ Ahead a b := by unfold aheadB Ahead; exact decide_eq_true_iff
theorem ahead_no {a b : JobV} : aheadB a b = false ↔ ¬Ahead a b := by unfold aheadB Ahead; exact decide_eq_false_iff_not
theorem cmp_neg (a b : JobV) : decide (cmpJ a b < 0) = aheadB a b := by
  unfold cmpJ orI cmpI aheadB
  congr 1
  apply propext
  split <;> split <;> (try split) <;> (try split) <;> (try split) <;> (try split) <;> (try split) <;> omega
theorem cmp_pos (a b : JobV) : decide (0 ≤ cmpJ a b) = !aheadB a b := by
  rw [← cmp_neg]
  by_cases h : cmpJ a b < 0
  · rw [decide_eq_true h, decide_eq_false (by omega)]; rfl
  · rw [decide_eq_false h, decide_eq_true (by omega)]; rfl
/-- The same in all three. -/
def rankB (a b : JobV) : Bool := decide (a.prio = b.prio) && (decide (a.rel = b.rel) && decide (a.task = b.task))
theorem cmp_zero (a b : JobV) : decide (cmpJ a b = 0) = rankB a b := by
  unfold cmpJ orI cmpI rankB
  rw [← Bool.decide_and, ← Bool.decide_and]
  congr 1
  apply propext
  split <;> split <;> (try split) <;> (try split) <;> (try split) <;> (try split) <;> (try split) <;> omega
theorem rank_iff {a b : JobV} : rankB a b = true ↔ ¬Ahead a b ∧ ¬Ahead b a := by
  unfold rankB Ahead
  simp only [Bool.and_eq_true, decide_eq_true_eq]
  omega
theorem Ahead.trans {a b c : JobV} (h : Ahead a b) (h' : Ahead b c) : Ahead a c := by unfold Ahead at *; omega
theorem Ahead.irr (a : JobV) : ¬Ahead a a := by unfold Ahead; omega
theorem Ahead.not {a b : JobV} (h : Ahead a b) : ¬Ahead b a := by unfold Ahead at *; omega
theorem Ahead.pass {a b c : JobV} (h : Ahead a b) (h' : ¬Ahead c b) : Ahead a c := by unfold Ahead at *; omega
theorem Ahead.prio {a b : JobV} (h : Ahead a b) : a.prio ≤ b.prio := by unfold Ahead at *; omega

/-! All of so many. -/
def allB (n : Nat) (f : Nat → Bool) : Bool := (List.range n).all f
theorem allB_true {n : Nat} {f : Nat → Bool} (h : ∀ i, i < n → f i = true) : allB n f = true := by
  unfold allB; rw [List.all_eq_true]; intro i hi; exact h i (List.mem_range.1 hi)
theorem allB_false {n : Nat} {f : Nat → Bool} {i : Nat} (hi : i < n) (h : f i = false) : allB n f = false := by
  unfold allB; rw [List.all_eq_false]; exact ⟨i, List.mem_range.2 hi, by rw [h]; simp⟩
theorem allB_of {n : Nat} {f : Nat → Bool} (h : allB n f = true) (i : Nat) (hi : i < n) : f i = true := by
  unfold allB at h; exact List.all_eq_true.1 h i (List.mem_range.2 hi)
/-- Does each job stand behind the one that is ahead of it? -/
def stepB (js : List JobV) (i : Nat) : Bool := decide (i = 0) || aheadB (jobAt js (i - 1)) (jobAt js i)
def risesB (js : List JobV) : Bool := allB js.length (stepB js)
theorem rises_next {js : List JobV} (h : risesB js = true) {i : Nat} (hi : i + 1 < js.length) : Ahead (jobAt js i) (jobAt js (i + 1)) := by
  have := allB_of h (i + 1) hi
  unfold stepB at this
  rw [decide_eq_false (by omega), Bool.false_or] at this
  exact ahead_iff.1 this
theorem rises_at {js : List JobV} (h : risesB js = true) {i : Nat} : ∀ k, i < k → k < js.length → Ahead (jobAt js i) (jobAt js k) := by
  intro k
  induction k with
  | zero => intro h; omega
  | succ k ih =>
    intro h1 h2
    rcases (by omega : i = k ∨ i < k) with rfl | h3
    · exact rises_next h h2
    · exact (ih h3 (by omega)).trans (rises_next h h2)
theorem rises_of {js : List JobV} (h : ∀ i k, i < k → k < js.length → Ahead (jobAt js i) (jobAt js k)) : risesB js = true := by
  refine allB_true fun i hi => ?_
  unfold stepB
  rcases Nat.eq_zero_or_pos i with rfl | h0
  · rfl
  · rw [ahead_iff.2 (h (i - 1) i (by omega) hi), Bool.or_true]

/-- May a row be? -/
def rowMay (js : List JobV) : Bool := decide (js.length ≤ 16) && (js.all jobMay && risesB js)
theorem rowMay_iff {js : List JobV} : rowMay js = true ↔ js.length ≤ 16 ∧ js.all jobMay = true ∧ risesB js = true := by
  unfold rowMay
  simp only [Bool.and_eq_true, decide_eq_true_eq]
/-- Where a job stands, and whether one stands there that is the same in all three. -/
def placeN (js : List JobV) (j : JobV) : Nat := js.findIdx (fun x => !aheadB x j)
def hasB (js : List JobV) (j : JobV) : Bool := js.any (fun x => rankB x j)
theorem place_le (js : List JobV) (j : JobV) : placeN js j ≤ js.length := List.findIdx_le_length
theorem place_ahead {js : List JobV} {j : JobV} {i : Nat} (h : i < placeN js j) : Ahead (jobAt js i) j := by
  have hl := place_le js j
  have := List.not_of_lt_findIdx (xs := js) (p := fun x => !aheadB x j) h
  have h2 := jobAt_mem (js := js) (i := i) (by omega)
  rw [List.getElem?_eq_getElem (by omega)] at h2
  rw [Option.some.inj h2] at this
  exact ahead_iff.1 (by simpa using this)
theorem place_at {js : List JobV} {j : JobV} (h : placeN js j < js.length) : ¬Ahead (jobAt js (placeN js j)) j := by
  have e : (!aheadB (js[placeN js j]) j) = true := List.findIdx_getElem (xs := js) (p := fun x => !aheadB x j) (w := h)
  have h2 := jobAt_mem h
  rw [List.getElem?_eq_getElem h] at h2
  rw [← Option.some.inj h2]
  exact ahead_no.1 (by simpa using e)
theorem place_eq {js : List JobV} {j : JobV} {p : Nat} (hp : p ≤ js.length) (h1 : ∀ i, i < p → Ahead (jobAt js i) j) (h2 : p < js.length → ¬Ahead (jobAt js p) j) : placeN js j = p := by
  rcases Nat.lt_trichotomy (placeN js j) p with h | h | h
  · exact absurd (h1 _ h) (place_at (by omega))
  · exact h
  · exact absurd (place_ahead h) (h2 (by have := place_le js j; omega))
theorem place_behind {js : List JobV} {j : JobV} (hr : risesB js = true) {i : Nat} (h : placeN js j ≤ i) (hi : i < js.length) : ¬Ahead (jobAt js i) j := by
  rcases Nat.lt_or_ge (placeN js j) i with h1 | h1
  · intro h2
    exact place_at (by omega) ((rises_at hr i h1 hi).trans h2)
  · obtain rfl : i = placeN js j := by omega
    exact place_at hi
theorem has_place {js : List JobV} {j : JobV} (hr : risesB js = true) : hasB js j = (decide (placeN js j < js.length) && rankB (jobAt js (placeN js j)) j) := by
  by_cases hl : placeN js j < js.length
  · rw [decide_eq_true hl, Bool.true_and]
    cases hk : rankB (jobAt js (placeN js j)) j with
    | true => exact List.any_eq_true.2 ⟨_, List.mem_of_getElem? (jobAt_mem hl), hk⟩
    | false =>
      unfold hasB
      rw [List.any_eq_false]
      intro x hx hx2
      obtain ⟨i, hi, rfl⟩ := List.getElem_of_mem hx
      have e : js[i] = jobAt js i := by unfold jobAt; rw [List.getElem?_eq_getElem hi]; rfl
      rw [e] at hx2
      have h2 := rank_iff.1 hx2
      rcases Nat.lt_trichotomy i (placeN js j) with h | h | h
      · exact h2.1 (place_ahead h)
      · subst h; rw [hx2] at hk; cases hk
      · have h3 := rises_at hr i h hi
        have h4 := place_at hl
        exact h2.2 (by
          have h5 : ¬(Ahead (jobAt js (placeN js j)) j) := h4
          unfold Ahead at *; omega)
  · rw [decide_eq_false hl, Bool.false_and]
    unfold hasB
    rw [List.any_eq_false]
    intro x hx hx2
    obtain ⟨i, hi, rfl⟩ := List.getElem_of_mem hx
    have e : js[i] = jobAt js i := by unfold jobAt; rw [List.getElem?_eq_getElem hi]; rfl
    rw [e] at hx2
    exact (rank_iff.1 hx2).1 (place_ahead (by omega))
/-- What the calls answer. -/
def okB (js : List JobV) (j : JobV) : Bool := rowMay js && (jobMay j && !hasB js j)
def putL (js : List JobV) (j : JobV) : List JobV := js.take (placeN js j) ++ j :: js.drop (placeN js j)
def putV (js : List JobV) (j : JobV) : List JobV := if okB js j = true then (if js.length = 16 then [] else putL js j) else []
def putE (js : List JobV) (j : JobV) : Int := if okB js j = true then (if js.length = 16 then 1201 else 0) else 1200
def firstB (js : List JobV) : Bool := rowMay js && decide (0 < js.length)
def firstV (js : List JobV) : JobV := if firstB js = true then jobAt js 0 else jz
def leftV (js : List JobV) (now : Int) : List JobV := if rowMay js = true then js.filter (fun x => !decide (x.dead ≤ now)) else []
def lateV (js : List JobV) (now : Int) : List JobV := if rowMay js = true then js.filter (fun x => decide (x.dead ≤ now)) else []

/-- A row of jobs that a call made from block base on, and that nothing else holds. -/
def Own (base : Nat) (W : World) (v : Value) (xs : List JobV) : Prop := W.ownsRow base 70 7 v xs.length (shJ.cells xs)
theorem Own.row {base : Nat} {W : World} {v : Value} {xs : List JobV} (h : Own base W v xs) : RowAt shJ base W v xs := rowAt_own (S := shJ) h
theorem Own.grown {base : Nat} {W W' : World} {v : Value} {xs : List JobV} (h : Own base W v xs) (hg : W.grownBy W' none) : Own base W' v xs := own_kept h hg
theorem Own.base {base base' : Nat} {W : World} {v : Value} {xs : List JobV} (h : Own base W v xs) (hb : base' ≤ base) : Own base' W v xs := by
  refine ⟨h.1, ?_⟩
  rcases h.2 with h2 | ⟨g, cap, cur, rfl, h3, rest⟩
  · exact .inl h2
  · exact .inr ⟨g, cap, cur, rfl, Nat.le_trans hb h3, rest⟩
theorem own_nil (base : Nat) (W : World) : Own base W (.slice none 0 0) [] := World.ownsRow_nil W base 70 7
theorem Own.form {base : Nat} {W : World} {v : Value} {xs : List JobV} (h : Own base W v xs) : ∃ a cap, v = .slice a xs.length cap := own_form h
/-- Two rows of the call's own lie in blocks of their own. -/
def Far (v v2 : Value) : Prop := ∀ g, v.ownBlock = some g → v2.ownBlock ≠ some g
theorem Own.far {base : Nat} {W W1 : World} {v v2 : Value} {xs : List JobV} (h : Own base W v xs) (hg : W.grownBy W1 v2.ownBlock) (hn : Far v v2) : Own base W1 v xs := by
  refine World.ownsRow.kept h hg ?_
  cases hv : v.ownBlock with
  | none => exact .inl rfl
  | some k => exact .inr fun e => hn k hv e.symm
theorem far_new {base B : Nat} {W : World} {v v2 : Value} {xs : List JobV} (h : Own base W v xs) (hb : B ≤ base) (h2 : ∀ g, v2.ownBlock = some g → g < B) : Far v v2 := fun g hg e => by
  have h3 := (World.ownsRow.lt h g hg).1
  have h4 := h2 g e
  omega
theorem far_nil (v2 : Value) (c : Nat) : Far (.slice none 0 c) v2 := fun g hg => by simp [Value.ownBlock] at hg
theorem Far.symm {v v2 : Value} (h : Far v v2) : Far v2 v := fun g h1 h2 => h g h2 h1

theorem row_addr {α : Type} {S : Shape α} {lo n c : Nat} {W : World} {a : Option Addr} {xs : List α} (h : RowAt S lo W (.slice a n c) xs) (hn : 0 < n) : ∃ g o, a = some ⟨g, o, none⟩ := by
  obtain ⟨-, a2, c2, e, hc⟩ := h
  simp only [Value.slice.injEq] at e
  obtain ⟨rfl, rfl, rfl⟩ := e
  obtain ⟨g, o, rfl, -⟩ := hc hn
  exact ⟨g, o, rfl⟩
theorem row_cell {α : Type} {S : Shape α} {lo n c g o : Nat} {W : World} {xs : List α} (h : RowAt S lo W (.slice (some ⟨g, o, none⟩) n c) xs) {j : Nat} {x : α} (hx : xs[j]? = some x) {k : Nat} {u : Value} (hu : (S.f x)[k]? = some u) : W.cell? ⟨g, o + j * S.k + k, none⟩ = some u := by
  obtain ⟨-, a2, c2, e, hc⟩ := h
  simp only [Value.slice.injEq] at e
  obtain ⟨rfl, rfl, rfl⟩ := e
  obtain ⟨g', o', e, -, hc2⟩ := hc (by have := (List.getElem?_eq_some_iff.1 hx).1; omega)
  simp only [Option.some.injEq, Addr.mk.injEq, and_true] at e
  obtain ⟨rfl, rfl⟩ := e
  exact hc2 j x hx k u hu
/-- A part of a row. -/
theorem row_drop {α : Type} {S : Shape α} {lo n c g o p : Nat} {W : World} {xs : List α} (h : RowAt S lo W (.slice (some ⟨g, o, none⟩) n c) xs) (hp : p ≤ n) : RowAt S lo W (.slice (some ⟨g, o + p * S.k, none⟩) (n - p) (c - p)) (xs.drop p) := by
  obtain ⟨hl, a2, c2, e, ha⟩ := h
  simp only [Value.slice.injEq] at e
  obtain ⟨rfl, rfl, rfl⟩ := e
  refine ⟨by rw [List.length_drop]; omega, _, c - p, by rw [List.length_drop], fun h0 => ?_⟩
  rw [List.length_drop] at h0
  obtain ⟨g', o', e, hlo, hc⟩ := ha (by omega)
  simp only [Option.some.injEq, Addr.mk.injEq, and_true] at e
  obtain ⟨rfl, rfl⟩ := e
  refine ⟨g, o + p * S.k, rfl, ⟨hlo.1, by rw [List.length_drop]; omega⟩, fun i x hx j u hu => ?_⟩
  rw [List.getElem?_drop] at hx
  have := hc (p + i) x hx j u hu
  rw [show o + p * S.k + i * S.k + j = o + (p + i) * S.k + j by rw [Nat.add_mul]; omega]
  exact this
theorem row_take {α : Type} {S : Shape α} {lo n c p : Nat} {a : Option Addr} {W : World} {xs : List α} (h : RowAt S lo W (.slice a n c) xs) (hp : p ≤ n) : RowAt S lo W (.slice a p c) (xs.take p) := by
  obtain ⟨hl, a2, c2, e, ha⟩ := h
  simp only [Value.slice.injEq] at e
  obtain ⟨rfl, rfl, rfl⟩ := e
  have hlen : (xs.take p).length = p := by rw [List.length_take]; omega
  refine ⟨by omega, _, c, by rw [hlen], fun h0 => ?_⟩
  rw [hlen] at h0 ⊢
  obtain ⟨g', o', rfl, hlo, hc⟩ := ha (by omega)
  refine ⟨g', o', rfl, ⟨hlo.1, by omega⟩, fun i x hx j u hu => ?_⟩
  have hi : i < p := by have := (List.getElem?_eq_some_iff.1 hx).1; omega
  rw [List.getElem?_take, if_pos hi] at hx
  exact hc i x hx j u hu

/-! Boxes. -/
theorem box_lt {W : World} {b : Nat} {o : Obj} (h : W.heap[b]? = some o) : b < W.heap.size := (Array.getElem?_eq_some_iff.1 h).1
theorem box_grown {W W2 : World} {b : Nat} {o : Obj} {r : Option Nat} (h : W.heap[b]? = some o) (hg : W.grownBy W2 r) (hr : r ≠ some b) : W2.heap[b]? = some o := (hg.block b (box_lt h) (fun e => hr e.symm)).trans h
theorem blk_cell {W : World} {b t : Nat} {cs : Array Value} (h : W.heap[b]? = some (.cells cs t (0, 0))) (j : Nat) : W.cell? ⟨b, j, none⟩ = cs[j]? := by simp [World.cell?, h]
theorem blk_free {W : World} {b t : Nat} {cs : Array Value} (h : W.heap[b]? = some (.cells cs t (0, 0))) (j : Nat) : W.frozen? ⟨b, j, none⟩ = false := by simp [World.frozen?, h]
theorem blk_set {W : World} {b t j : Nat} {u : Value} {cs cs' : Array Value} (h : W.heap[b]? = some (.cells cs t (0, 0))) (e : cs.setIfInBounds j u = cs') : (W.setCell ⟨b, j, none⟩ u).heap[b]? = some (.cells cs' t (0, 0)) := by
  subst e
  simp [World.setCell, Array.getElem?_modify, h]
theorem hp_up {w : World} {b : Nat} {o : Obj} (h : w.heap[b]? = some o) (o' : Obj) : (w.alloc o').heap[b]? = some o := box_grown h (World.grownBy_alloc _ _ none) (by simp)
theorem alloc_next (w : World) (o o' : Obj) : ((w.alloc o).alloc o').heap[w.heap.size + 1]? = some o' := by
  have h := heap_alloc_new (w.alloc o) o'
  rwa [show (w.alloc o).heap.size = w.heap.size + 1 by simp] at h
theorem alloc_third (w : World) (o o' o'' : Obj) : (((w.alloc o).alloc o').alloc o'').heap[w.heap.size + 1 + 1]? = some o'' := by
  have h := alloc_next (w.alloc o) o' o''
  rwa [show (w.alloc o).heap.size = w.heap.size + 1 by simp] at h
#print axioms own_nil
end Go.Proofs.YtlppfocoonnpjaaGreatDoor.J
