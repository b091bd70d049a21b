/- What jobs are in memory and as plain numbers, how they stand, and what the document's calls answer of them: nothing of the program's functions. What a configuration is in memory, and what it is: plain lists and numbers; nothing of the program's functions. Contracts of package code's isOp and argBelow, proved over the translation: what the table of operations answers. Contracts of package code's May and its closure, and of the library's IndexFunc and ContainsFunc as May calls them, proved over the translation. Contracts of package code's May, and of the document's instrMay and CodeMay: both answer one function, proved over the translation. -/
import Derived.Test.YtlppfocoonnpjaaGreatDoorCommon

namespace Go.Proofs.YtlppfocoonnpjaaGreatDoor.J
open Go.RowKit

structure JobV where
  task : Int
  seq : Int
  prio : Int
  rel : Int
  dead : Int
  dem : Int
  used : Int
def jobC (j : JobV) : List Value := [.int .i64 j.task, .int .i64 j.seq, .int .i64 j.prio, .int .i64 j.rel, .int .i64 j.dead, .int .i64 j.dem, .int .i64 j.used]
abbrev jobVal (j : JobV) : Value := .agg #[.int .i64 j.task, .int .i64 j.seq, .int .i64 j.prio, .int .i64 j.rel, .int .i64 j.dead, .int .i64 j.dem, .int .i64 j.used]
def shJ : Shape JobV := ⟨7, jobC, fun _ => rfl, by decide, fun x u h => by simp [jobC] at h; rcases h with rfl | rfl | rfl | rfl | rfl | rfl | rfl <;> rfl⟩
def jz : JobV := ⟨0, 0, 0, 0, 0, 0, 0⟩
def jobAt (js : List JobV) (i : Nat) : JobV := js[i]?.getD jz
theorem jobAt_mem {js : List JobV} {i : Nat} (h : i < js.length) : js[i]? = some (jobAt js i) := by
  unfold jobAt; rw [List.getElem?_eq_getElem h]; rfl
theorem jobAt_of {js : List JobV} {i : Nat} {x : JobV} (h : js[i]? = some x) : jobAt js i = x := by
  unfold jobAt; rw [h]; rfl
/-- May a job be? -/
def jobMay (j : JobV) : Bool := decide (0 ≤ j.task) && (decide (j.task < 6) && (decide (0 ≤ j.seq) && ((decide (0 ≤ j.prio) && decide (j.prio ≤ 255)) && ((decide (0 ≤ j.rel) && decide (j.rel ≤ 1099511627776)) && (decide (j.rel < j.dead) && ((decide (1 ≤ j.dem) && decide (j.dem ≤ 65535)) && (decide (0 ≤ j.used) && decide (j.used < j.dem))))))))
/-- Which one stands ahead. -/
def cmpI (a b : Int) : Int := if a < b then -1 else if b < a then 1 else 0
def orI (a b c : Int) : Int := if a ≠ 0 then a else if b ≠ 0 then b else c
def cmpJ (a b : JobV) : Int := orI (cmpI a.prio b.prio) (cmpI a.rel b.rel) (cmpI a.task b.task)
def Ahead (a b : JobV) : Prop := a.prio < b.prio ∨ (a.prio = b.prio ∧ (a.rel < b.rel ∨ (a.rel = b.rel ∧ a.task < b.task)))
def aheadB (a b : JobV) : Bool := decide (a.prio < b.prio ∨ (a.prio = b.prio ∧ (a.rel < b.rel ∨ (a.rel = b.rel ∧ a.task < b.task))))
theorem ahead_iff {a b : JobV} : aheadB a b = true ↔ Ahead a b := by unfold aheadB Ahead; exact decide_eq_true_iff
theorem ahead_no {a b : JobV} : aheadB a b = false ↔ ¬Ahead a b := by unfold aheadB Ahead; exact decide_eq_false_iff_not
theorem cmp_neg (a b : JobV) : decide (cmpJ a b < 0) = aheadB a b := by
  unfold cmpJ orI cmpI aheadB
  congr 1
  apply propext
  split <;> split <;> (try split) <;> (try split) <;> (try split) <;> (try split) <;> (try split) <;> omega
theorem cmp_pos (a b : JobV) : decide (0 ≤ cmpJ a b) = !aheadB a b := by
  rw [← cmp_neg]
  by_cases h : cmpJ a b < 0
  · rw [decide_eq_true h, decide_eq_false (by omega)]; rfl
  · rw [decide_eq_false h, decide_eq_true (by omega)]; rfl
/-- The same in all three. -/
def rankB (a b : JobV) : Bool := decide (a.prio = b.prio) && (decide (a.rel = b.rel) && decide (a.task = b.task))
theorem cmp_zero (a b : JobV) : decide (cmpJ a b = 0) = rankB a b := by
  unfold cmpJ orI cmpI rankB
  rw [← Bool.decide_and, ← Bool.decide_and]
  congr 1
  apply propext
  split <;> split <;> (try split) <;> (try split) <;> (try split) <;> (try split) <;> (try split) <;> omega
theorem rank_iff {a b : JobV} : rankB a b = true ↔ ¬Ahead a b ∧ ¬Ahead b a := by
  unfold rankB Ahead
  simp only [Bool.and_eq_true, decide_eq_true_eq]
  omega
theorem Ahead.trans {a b c : JobV} (h : Ahead a b) (h' : Ahead b c) : Ahead a c := by unfold Ahead at *; omega
theorem Ahead.irr (a : JobV) : ¬Ahead a a := by unfold Ahead; omega
theorem Ahead.not {a b : JobV} (h : Ahead a b) : ¬Ahead b a := by unfold Ahead at *; omega
theorem Ahead.pass {a b c : JobV} (h : Ahead a b) (h' : ¬Ahead c b) : Ahead a c := by unfold Ahead at *; omega
theorem Ahead.prio {a b : JobV} (h : Ahead a b) : a.prio ≤ b.prio := by unfold Ahead at *; omega

/-! All of so many. -/
def allB (n : Nat) (f : Nat → Bool) : Bool := (List.range n).all f
theorem allB_true {n : Nat} {f : Nat → Bool} (h : ∀ i, i < n → f i = true) : allB n f = true := by
  unfold allB; rw [List.all_eq_true]; intro i hi; exact h i (List.mem_range.1 hi)
theorem allB_false {n : Nat} {f : Nat → Bool} {i : Nat} (hi : i < n) (h : f i = false) : allB n f = false := by
  unfold allB; rw [List.all_eq_false]; exact ⟨i, List.mem_range.2 hi, by rw [h]; simp⟩
theorem allB_of {n : Nat} {f : Nat → Bool} (h : allB n f = true) (i : Nat) (hi : i < n) : f i = true := by
  unfold allB at h; exact List.all_eq_true.1 h i (List.mem_range.2 hi)
/-- Does each job stand behind the one that is ahead of it? -/
def stepB (js : List JobV) (i : Nat) : Bool := decide (i = 0) || aheadB (jobAt js (i - 1)) (jobAt js i)
def risesB (js : List JobV) : Bool := allB js.length (stepB js)
theorem rises_next {js : List JobV} (h : risesB js = true) {i : Nat} (hi : i + 1 < js.length) : Ahead (jobAt js i) (jobAt js (i + 1)) := by
  have := allB_of h (i + 1) hi
  unfold stepB at this
  rw [decide_eq_false (by omega), Bool.false_or] at this
  exact ahead_iff.1 this
theorem rises_at {js : List JobV} (h : risesB js = true) {i : Nat} : ∀ k, i < k → k < js.length → Ahead (jobAt js i) (jobAt js k) := by
  intro k
  induction k with
  | zero => intro h; omega
  | succ k ih =>
    intro h1 h2
    rcases (by omega : i = k ∨ i < k) with rfl | h3
    · exact rises_next h h2
    · exact (ih h3 (by omega)).trans (rises_next h h2)
theorem rises_of {js : List JobV} (h : ∀ i k, i < k → k < js.length → Ahead (jobAt js i) (jobAt js k)) : risesB js = true := by
  refine allB_true fun i hi => ?_
  unfold stepB
  rcases Nat.eq_zero_or_pos i with rfl | h0
  · rfl
  · rw [ahead_iff.2 (h (i - 1) i (by omega) hi), Bool.or_true]

/-- May a row be? -/
def rowMay (js : List JobV) : Bool := decide (js.length ≤ 16) && (js.all jobMay && risesB js)
theorem rowMay_iff {js : List JobV} : rowMay js = true ↔ js.length ≤ 16 ∧ js.all jobMay = true ∧ risesB js = true := by
  unfold rowMay
  simp only [Bool.and_eq_true, decide_eq_true_eq]
/-- Where a job stands, and whether one stands there that is the same in all three. -/
def placeN (js : List JobV) (j : JobV) : Nat := js.findIdx (fun x => !aheadB x j)
def hasB (js : List JobV) (j : JobV) : Bool := js.any (fun x => rankB x j)
theorem place_le (js : List JobV) (j : JobV) : placeN js j ≤ js.length := List.findIdx_le_length
theorem place_ahead {js : List JobV} {j : JobV} {i : Nat} (h : i < placeN js j) : Ahead (jobAt js i) j := by
  have hl := place_le js j
  have := List.not_of_lt_findIdx (xs := js) (p := fun x => !aheadB x j) h
  have h2 := jobAt_mem (js := js) (i := i) (by omega)
  rw [List.getElem?_eq_getElem (by omega)] at h2
  rw [Option.some.inj h2] at this
  exact ahead_iff.1 (by simpa using this)
theorem place_at {js : List JobV} {j : JobV} (h : placeN js j < js.length) : ¬Ahead (jobAt js (placeN js j)) j := by
  have e : (!aheadB (js[placeN js j]) j) = true := List.findIdx_getElem (xs := js) (p := fun x => !aheadB x j) (w := h)
  have h2 := jobAt_mem h
  rw [List.getElem?_eq_getElem h] at h2
  rw [← Option.some.inj h2]
  exact ahead_no.1 (by simpa using e)
theorem place_eq {js : List JobV} {j : JobV} {p : Nat} (hp : p ≤ js.length) (h1 : ∀ i, i < p → Ahead (jobAt js i) j) (h2 : p < js.length → ¬Ahead (jobAt js p) j) : placeN js j = p := by
  rcases Nat.lt_trichotomy (placeN js j) p with h | h | h
  · exact absurd (h1 _ h) (place_at (by omega))
  · exact h
  · exact absurd (place_ahead h) (h2 (by have := place_le js j; omega))
theorem place_behind {js : List JobV} {j : JobV} (hr : risesB js = true) {i : Nat} (h : placeN js j ≤ i) (hi : i < js.length) : ¬Ahead (jobAt js i) j := by
  rcases Nat.lt_or_ge (placeN js j) i with h1 | h1
  · intro h2
    exact place_at (by omega) ((rises_at hr i h1 hi).trans h2)
  · obtain rfl : i = placeN js j := by omega
    exact place_at hi
theorem has_place {js : List JobV} {j : JobV} (hr : risesB js = true) : hasB js j = (decide (placeN js j < js.length) && rankB (jobAt js (placeN js j)) j) := by
  by_cases hl : placeN js j < js.length
  · rw [decide_eq_true hl, Bool.true_and]
    cases hk : rankB (jobAt js (placeN js j)) j with
    | true => exact List.any_eq_true.2 ⟨_, List.mem_of_getElem? (jobAt_mem hl), hk⟩
    | false =>
      unfold hasB
      rw [List.any_eq_false]
      intro x hx hx2
      obtain ⟨i, hi, rfl⟩ := List.getElem_of_mem hx
      have e : js[i] = jobAt js i := by unfold jobAt; rw [List.getElem?_eq_getElem hi]; rfl
      rw [e] at hx2
      have h2 := rank_iff.1 hx2
      rcases Nat.lt_trichotomy i (placeN js j) with h | h | h
      · exact h2.1 (place_ahead h)
      · subst h; rw [hx2] at hk; cases hk
      · have h3 := rises_at hr i h hi
        have h4 := place_at hl
        exact h2.2 (by
          have h5 : ¬(Ahead (jobAt js (placeN js j)) j) := h4
          unfold Ahead at *; omega)
  · rw [decide_eq_false hl, Bool.false_and]
    unfold hasB
    rw [List.any_eq_false]
    intro x hx hx2
    obtain ⟨i, hi, rfl⟩ := List.getElem_of_mem hx
    have e : js[i] = jobAt js i := by unfold jobAt; rw [List.getElem?_eq_getElem hi]; rfl
    rw [e] at hx2
    exact (rank_iff.1 hx2).1 (place_ahead (by omega))
/-- What the calls answer. -/
def okB (js : List JobV) (j : JobV) : Bool := rowMay js && (jobMay j && !hasB js j)
def putL (js : List JobV) (j : JobV) : List JobV := js.take (placeN js j) ++ j :: js.drop (placeN js j)
def putV (js : List JobV) (j : JobV) : List JobV := if okB js j = true then (if js.length = 16 then [] else putL js j) else []
def putE (js : List JobV) (j : JobV) : Int := if okB js j = true then (if js.length = 16 then 1201 else 0) else 1200
def firstB (js : List JobV) : Bool := rowMay js && decide (0 < js.length)
def firstV (js : List JobV) : JobV := if firstB js = true then jobAt js 0 else jz
def leftV (js : List JobV) (now : Int) : List JobV := if rowMay js = true then js.filter (fun x => !decide (x.dead ≤ now)) else []
def lateV (js : List JobV) (now : Int) : List JobV := if rowMay js = true then js.filter (fun x => decide (x.dead ≤ now)) else []

/-- A row of jobs that a call made from block base on, and that nothing else holds. -/
def Own (base : Nat) (W : World) (v : Value) (xs : List JobV) : Prop := W.ownsRow base 70 7 v xs.length (shJ.cells xs)
theorem Own.row {base : Nat} {W : World} {v : Value} {xs : List JobV} (h : Own base W v xs) : RowAt shJ base W v xs := rowAt_own (S := shJ) h
theorem Own.grown {base : Nat} {W W' : World} {v : Value} {xs : List JobV} (h : Own base W v xs) (hg : W.grownBy W' none) : Own base W' v xs := own_kept h hg
theorem Own.base {base base' : Nat} {W : World} {v : Value} {xs : List JobV} (h : Own base W v xs) (hb : base' ≤ base) : Own base' W v xs := by
  refine ⟨h.1, ?_⟩
  rcases h.2 with h2 | ⟨g, cap, cur, rfl, h3, rest⟩
  · exact .inl h2
  · exact .inr ⟨g, cap, cur, rfl, Nat.le_trans hb h3, rest⟩
theorem own_nil (base : Nat) (W : World) : Own base W (.slice none 0 0) [] := World.ownsRow_nil W base 70 7
theorem Own.form {base : Nat} {W : World} {v : Value} {xs : List JobV} (h : Own base W v xs) : ∃ a cap, v = .slice a xs.length cap := own_form h
/-- Two rows of the call's own lie in blocks of their own. -/
def Far (v v2 : Value) : Prop := ∀ g, v.ownBlock = some g → v2.ownBlock ≠ some g
theorem Own.far {base : Nat} {W W1 : World} {v v2 : Value} {xs : List JobV} (h : Own base W v xs) (hg : W.grownBy W1 v2.ownBlock) (hn : Far v v2) : Own base W1 v xs := by
  refine World.ownsRow.kept h hg ?_
  cases hv : v.ownBlock with
  | none => exact .inl rfl
  | some k => exact .inr fun e => hn k hv e.symm
theorem far_new {base B : Nat} {W : World} {v v2 : Value} {xs : List JobV} (h : Own base W v xs) (hb : B ≤ base) (h2 : ∀ g, v2.ownBlock = some g → g < B) : Far v v2 := fun g hg e => by
  have h3 := (World.ownsRow.lt h g hg).1
  have h4 := h2 g e
  omega
theorem far_nil (v2 : Value) (c : Nat) : Far (.slice none 0 c) v2 := fun g hg => by simp [Value.ownBlock] at hg
theorem Far.symm {v v2 : Value} (h : Far v v2) : Far v2 v := fun g h1 h2 => h g h2 h1

theorem row_addr {α : Type} {S : Shape α} {lo n c : Nat} {W : World} {a : Option Addr} {xs : List α} (h : RowAt S lo W (.slice a n c) xs) (hn : 0 < n) : ∃ g o, a = some ⟨g, o, none⟩ := by
  obtain ⟨-, a2, c2, e, hc⟩ := h
  simp only [Value.slice.injEq] at e
  obtain ⟨rfl, rfl, rfl⟩ := e
  obtain ⟨g, o, rfl, -⟩ := hc hn
  exact ⟨g, o, rfl⟩
theorem row_cell {α : Type} {S : Shape α} {lo n c g o : Nat} {W : World} {xs : List α} (h : RowAt S lo W (.slice (some ⟨g, o, none⟩) n c) xs) {j : Nat} {x : α} (hx : xs[j]? = some x) {k : Nat} {u : Value} (hu : (S.f x)[k]? = some u) : W.cell? ⟨g, o + j * S.k + k, none⟩ = some u := by
  obtain ⟨-, a2, c2, e, hc⟩ := h
  simp only [Value.slice.injEq] at e
  obtain ⟨rfl, rfl, rfl⟩ := e
  obtain ⟨g', o', e, -, hc2⟩ := hc (by have := (List.getElem?_eq_some_iff.1 hx).1; omega)
  simp only [Option.some.injEq, Addr.mk.injEq, and_true] at e
  obtain ⟨rfl, rfl⟩ := e
  exact hc2 j x hx k u hu
/-- A part of a row. -/
theorem row_drop {α : Type} {S : Shape α} {lo n c g o p : Nat} {W : World} {xs : List α} (h : RowAt S lo W (.slice (some ⟨g, o, none⟩) n c) xs) (hp : p ≤ n) : RowAt S lo W (.slice (some ⟨g, o + p * S.k, none⟩) (n - p) (c - p)) (xs.drop p) := by
  obtain ⟨hl, a2, c2, e, ha⟩ := h
  simp only [Value.slice.injEq] at e
  obtain ⟨rfl, rfl, rfl⟩ := e
  refine ⟨by rw [List.length_drop]; omega, _, c - p, by rw [List.length_drop], fun h0 => ?_⟩
  rw [List.length_drop] at h0
  obtain ⟨g', o', e, hlo, hc⟩ := ha (by omega)
  simp only [Option.some.injEq, Addr.mk.injEq, and_true] at e
  obtain ⟨rfl, rfl⟩ := e
  refine ⟨g, o + p * S.k, rfl, ⟨hlo.1, by rw [List.length_drop]; omega⟩, fun i x hx j u hu => ?_⟩
  rw [List.getElem?_drop] at hx
  have := hc (p + i) x hx j u hu
  rw [show o + p * S.k + i * S.k + j = o + (p + i) * S.k + j by rw [Nat.add_mul]; omega]
  exact this
theorem row_take {α : Type} {S : Shape α} {lo n c p : Nat} {a : Option Addr} {W : World} {xs : List α} (h : RowAt S lo W (.slice a n c) xs) (hp : p ≤ n) : RowAt S lo W (.slice a p c) (xs.take p) := by
  obtain ⟨hl, a2, c2, e, ha⟩ := h
  simp only [Value.slice.injEq] at e
  obtain ⟨rfl, rfl, rfl⟩ := e
  have hlen : (xs.take p).length = p := by rw [List.length_take]; omega
  refine ⟨by omega, _, c, by rw [hlen], fun h0 => ?_⟩
  rw [hlen] at h0 ⊢
  obtain ⟨g', o', rfl, hlo, hc⟩ := ha (by omega)
  refine ⟨g', o', rfl, ⟨hlo.1, by omega⟩, fun i x hx j u hu => ?_⟩
  have hi : i < p := by have := (List.getElem?_eq_some_iff.1 hx).1; omega
  rw [List.getElem?_take, if_pos hi] at hx
  exact hc i x hx j u hu

/-! Boxes. -/
theorem box_lt {W : World} {b : Nat} {o : Obj} (h : W.heap[b]? = some o) : b < W.heap.size := (Array.getElem?_eq_some_iff.1 h).1
theorem box_grown {W W2 : World} {b : Nat} {o : Obj} {r : Option Nat} (h : W.heap[b]? = some o) (hg : W.grownBy W2 r) (hr : r ≠ some b) : W2.heap[b]? = some o := (hg.block b (box_lt h) (fun e => hr e.symm)).trans h
theorem blk_cell {W : World} {b t : Nat} {cs : Array Value} (h : W.heap[b]? = some (.cells cs t (0, 0))) (j : Nat) : W.cell? ⟨b, j, none⟩ = cs[j]? := by simp [World.cell?, h]
theorem blk_free {W : World} {b t : Nat} {cs : Array Value} (h : W.heap[b]? = some (.cells cs t (0, 0))) (j : Nat) : W.frozen? ⟨b, j, none⟩ = false := by simp [World.frozen?, h]
theorem blk_set {W : World} {b t j : Nat} {u : Value} {cs cs' : Array Value} (h : W.heap[b]? = some (.cells cs t (0, 0))) (e : cs.setIfInBounds j u = cs') : (W.setCell ⟨b, j, none⟩ u).heap[b]? = some (.cells cs' t (0, 0)) := by
  subst e
  simp [World.setCell, Array.getElem?_modify, h]
theorem hp_up {w : World} {b : Nat} {o : Obj} (h : w.heap[b]? = some o) (o' : Obj) : (w.alloc o').heap[b]? = some o := box_grown h (World.grownBy_alloc _ _ none) (by simp)
theorem alloc_next (w : World) (o o' : Obj) : ((w.alloc o).alloc o').heap[w.heap.size + 1]? = some o' := by
  have h := heap_alloc_new (w.alloc o) o'
  rwa [show (w.alloc o).heap.size = w.heap.size + 1 by simp] at h
theorem alloc_third (w : World) (o o' o'' : Obj) : (((w.alloc o).alloc o').alloc o'').heap[w.heap.size + 1 + 1]? = some o'' := by
  have h := alloc_next (w.alloc o) o' o''
  rwa [show (w.alloc o).heap.size = w.heap.size + 1 by simp] at h
end Go.Proofs.YtlppfocoonnpjaaGreatDoor.J

namespace Go.Proofs.YtlppfocoonnpjaaGreatDoor
open Go.RowKit

abbrev Ins := Int × Int
structure TaskV where
  kind : Int
  period : Int
  deadline : Int
  clow : Int
  chigh : Int
  prio : Int
structure PartV where
  level : Int
  tasks : List TaskV
  code : List Ins
structure WinV where
  fr : Int
  til : Int
  part : Int
structure PortV where
  kind : Int
  fr : Int
  til : Int
  size : Int
structure ConfV where
  frame : Int
  quiet : Int
  parts : List PartV
  wins : List WinV
  ports : List PortV
/-- A part as its row in memory holds it: its Level, and where its two lists lie. -/
structure PartM where
  level : Int
  ta : Option Addr
  tn : Nat
  tc : Nat
  ca : Option Addr
  cn : Nat
  cc : Nat
def PartM.tasks (q : PartM) : Value := .slice q.ta q.tn q.tc
def PartM.code (q : PartM) : Value := .slice q.ca q.cn q.cc

def insC (x : Ins) : List Value := [.int .i64 x.1, .int .i64 x.2]
def taskC (t : TaskV) : List Value := [.int .i64 t.kind, .int .i64 t.period, .int .i64 t.deadline, .int .i64 t.clow, .int .i64 t.chigh, .int .i64 t.prio]
def winC (x : WinV) : List Value := [.int .i64 x.fr, .int .i64 x.til, .int .i64 x.part]
def portC (x : PortV) : List Value := [.int .i64 x.kind, .int .i64 x.fr, .int .i64 x.til, .int .i64 x.size]
def partC (q : PartM) : List Value := [.int .i64 q.level, .slice q.ta q.tn q.tc, .slice q.ca q.cn q.cc]
def shI : Shape Ins := ⟨2, insC, fun _ => rfl, by decide, fun x u h => by simp [insC] at h; rcases h with rfl | rfl <;> rfl⟩
def shT : Shape TaskV := ⟨6, taskC, fun _ => rfl, by decide, fun x u h => by simp [taskC] at h; rcases h with rfl | rfl | rfl | rfl | rfl | rfl <;> rfl⟩
def shW : Shape WinV := ⟨3, winC, fun _ => rfl, by decide, fun x u h => by simp [winC] at h; rcases h with rfl | rfl | rfl <;> rfl⟩
def shO : Shape PortV := ⟨4, portC, fun _ => rfl, by decide, fun x u h => by simp [portC] at h; rcases h with rfl | rfl | rfl | rfl <;> rfl⟩
def shP : Shape PartM := ⟨3, partC, fun _ => rfl, by decide, fun x u h => by simp [partC] at h; rcases h with rfl | rfl | rfl <;> rfl⟩

/-- A part in memory reads as this part. -/
def PartIs (lo : Nat) (W : World) (q : PartM) (p : PartV) : Prop := q.level = p.level ∧ RowAt shT lo W q.tasks p.tasks ∧ RowAt shI lo W q.code p.code
theorem PartIs.kept {lo : Nat} {w W : World} {q : PartM} {p : PartV} (h : PartIs lo w q p) (hk : ∀ g, lo ≤ g → g < w.heap.size → W.heap[g]? = w.heap[g]?) : PartIs lo W q p := ⟨h.1, h.2.1.kept hk, h.2.2.kept hk⟩
/-- A list of parts. -/
def PartsAt (lo : Nat) (W : World) (v : Value) (ps : List PartV) : Prop := ∃ qs : List PartM, qs.length = ps.length ∧ RowAt shP lo W v qs ∧ ∀ (i : Nat) q p, qs[i]? = some q → ps[i]? = some p → PartIs lo W q p
theorem PartsAt.kept {lo : Nat} {w W : World} {v : Value} {ps : List PartV} (h : PartsAt lo w v ps) (hk : ∀ g, lo ≤ g → g < w.heap.size → W.heap[g]? = w.heap[g]?) : PartsAt lo W v ps := by
  obtain ⟨qs, h1, h2, h3⟩ := h
  exact ⟨qs, h1, h2.kept hk, fun i q p hq hp => (h3 i q p hq hp).kept hk⟩
/-- The value is a configuration that reads as C. -/
def ConfAt (lo : Nat) (W : World) (c : Value) (C : ConfV) : Prop := ∃ vp vw vo, c = .agg #[.int .i64 C.frame, .int .i64 C.quiet, vp, vw, vo] ∧ PartsAt lo W vp C.parts ∧ RowAt shW lo W vw C.wins ∧ RowAt shO lo W vo C.ports
theorem ConfAt.kept {lo : Nat} {w W : World} {c : Value} {C : ConfV} (h : ConfAt lo w c C) (hk : ∀ g, lo ≤ g → g < w.heap.size → W.heap[g]? = w.heap[g]?) : ConfAt lo W c C := by
  obtain ⟨vp, vw, vo, rfl, h1, h2, h3⟩ := h
  exact ⟨vp, vw, vo, rfl, h1.kept hk, h2.kept hk, h3.kept hk⟩
theorem keep_grown {lo : Nat} {w W : World} (hg : w.grownBy W none) : ∀ g, lo ≤ g → g < w.heap.size → W.heap[g]? = w.heap[g]? := fun g _ hlt => hg.block g hlt (by simp)
theorem keep_below {lo B : Nat} {w W : World} (hg : Below B w W) (hB : w.heap.size ≤ B) : ∀ g, lo ≤ g → g < w.heap.size → W.heap[g]? = w.heap[g]? := fun g _ hlt => hg.block g (by omega)
theorem PartsAt.grown {lo : Nat} {w W : World} {v : Value} {ps : List PartV} (h : PartsAt lo w v ps) (hg : w.grownBy W none) : PartsAt lo W v ps := h.kept (keep_grown hg)
theorem ConfAt.grown {lo : Nat} {w W : World} {v : Value} {C : ConfV} (h : ConfAt lo w v C) (hg : w.grownBy W none) : ConfAt lo W v C := h.kept (keep_grown hg)
theorem PartIs.mono {lo lo' : Nat} {w : World} {q : PartM} {p : PartV} (h : PartIs lo w q p) (hle : lo' ≤ lo) : PartIs lo' w q p := ⟨h.1, h.2.1.mono hle, h.2.2.mono hle⟩
theorem PartsAt.mono {lo lo' : Nat} {w : World} {v : Value} {ps : List PartV} (h : PartsAt lo w v ps) (hle : lo' ≤ lo) : PartsAt lo' w v ps := by
  obtain ⟨qs, h1, h2, h3⟩ := h
  exact ⟨qs, h1, h2.mono hle, fun i q p hq hp => (h3 i q p hq hp).mono hle⟩
theorem ConfAt.mono {lo lo' : Nat} {w : World} {v : Value} {C : ConfV} (h : ConfAt lo w v C) (hle : lo' ≤ lo) : ConfAt lo' w v C := by
  obtain ⟨vp, vw, vo, rfl, h1, h2, h3⟩ := h
  exact ⟨vp, vw, vo, rfl, h1.mono hle, h2.mono hle, h3.mono hle⟩

/-! Instructions, in the form of the round before. -/
def PReads (W : World) (v : Value) (zs : List Ins) : Prop :=
  ∃ a cap, v = .slice a zs.length cap ∧ (0 < zs.length → ∃ g o, a = some ⟨g, o, none⟩ ∧ ∀ i, i < zs.length → W.cell? ⟨g, o + i * 2, none⟩ = some (.int .i64 (zs[i]?.getD (0, 0)).1) ∧ W.cell? ⟨g, o + i * 2 + 1, none⟩ = some (.int .i64 (zs[i]?.getD (0, 0)).2))
theorem PReads.draws {W : World} {v : Value} {zs : List Ins} (h : PReads W v zs) (n : Nat) : PReads (W.drewN n) v zs := h
theorem PReads.grown {w W : World} {v : Value} {zs : List Ins} (h : PReads w v zs) (hg : w.grownBy W none) : PReads W v zs := by
  obtain ⟨a, cap, rfl, ha⟩ := h
  refine ⟨a, cap, rfl, fun hl => ?_⟩
  obtain ⟨g, o, rfl, hc⟩ := ha hl
  refine ⟨g, o, rfl, fun i hi => ?_⟩
  have hlt : g < w.heap.size := World.block_lt_of_cell? w ⟨g, o + i * 2, none⟩ (hc i hi).1
  have e := hg.block g hlt (by simp)
  exact ⟨(World.cell?_of_block (a := ⟨g, o + i * 2, none⟩) e).trans (hc i hi).1, (World.cell?_of_block (a := ⟨g, o + i * 2 + 1, none⟩) e).trans (hc i hi).2⟩
theorem preads_row {lo : Nat} {W : World} {v : Value} {zs : List Ins} (h : RowAt shI lo W v zs) : PReads W v zs := by
  obtain ⟨hl, a, cap, rfl, ha⟩ := h
  refine ⟨a, cap, rfl, fun h0 => ?_⟩
  obtain ⟨g, o, rfl, _, hc⟩ := ha h0
  refine ⟨g, o, rfl, fun i hi => ?_⟩
  have hx : zs[i]? = some zs[i] := List.getElem?_eq_getElem hi
  rw [hx]
  exact ⟨hc i _ hx 0 _ rfl, hc i _ hx 1 _ rfl⟩

/-! All of so many. -/
def allB (n : Nat) (f : Nat → Bool) : Bool := (List.range n).all f
theorem allB_true {n : Nat} {f : Nat → Bool} (h : ∀ i, i < n → f i = true) : allB n f = true := by
  unfold allB; rw [List.all_eq_true]; intro i hi; exact h i (List.mem_range.1 hi)
theorem allB_false {n : Nat} {f : Nat → Bool} {i : Nat} (hi : i < n) (h : f i = false) : allB n f = false := by
  unfold allB; rw [List.all_eq_false]; exact ⟨i, List.mem_range.2 hi, by rw [h]; simp⟩
theorem allB_of {n : Nat} {f : Nat → Bool} (h : allB n f = true) (i : Nat) (hi : i < n) : f i = true := by
  unfold allB at h; exact List.all_eq_true.1 h i (List.mem_range.2 hi)
theorem allB_congr {n : Nat} {f g : Nat → Bool} (h : ∀ i, i < n → f i = g i) : allB n f = allB n g := by
  cases hf : allB n f with
  | true => exact (allB_true (fun i hi => by rw [← h i hi]; exact allB_of hf i hi)).symm
  | false =>
    unfold allB at hf
    obtain ⟨i, hi, h2⟩ := List.all_eq_false.1 hf
    have hi := List.mem_range.1 hi
    exact (allB_false hi (by rw [← h i hi]; simpa using h2)).symm
end Go.Proofs.YtlppfocoonnpjaaGreatDoor

namespace Go.Proofs.YtlppfocoonnpjaaGreatDoor
open Go.RowKit
attribute [local go_sem] alloc_drewN setCell_drewN

/-- What the table has for the Arg of an operation; -1: how many instructions there are. -/
def opBelow (j : Nat) : Int := [1, 256, 16, 16, 16, 16, -1, -1, 1, 8, 8, 1].getD j 0
/-- The table of operations is there: each has a name, and what its Arg is below. -/
def Tab (W : World) : Prop := ∀ j, j < 12 → ∃ s : ByteArray, s.toList ≠ [] ∧ W.cell? ⟨0, j * 2, none⟩ = some (.string s) ∧ W.cell? ⟨0, j * 2 + 1, none⟩ = some (.int .i64 (opBelow j))
theorem Tab.draws {W : World} (h : Tab W) (n : Nat) : Tab (W.drewN n) := h
theorem Tab.pos {W : World} (h : Tab W) : 0 < W.heap.size := by
  obtain ⟨s, _, h1, _⟩ := h 0 (by decide)
  exact World.block_lt_of_cell? W ⟨0, 0 * 2, none⟩ h1
theorem Tab.kept {W W' : World} (h : Tab W) (e : W'.heap[0]? = W.heap[0]?) : Tab W' := fun j hj => by
  obtain ⟨s, hs, h1, h2⟩ := h j hj
  exact ⟨s, hs, (World.cell?_of_block (a := ⟨0, j * 2, none⟩) e).trans h1, (World.cell?_of_block (a := ⟨0, j * 2 + 1, none⟩) e).trans h2⟩
theorem Tab.grown {W W' : World} (h : Tab W) (hg : W.grownBy W' none) : Tab W' := h.kept (hg.block 0 h.pos (by simp))

/-- One of the Ops. -/
def isOpB (op : Int) : Bool := decide (0 ≤ op ∧ op < 12)
/-- What the Arg of an operation is below, in a program of so many. -/
def most (op : Int) (many : Int) : Int := if opBelow op.toNat = -1 then many else opBelow op.toNat

set_option maxHeartbeats 400000 in
theorem isOp_any (op : Int) (w : World) (hT : Tab w) :
    Calls Tryz.prog 124 #[.int .i64 op] w fun e w' => e = .returned (.bool (isOpB op)) ∧ w' = w := by
  by_cases h0 : 0 ≤ op
  · by_cases h1 : op < 12
    · have hd : isOpB op = true := decide_eq_true ⟨h0, h1⟩
      obtain ⟨j, rfl⟩ : ∃ j : Nat, op = j := ⟨op.toNat, by omega⟩
      obtain ⟨s, hs, hc, -⟩ := hT j (by omega)
      have hs2 : s.toList.isEmpty = false := by
        cases h : s.toList with
        | nil => exact absurd h hs
        | cons x r => rfl
      rw [hd]
      clear hd hs hT
      go_enter Tryz.func124, Tryz.ntmps124
      go_wp2
      go_ret
      exact ⟨rfl, rfl⟩
    · have hd : isOpB op = false := decide_eq_false (fun h => h1 h.2)
      rw [hd]
      clear hd hT
      go_enter Tryz.func124, Tryz.ntmps124
      go_wp2
      go_ret
      exact ⟨rfl, rfl⟩
  · have hd : isOpB op = false := decide_eq_false (fun h => h0 h.1)
    rw [hd]
    clear hd hT
    go_enter Tryz.func124, Tryz.ntmps124
    go_wp2
    go_ret
    exact ⟨rfl, rfl⟩

set_option maxHeartbeats 400000 in
theorem argBelow_any (op many : Int) (h0 : 0 ≤ op) (h1 : op < 12) (w : World) (hT : Tab w) :
    Calls Tryz.prog 125 #[.int .i64 op, .int .i64 many] w fun e w' => e = .returned (.int .i64 (most op many)) ∧ w' = w := by
  obtain ⟨j, rfl⟩ : ∃ j : Nat, op = j := ⟨op.toNat, by omega⟩
  obtain ⟨s, -, -, hc⟩ := hT j (by omega)
  unfold most
  rw [Int.toNat_natCast]
  generalize opBelow j = b at *
  clear hT
  by_cases hb : b = -1
  · subst hb
    rw [if_pos rfl]
    go_enter Tryz.func125, Tryz.ntmps125
    go_wp2
    go_ret
    exact ⟨rfl, rfl⟩
  · rw [if_neg hb]
    go_enter Tryz.func125, Tryz.ntmps125
    go_wp2
    go_ret
    exact ⟨rfl, rfl⟩
end Go.Proofs.YtlppfocoonnpjaaGreatDoor

namespace Go.Proofs.YtlppfocoonnpjaaGreatDoor
open Go.RowKit
attribute [local go_sem] alloc_drewN setCell_drewN

/-- May an instruction be, in a program of so many? -/
def insMay (many : Int) (x : Ins) : Bool := isOpB x.1 && (decide (0 ≤ x.2) && decide (x.2 < most x.1 many))

set_option maxRecDepth 100000 in
set_option maxHeartbeats 1000000 in
/-- The closure: may the instruction not be? -/
theorem not_any (x y : Int) (N cap : Nat) (a : Option Addr) (B : Nat) (w : World) (hT : Tab w) (hB : w.cell? ⟨B, 0, none⟩ = some (.slice a N cap)) :
    Calls Tryz.prog 123 #[.agg #[.int .i64 x, .int .i64 y], .pointer (some ⟨B, 0, none⟩)] w fun e w' => e = .returned (.bool (!insMay N (x, y))) ∧ w.grownBy w' none := by
  have hBl : B < w.heap.size := World.block_lt_of_cell? w ⟨B, 0, none⟩ hB
  have hne : B ≠ w.heap.size := by omega
  have hTa : Tab (w.alloc (.cells #[.int .i64 x, .int .i64 y] 144)) := hT.grown (World.grownBy_alloc _ _ _)
  have C1 := hide (fun n => isOp_any x _ (hTa.draws n))
  unfold insMay
  dsimp only
  cases h1 : isOpB x with
  | false =>
    rw [h1] at C1
    simp only [Bool.false_and, Bool.not_false]
    go_enter Tryz.func123, Tryz.ntmps123
    go_wp2
    go_quiet (first | (go_at_call 124; refine Calls.quiet_of_same (C1.out _)))
    go_wp2
    go_ret
    exact ⟨rfl, grownBy_trans (World.grownBy_alloc _ _ _) (grownBy_draws _ _ _)⟩
  | true =>
    rw [h1] at C1
    unfold isOpB at h1
    have h2 := of_decide_eq_true h1
    have C2 := hide (fun n => argBelow_any x N h2.1 h2.2 _ (hTa.draws n))
    clear h1 h2
    generalize most x N = m at *
    by_cases h3 : 0 ≤ y
    · by_cases h4 : y < m
      · rw [decide_eq_true h3, decide_eq_true h4]
        simp only [Bool.true_and, Bool.not_true]
        have h5 : decide (y < 0) = false := decide_eq_false (by omega)
        have h6 : decide (m ≤ y) = false := decide_eq_false (by omega)
        go_enter Tryz.func123, Tryz.ntmps123
        go_wp2
        go_quiet (first | (go_at_call 124; refine Calls.quiet_of_same (C1.out _)) | (go_at_call 125; refine Calls.quiet_of_same (C2.out _)))
        go_wp2
        go_ret
        exact ⟨rfl, grownBy_trans (World.grownBy_alloc _ _ _) (grownBy_draws _ _ _)⟩
      · rw [decide_eq_true h3, decide_eq_false h4]
        simp only [Bool.true_and, Bool.not_false]
        go_enter Tryz.func123, Tryz.ntmps123
        go_wp2
        go_quiet (first | (go_at_call 124; refine Calls.quiet_of_same (C1.out _)) | (go_at_call 125; refine Calls.quiet_of_same (C2.out _)))
        go_wp2
        go_ret
        exact ⟨rfl, grownBy_trans (World.grownBy_alloc _ _ _) (grownBy_draws _ _ _)⟩
    · rw [decide_eq_false h3]
      simp only [Bool.true_and, Bool.false_and, Bool.not_false]
      go_enter Tryz.func123, Tryz.ntmps123
      go_wp2
      go_quiet (first | (go_at_call 124; refine Calls.quiet_of_same (C1.out _)) | (go_at_call 125; refine Calls.quiet_of_same (C2.out _)))
      go_wp2
      go_ret
      exact ⟨rfl, grownBy_trans (World.grownBy_alloc _ _ _) (grownBy_draws _ _ _)⟩

set_option maxRecDepth 100000 in
set_option maxHeartbeats 1000000 in
/-- The library's IndexFunc, with that closure. -/
theorem index_any (v : Value) (zs : List Ins) (hz : zs.length ≤ 9223372036854775807) (B : Nat) (a : Option Addr) (cap : Nat) (w : World) (hT : Tab w) (hB : w.cell? ⟨B, 0, none⟩ = some (.slice a zs.length cap)) (hv : PReads w v zs) :
    Calls Tryz.prog 134 #[v, .func (.func 123) #[] #[.pointer (some ⟨B, 0, none⟩)]] w fun e w' => ∃ r : Int, e = .returned (.int .i64 r) ∧ decide (0 ≤ r) = (!zs.all (insMay zs.length)) ∧ w.grownBy w' none := by
  obtain ⟨va, vcap, rfl, ha⟩ := hv
  have HA := hide ha
  have HT := hide hT
  have HB := hide hB
  have hBl : B < w.heap.size := World.block_lt_of_cell? w ⟨B, 0, none⟩ hB
  clear ha hT hB
  have HR := hide (fun x : Bool => show zs.all (insMay zs.length) = x ↔ zs.all (insMay zs.length) = x from Iff.rfl)
  clear HR
  generalize hN : zs.length = N at *
  have HN := hide hN
  clear hN
  go_enter Tryz.func134, Tryz.ntmps134
  go_wp2
  go_loopw [5, 8] (fun _ i W => ∃ (j : Nat), j ≤ N ∧ i = .int .i64 j ∧ Hid (w.grownBy W none) ∧ Hid (∀ i, i < j → insMay N (zs[i]?.getD (0, 0)) = true)) (fun _ i _ => N - (intOf i).toNat)
  case atStart => exact ⟨0, by omega, rfl, grownBy_refl _ _, fun i hi => absurd hi (Nat.not_lt_zero _)⟩
  case round =>
    obtain ⟨j, hj, rfl, HG, HP⟩ := hrel
    by_cases hlt : j < N
    · obtain ⟨g, o, rfl, hc⟩ := HA.out (by omega)
      have hgl : g < w.heap.size := World.block_lt_of_cell? w ⟨g, o + j * 2, none⟩ (hc j hlt).1
      have c1 := (World.cell?_of_block (a := ⟨g, o + j * 2, none⟩) (HG.out.block g hgl (by simp))).trans (hc j hlt).1
      have c2 := (World.cell?_of_block (a := ⟨g, o + j * 2 + 1, none⟩) (HG.out.block g hgl (by simp))).trans (hc j hlt).2
      have hB2 := (World.cell?_of_block (a := ⟨B, 0, none⟩) (HG.out.block B hBl (by simp))).trans HB.out
      have C := not_any (zs[j]?.getD (0, 0)).1 (zs[j]?.getD (0, 0)).2 N cap a B wr (HT.out.grown HG.out) hB2
      rw [show ((zs[j]?.getD (0, 0)).1, (zs[j]?.getD (0, 0)).2) = zs[j]?.getD (0, 0) from rfl] at C
      have HJ := hide (show zs[j]?.getD (0, 0) = zs[j]?.getD (0, 0) from rfl)
      clear hB2 hc hgl
      generalize hm : insMay N (zs[j]?.getD (0, 0)) = m at C
      have HM := hide hm
      clear hm HJ
      generalize (zs[j]?.getD (0, 0)).1 = x at *
      generalize (zs[j]?.getD (0, 0)).2 = y at *
      have HC := hide C
      clear C
      cases m with
      | true =>
        go_wp2_with (first | fail)
        refine HC.out.mono ?_; rintro e w2 ⟨rfl, hg⟩
        have HG2 := hide (grownBy_trans HG.out hg)
        clear hg HG
        go_wp2
        go_roundw
        case rel =>
          refine ⟨j + 1, by omega, by go_num, HG2, fun i hi => ?_⟩
          rcases (by omega : i < j ∨ i = j) with h | rfl
          · exact HP.out i h
          · exact HM.out
        case measure => simp [intOf]; omega
      | false =>
        go_wp2_with (first | fail)
        refine HC.out.mono ?_; rintro e w2 ⟨rfl, hg⟩
        have HG2 := hide (grownBy_trans HG.out hg)
        clear hg HG
        go_wp2
        go_ret
        refine ⟨_, rfl, ?_, HG2.out⟩
        have hf : zs.all (insMay N) = false := by
          rw [List.all_eq_false]
          refine ⟨zs[j]?.getD (0, 0), ?_, by rw [HM.out]; simp⟩
          have hlz : j < zs.length := by rw [HN.out]; exact hlt
          rw [List.getElem?_eq_getElem hlz]
          exact List.getElem_mem hlz
        rw [hf]
        simp
    · go_wp2
      go_ret
      refine ⟨_, rfl, ?_, HG.out⟩
      have hf : zs.all (insMay N) = true := by
        rw [List.all_eq_true]
        intro x hx
        obtain ⟨i, hi, rfl⟩ := List.getElem_of_mem hx
        have := HP.out i (by have := HN.out; omega)
        rwa [List.getElem?_eq_getElem hi] at this
      rw [hf]
      rfl
end Go.Proofs.YtlppfocoonnpjaaGreatDoor

namespace Go.Proofs.YtlppfocoonnpjaaGreatDoor
open Go.RowKit
attribute [local go_sem] alloc_drewN setCell_drewN

/-- Is it a program? -/
def codeMay (zs : List Ins) : Bool := decide (zs.length ≤ 64) && zs.all (insMay zs.length)

set_option maxRecDepth 100000 in
set_option maxHeartbeats 1000000 in
theorem contains_any (v : Value) (zs : List Ins) (hz : zs.length ≤ 9223372036854775807) (B : Nat) (a : Option Addr) (cap : Nat) (w : World) (hT : Tab w) (hB : w.cell? ⟨B, 0, none⟩ = some (.slice a zs.length cap)) (hv : PReads w v zs) :
    Calls Tryz.prog 126 #[v, .func (.func 123) #[] #[.pointer (some ⟨B, 0, none⟩)]] w fun e w' => e = .returned (.bool (!zs.all (insMay zs.length))) ∧ w.grownBy w' none := by
  have C := hide (index_any v zs hz B a cap w hT hB hv)
  clear hT hB hv
  generalize (!zs.all (insMay zs.length)) = m at *
  go_enter Tryz.func126, Tryz.ntmps126
  go_wp2_with (first | fail)
  refine C.out.mono ?_; rintro e w' ⟨r, rfl, hr, hg⟩
  have HG := hide hg
  have HR := hide hr
  clear hg hr C
  go_wp2
  go_ret
  refine ⟨?_, HG.out⟩
  rw [← HR.out]
  rfl

set_option maxRecDepth 100000 in
set_option maxHeartbeats 1000000 in
theorem may_any (v : Value) (zs : List Ins) (hz : zs.length ≤ 9223372036854775807) (w : World) (hT : Tab w) (hv : PReads w v zs) :
    Calls Tryz.prog 106 #[v] w fun e w' => e = .returned (.bool (codeMay zs)) ∧ w.grownBy w' none := by
  have hmf : ∀ (fn : Fn) (first cap : Array Value) (w : World), (Instr.makeFunc fn first cap).run Tryz.prog w = .ok (.func fn first cap) w := fun _ _ _ _ => rfl
  have hg0 : w.grownBy (w.alloc (.cells #[v] 23)) none := World.grownBy_alloc _ _ _
  have C := hide (fun (a : Option Addr) (cap : Nat) (e : v = .slice a zs.length cap) => contains_any v zs hz w.heap.size a cap (w.alloc (.cells #[v] 23)) (hT.grown hg0) (by simp [e]) (hv.grown hg0))
  clear hT hg0
  unfold codeMay
  obtain ⟨va, vcap, rfl, -⟩ := hv
  generalize zs.all (insMay zs.length) = m at *
  generalize zs.length = N at *
  by_cases hN : N ≤ 64
  · rw [decide_eq_true hN]
    simp only [Bool.true_and]
    go_enter Tryz.func106, Tryz.ntmps106
    go_wp2_with (go_at_call 126; refine (C.out va vcap rfl).mono ?_; rintro e w2 ⟨rfl, hg⟩)
    go_ret
    refine ⟨by simp, grownBy_trans (World.grownBy_alloc _ _ _) hg⟩
  · rw [decide_eq_false hN]
    simp only [Bool.false_and]
    go_enter Tryz.func106, Tryz.ntmps106
    go_wp2
    go_ret
    exact ⟨rfl, World.grownBy_alloc _ _ _⟩
#print axioms may_any
end Go.Proofs.YtlppfocoonnpjaaGreatDoor
