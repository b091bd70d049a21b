/- A cell of an owned row written over, told by the row's elements: nothing of the program's functions. -/
import Derived.Test.YtehnklpjkcofcaaDoorCopy
namespace Go.Proofs.YtehnklpjkcofcaaDoor
open Go.RowKit

theorem Shape.cells_set {α : Type} (S : Shape α) : ∀ (xs : List α) (j : Nat) (x x' : α) (i : Nat) (u : Value), xs[j]? = some x → i < S.k → S.f x' = (S.f x).set i u → (S.cells xs).set (j * S.k + i) u = S.cells (xs.set j x')
  | [], j, x, x', i, u, h, _, _ => by simp at h
  | y :: ys, 0, x, x', i, u, h, hi, e => by
    simp only [List.getElem?_cons_zero, Option.some.injEq] at h
    subst h
    rw [List.set_cons_zero, S.cells_cons, S.cells_cons, e, Nat.zero_mul, Nat.zero_add, List.set_append_left _ _ (by rw [S.len]; exact hi)]
  | y :: ys, j + 1, x, x', i, u, h, hi, e => by
    simp only [List.getElem?_cons_succ] at h
    rw [List.set_cons_succ, S.cells_cons, S.cells_cons, ← Shape.cells_set S ys j x x' i u h hi e]
    rw [show (j + 1) * S.k + i = (S.f y).length + (j * S.k + i) by rw [S.len, Nat.add_mul]; omega]
    rw [List.set_append_right _ _ (Nat.le_add_right _ _), Nat.add_sub_cancel_left]
theorem blk_set3 {W : World} {b t j : Nat} {fr : Nat × Nat} {u : Value} {cs cs' : Array Value} (h : W.heap[b]? = some (.cells cs t fr)) (e : cs.setIfInBounds j u = cs') : (W.setCell ⟨b, j, none⟩ u).heap[b]? = some (.cells cs' t fr) := by
  subst e
  simp [World.setCell, Array.getElem?_modify, h]
/-- One cell of one element written. -/
theorem own_set {α : Type} {S : Shape α} {W : World} {base e g n cap : Nat} {xs : List α} (h : W.ownsRow base e S.k (.slice (some ⟨g, 0, none⟩) n cap) n (S.cells xs)) {j : Nat} {x : α} (hx : xs[j]? = some x) {i : Nat} (hi : i < S.k) {u : Value} {x' : α} (hu : S.f x' = (S.f x).set i u) : (W.setCell ⟨g, j * S.k + i, none⟩ u).ownsRow base e S.k (.slice (some ⟨g, 0, none⟩) n cap) n (S.cells (xs.set j x')) := by
  refine ⟨by rw [← S.cells_set xs j x x' i u hx hi hu, List.length_set]; exact h.1, ?_⟩
  rcases h.2 with ⟨h1, _⟩ | ⟨g', cap', cur, h1, hb, hc, h2, h3, h4, h5⟩
  · cases h1
  · simp only [Value.slice.injEq, Option.some.injEq, Addr.mk.injEq] at h1
    obtain ⟨⟨rfl, -, -⟩, -, rfl⟩ := h1
    refine .inr ⟨g, cap, cur.setIfInBounds (j * S.k + i) u, rfl, hb, ?_, h2, h3, by simpa using h4, ?_⟩
    · exact blk_set3 hc rfl
    · rw [Array.toList_setIfInBounds, List.take_set, h5]
      exact S.cells_set xs j x x' i u hx hi hu
theorem own_free {W : World} {base e k g n cap : Nat} {xs : List Value} (h : W.ownsRow base e k (.slice (some ⟨g, 0, none⟩) n cap) n xs) (j : Nat) : W.frozen? ⟨g, j, none⟩ = false := by
  rcases h.2 with ⟨h1, _⟩ | ⟨g', cap', cur, h1, hb, hc, _⟩
  · cases h1
  · simp only [Value.slice.injEq, Option.some.injEq, Addr.mk.injEq] at h1
    obtain ⟨⟨rfl, -, -⟩, -⟩ := h1
    exact blk_free hc _
theorem own_cell {α : Type} {S : Shape α} {W : World} {base e g n cap : Nat} {xs : List α} (h : W.ownsRow base e S.k (.slice (some ⟨g, 0, none⟩) n cap) n (S.cells xs)) {j : Nat} {x : α} (hx : xs[j]? = some x) {i : Nat} {u : Value} (hu : (S.f x)[i]? = some u) : W.cell? ⟨g, j * S.k + i, none⟩ = some u := by
  have h2 := h.cells (g := g) rfl _ _ (S.cells_get xs j x hx i u hu)
  rw [Go.WideShapes.add_plain, Nat.zero_add] at h2
  exact h2
theorem own_ge {W : World} {base e k g n cap : Nat} {xs : List Value} (h : W.ownsRow base e k (.slice (some ⟨g, 0, none⟩) n cap) n xs) : base ≤ g := by
  rcases h.2 with ⟨h1, _⟩ | ⟨g', cap', cur, h1, hb, hc, _⟩
  · cases h1
  · simp only [Value.slice.injEq, Option.some.injEq, Addr.mk.injEq] at h1
    obtain ⟨⟨rfl, -, -⟩, -⟩ := h1
    exact hb
#print axioms own_set
#print axioms own_cell
end Go.Proofs.YtehnklpjkcofcaaDoor
