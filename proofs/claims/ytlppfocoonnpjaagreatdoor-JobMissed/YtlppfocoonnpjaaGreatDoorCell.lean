/- Rows and blocks of a schedule: cells written, new values, events: what both sides lean on. -/
import Derived.Test.YtlppfocoonnpjaaGreatDoorLmod
import Derived.Test.YtlppfocoonnpjaaGreatDoorJOwn
import Derived.Test.YtlppfocoonnpjaaGreatDoorJRowlaw
namespace Go.Proofs.YtlppfocoonnpjaaGreatDoor.L
open Go.RowKit
open Go.Proofs.YtlppfocoonnpjaaGreatDoor.J (JobV jobAt jobMay rowMay TypeAt own_type box_type type_box type_own own_mono Far far_new far_nil blk_cell blk_free blk_set box_lt box_grown)

/-- Events that a call made from block base on. -/
def OwnE (base : Nat) (W : World) (v : Value) (es : List EvV) : Prop := W.ownsRow base 68 4 v es.length (shE.cells es)
theorem OwnE.row {base : Nat} {W : World} {v : Value} {es : List EvV} (h : OwnE base W v es) : RowAt shE base W v es := rowAt_own (S := shE) h
theorem OwnE.grown {base : Nat} {W W' : World} {v : Value} {es : List EvV} (h : OwnE base W v es) (hg : W.grownBy W' none) : OwnE base W' v es := own_kept h hg
theorem ownE_nil (base : Nat) (W : World) : OwnE base W (.slice none 0 0) [] := World.ownsRow_nil W base 68 4
/-- The blocks of a new value are the old one's, or new. -/
def OrNew (B : Nat) (v v' : Value) : Prop := ∀ k, v'.ownBlock = some k → k < B → v.ownBlock = some k
theorem OrNew.refl (B : Nat) (v : Value) : OrNew B v v := fun _ h _ => h
theorem OrNew.trans {B B' : Nat} {v v' v'' : Value} (h : OrNew B v v') (h' : OrNew B' v' v'') (hb : B ≤ B') : OrNew B v v'' := fun k hk hkb => h k (h' k hk (Nat.lt_of_lt_of_le hkb hb)) hkb
theorem orNew_new {B base e s n : Nat} {W : World} {v v' : Value} {xs : List Value} (h : W.ownsRow base e s v' n xs) (hb : B ≤ base) : OrNew B v v' := fun k hk hkb => absurd (World.ownsRow.lt h k hk).1 (by omega)
theorem cells_set {α : Type} (S : Shape α) : ∀ (xs : List α) (j : Nat) (x x' : α) (i : Nat) (u : Value), xs[j]? = some x → i < S.k → S.f x' = (S.f x).set i u → (S.cells xs).set (j * S.k + i) u = S.cells (xs.set j x')
  | [], j, x, x', i, u, h, _, _ => by simp at h
  | y :: ys, 0, x, x', i, u, h, hi, e => by
    simp only [List.getElem?_cons_zero, Option.some.injEq] at h
    subst h
    rw [List.set_cons_zero, S.cells_cons, S.cells_cons, e, Nat.zero_mul, Nat.zero_add, List.set_append_left _ _ (by rw [S.len]; exact hi)]
  | y :: ys, j + 1, x, x', i, u, h, hi, e => by
    simp only [List.getElem?_cons_succ] at h
    rw [List.set_cons_succ, S.cells_cons, S.cells_cons, ← cells_set S ys j x x' i u h hi e]
    rw [show (j + 1) * S.k + i = (S.f y).length + (j * S.k + i) by rw [S.len, Nat.add_mul]; omega]
    rw [List.set_append_right _ _ (Nat.le_add_right _ _), Nat.add_sub_cancel_left]
theorem blk_set3 {W : World} {b t j : Nat} {fr : Nat × Nat} {u : Value} {cs cs' : Array Value} (h : W.heap[b]? = some (.cells cs t fr)) (e : cs.setIfInBounds j u = cs') : (W.setCell ⟨b, j, none⟩ u).heap[b]? = some (.cells cs' t fr) := by
  subst e
  simp [World.setCell, Array.getElem?_modify, h]
/-- One cell of one element written. -/
theorem own_set {α : Type} {S : Shape α} {W : World} {base e g n cap : Nat} {xs : List α} (h : W.ownsRow base e S.k (.slice (some ⟨g, 0, none⟩) n cap) n (S.cells xs)) {j : Nat} {x : α} (hx : xs[j]? = some x) {i : Nat} (hi : i < S.k) {u : Value} {x' : α} (hu : S.f x' = (S.f x).set i u) : (W.setCell ⟨g, j * S.k + i, none⟩ u).ownsRow base e S.k (.slice (some ⟨g, 0, none⟩) n cap) n (S.cells (xs.set j x')) := by
  refine ⟨by rw [← cells_set S xs j x x' i u hx hi hu, List.length_set]; exact h.1, ?_⟩
  rcases h.2 with ⟨h1, _⟩ | ⟨g', cap', cur, h1, hb, hc, h2, h3, h4, h5⟩
  · cases h1
  · simp only [Value.slice.injEq, Option.some.injEq, Addr.mk.injEq] at h1
    obtain ⟨⟨rfl, -, -⟩, -, rfl⟩ := h1
    refine .inr ⟨g, cap, cur.setIfInBounds (j * S.k + i) u, rfl, hb, ?_, h2, h3, by simpa using h4, ?_⟩
    · exact blk_set3 hc rfl
    · rw [Array.toList_setIfInBounds, List.take_set, h5]
      exact cells_set S xs j x x' i u hx hi hu
theorem own_free {W : World} {base e k g n cap : Nat} {xs : List Value} (h : W.ownsRow base e k (.slice (some ⟨g, 0, none⟩) n cap) n xs) (j : Nat) : W.frozen? ⟨g, j, none⟩ = false := by
  rcases h.2 with ⟨h1, _⟩ | ⟨g', cap', cur, h1, hb, hc, _⟩
  · cases h1
  · simp only [Value.slice.injEq, Option.some.injEq, Addr.mk.injEq] at h1
    obtain ⟨⟨rfl, -, -⟩, -⟩ := h1
    exact blk_free hc _
theorem own_cell {α : Type} {S : Shape α} {W : World} {base e g n cap : Nat} {xs : List α} (h : W.ownsRow base e S.k (.slice (some ⟨g, 0, none⟩) n cap) n (S.cells xs)) {j : Nat} {x : α} (hx : xs[j]? = some x) {i : Nat} {u : Value} (hu : (S.f x)[i]? = some u) : W.cell? ⟨g, j * S.k + i, none⟩ = some u := by
  have h2 := h.cells (g := g) rfl _ _ (S.cells_get xs j x hx i u hu)
  rw [Go.WideShapes.add_plain, Nat.zero_add] at h2
  exact h2
theorem own_ge {W : World} {base e k g n cap : Nat} {xs : List Value} (h : W.ownsRow base e k (.slice (some ⟨g, 0, none⟩) n cap) n xs) : base ≤ g ∧ g < W.heap.size := by
  rcases h.2 with ⟨h1, _⟩ | ⟨g', cap', cur, h1, hb, hc, _⟩
  · cases h1
  · simp only [Value.slice.injEq, Option.some.injEq, Addr.mk.injEq] at h1
    obtain ⟨⟨rfl, -, -⟩, -⟩ := h1
    exact ⟨hb, (Array.getElem?_eq_some_iff.1 hc).1⟩
/-- A row that is not empty lies in a block from its first cell on. -/
theorem own_at {W : World} {base e k n : Nat} {v : Value} {xs : List Value} (h : W.ownsRow base e k v n xs) (hn : 0 < n) : ∃ g cap, v = .slice (some ⟨g, 0, none⟩) n cap ∧ n ≤ cap := by
  rcases h.2 with ⟨_, h1⟩ | ⟨g, cap, cur, h1, hb, hc, h2, _⟩
  · omega
  · exact ⟨g, cap, h1, h2⟩
theorem sizeE : (Tryz.prog.info? 68).map (·.size) = some 4 := by kernel_rfl
theorem infoE : (Tryz.prog.info? 68).map (fun i => (i.zero, i.size, i.bytes)) = some (some (.agg #[.int .i64 0, .int .i64 0, .int .i64 0, .int .i64 0]), 4, 32) := by kernel_rfl
theorem own_off0 {base g o e size n cap : Nat} {W : World} {xs : List Value} (h : W.ownsRow base e size (.slice (some ⟨g, o, none⟩) n cap) n xs) : o = 0 := by
  rcases h.2 with ⟨h', _⟩ | ⟨g', cap', cur, h', _⟩
  · simp at h'
  · simp at h'; exact h'.1.2
theorem ev_lit (w : World) (e : EvV) : (w.alloc (.cells #[.int .i64 e.kind, .int .i64 e.part, .int .i64 e.task, .int .i64 e.val] 68)).ownsRow w.heap.size 68 4 (.slice (some ⟨w.heap.size, 0, none⟩) 1 1) 1 (shE.cells [e]) := World.ownsRow_lit w #[.int .i64 e.kind, .int .i64 e.part, .int .i64 e.task, .int .i64 e.val] 1 (Nat.le_refl _) (by unfold maxLen; omega) (by simp)
theorem far_fresh {W W' : World} {base e s n e2 s2 n2 : Nat} {v vq : Value} {xs ys : List Value} (hq : W.ownsRow base e s vq n xs) (ho : W'.ownsRow W.heap.size e2 s2 v n2 ys) : Far v vq := fun g h1 h2 => by
  have a := (World.ownsRow.lt ho g h1).1
  have b := (World.ownsRow.lt hq g h2).2
  omega
#print axioms own_set
end Go.Proofs.YtlppfocoonnpjaaGreatDoor.L
