/- Lemmas on worlds, on rows of elements of k cells and of bytes, and append's law at the seat's own types: nothing of the program's functions. -/
import Derived.Test.YtiffpmleeaenjaaRows
import Derived.WalkKit
import Derived.WalkSpells
import Derived.WalkLawsBesides
import Derived.RegionTactic
import Derived.BigQuiet
import Derived.Deep.QuietTactic
import Derived.Deep.AppendLies
import Derived.Deep.RegionWith
import Derived.Deep.DrawnRows
import Derived.Deep.DeepFit
import Derived.Laws.BytesArg
import Derived.Deep.CutBlock
import Derived.Deep.DeepCutAuto
import Derived.Maps.AppendAt
import Derived.Deep.RegionHeld3
namespace Go.Proofs.Ytiffpmleeaenjaa
open Go.RowKit

theorem hide {p : Prop} (h : p) : Hid p := h
theorem alloc_drewN (w : World) (n : Nat) (o : Obj) : (w.drewN n).alloc o = (w.alloc o).drewN n := rfl
theorem setCell_drewN (w : World) (n : Nat) (a : Addr) (v : Value) : (w.drewN n).setCell a v = (w.setCell a v).drewN n := rfl

/-! Worlds that have grown. -/
theorem grownBy_draws (w : World) (n : Nat) (r : Option Nat) : w.grownBy (w.drewN n) r := ⟨rfl, rfl, rfl, Nat.le_refl _, fun _ _ _ => rfl⟩
theorem grownBy_set (w : World) (b j : Nat) (u : Value) : w.grownBy (w.setCell ⟨b, j, none⟩ u) (some b) :=
  ⟨rfl, rfl, rfl, by simp [World.setCell], fun k _ hk => Below.heap_setCell _ _ _ _ (fun e => hk (by rw [e]))⟩
theorem grownBy_trans {a b c : World} {r : Option Nat} (h : a.grownBy b r) (h' : b.grownBy c r) : a.grownBy c r :=
  ⟨h'.os.trans h.os, h'.tape.trans h.tape, h'.output.trans h.output, Nat.le_trans h.size h'.size, fun k hk hn => (h'.block k (Nat.lt_of_lt_of_le hk h.size) hn).trans (h.block k hk hn)⟩
theorem grownBy_any {a b : World} {r : Option Nat} (h : a.grownBy b none) : a.grownBy b r := ⟨h.os, h.tape, h.output, h.size, fun k hk _ => h.block k hk (by simp)⟩
theorem grownBy_refl (w : World) (r : Option Nat) : w.grownBy w r := ⟨rfl, rfl, rfl, Nat.le_refl _, fun _ _ _ => rfl⟩
theorem below_of_grown {a b : World} (h : a.grownBy b none) : Below a.heap.size a b := ⟨h.os, h.tape, h.output, h.size, fun k hk => h.block k hk (by simp)⟩
theorem grown_of_below {a b : World} (h : Below a.heap.size a b) : a.grownBy b none := ⟨h.os, h.tape, h.output, h.size, fun k hk _ => h.block k hk⟩
theorem grown_below {B b : Nat} {w w' w'' : World} (h : Below B w w') (hg : w'.grownBy w'' (some b)) (hB : B ≤ w'.heap.size) (hb : B ≤ b) : Below B w w'' :=
  h.grown hg hB (fun k hk => by cases hk; exact hb)
theorem grown_below0 {B : Nat} {w w' w'' : World} (h : Below B w w') (hg : w'.grownBy w'' none) (hB : B ≤ w'.heap.size) : Below B w w'' :=
  h.grown hg hB (fun k hk => by cases hk)
theorem grown_new {w W : World} (h : w.grownBy W none) (j : Nat) (u : Value) : w.grownBy (W.setCell ⟨w.heap.size, j, none⟩ u) none :=
  ⟨h.os, h.tape, h.output, by simpa [World.setCell] using h.size, fun k hk hn => (Below.heap_setCell _ _ _ _ (by simp; omega)).trans (h.block k hk hn)⟩
/-- What is made new and then written over: nothing old has turned. -/
theorem grown_spoil {w w1 w2 : World} {g : Nat} (h : w.grownBy w1 none) (hg : w.heap.size ≤ g) (h' : w1.grownBy w2 (some g)) : w.grownBy w2 none :=
  ⟨h'.os.trans h.os, h'.tape.trans h.tape, h'.output.trans h.output, Nat.le_trans h.size h'.size, fun k hk _ => (h'.block k (Nat.lt_of_lt_of_le hk h.size) (by simp; omega)).trans (h.block k hk (by simp))⟩
theorem other (W : World) (b j i : Nat) (u : Value) (h : i ≠ j) : (W.setCell ⟨b, i, none⟩ u).cell? ⟨b, j, none⟩ = W.cell? ⟨b, j, none⟩ :=
  World.cell?_setCell_other _ _ _ _ (fun e => absurd (congrArg Addr.off e) h)

/-! Rows that a call owns. -/
theorem own_kept {w w' : World} {base e size n : Nat} {v : Value} {xs : List Value} (h : w.ownsRow base e size v n xs) (hg : w.grownBy w' none) : w'.ownsRow base e size v n xs :=
  h.kept hg (by cases v.ownBlock <;> simp)
theorem own_draws {w : World} {base e size n : Nat} {v : Value} {xs : List Value} (h : w.ownsRow base e size v n xs) (m : Nat) : (w.drewN m).ownsRow base e size v n xs := own_kept h (grownBy_draws _ _ _)
theorem own_form {w : World} {base e size n : Nat} {v : Value} {xs : List Value} (h : w.ownsRow base e size v n xs) : ∃ a cap, v = .slice a n cap := by
  rcases h.2 with ⟨rfl, rfl⟩ | ⟨g, cap, cur, rfl, _⟩
  · exact ⟨_, _, rfl⟩
  · exact ⟨_, _, rfl⟩
/-- A row that is owned from base on keeps while a block below base is written. -/
theorem own_off {W W1 : World} {base e size n g : Nat} {v : Value} {xs : List Value} (h : W.ownsRow base e size v n xs) (hg : W.grownBy W1 (some g)) (hb : g < base) : W1.ownsRow base e size v n xs :=
  h.kept hg (by right; intro e; have := (h.lt g e).1; omega)
/-- Behind an append onto a row that is owned from b + 1 on: up to b all is as it was. -/
theorem below_of_own {w w1 : World} {b m : Nat} {v : Value} {o : Obj} (hb : b < w.heap.size) (hlt : ∀ g, v.ownBlock = some g → b + 1 ≤ g) (hgrow : ((w.alloc o).drewN m).grownBy w1 v.ownBlock) : Below (b + 1) w w1 := by
  refine (below_drewN ((Below.refl (b + 1) w).alloc hb o) m).grown hgrow (by simp; omega) ?_
  intro g hg
  exact hlt g hg
/-- Where an owned row that is not empty lies. -/
theorem own_cap {W : World} {base e size n : Nat} {a : Option Addr} {cap : Nat} {xs : List Value} (h : W.ownsRow base e size (.slice a n cap) n xs) (hn : 0 < n) : ∃ g, a = some ⟨g, 0, none⟩ ∧ base ≤ g ∧ n ≤ cap ∧ cap ≤ 9223372036854775807 := by
  rcases h.2 with ⟨_, h0⟩ | ⟨g, cap, cur, hv, hb, _, h1, h2, _⟩
  · omega
  · simp only [Value.slice.injEq, true_and] at hv
    obtain ⟨rfl, rfl⟩ := hv
    unfold maxLen at h2
    exact ⟨g, rfl, hb, h1, h2⟩

/-! grown_append, from the rounds before. -/
/-- Behind an append onto what is owned from base on: from w on nothing old has turned. -/
theorem grown_append {w w1 w2 : World} {m : Nat} {v : Value} {o : Obj} (h : w.grownBy w1 none) (hlt : ∀ g, v.ownBlock = some g → w.heap.size ≤ g) (hgrow : ((w1.alloc o).drewN m).grownBy w2 v.ownBlock) : w.grownBy w2 none := by
  have h2 : w.grownBy ((w1.alloc o).drewN m) none := grownBy_trans h (grownBy_trans (World.grownBy_alloc _ _ _) (grownBy_draws _ _ _))
  cases hv : v.ownBlock with
  | none => rw [hv] at hgrow; exact grownBy_trans h2 hgrow
  | some g => rw [hv] at hgrow; exact grown_spoil h2 (hlt g hv) hgrow

/-! Rows of elements of k cells each. -/
structure Shape (α : Type) where
  k : Nat
  f : α → List Value
  len : ∀ x, (f x).length = k
  pos : 0 < k
  one : ∀ x, ∀ u ∈ f x, u.oneCell' = true
section rows
variable {α : Type} (S : Shape α)
def Shape.cells (xs : List α) : List Value := xs.flatMap S.f
theorem Shape.cells_cons (x : α) (xs : List α) : S.cells (x :: xs) = S.f x ++ S.cells xs := by simp [Shape.cells]
theorem Shape.cells_length (xs : List α) : (S.cells xs).length = xs.length * S.k := by
  induction xs with
  | nil => simp [Shape.cells]
  | cons z zs ih => rw [S.cells_cons, List.length_append, S.len, ih, List.length_cons, Nat.add_mul]; omega
theorem Shape.cells_append (xs ys : List α) : S.cells (xs ++ ys) = S.cells xs ++ S.cells ys := by simp [Shape.cells]
theorem Shape.cells_get : ∀ (xs : List α) (i : Nat) (x : α), xs[i]? = some x → ∀ j u, (S.f x)[j]? = some u → (S.cells xs)[i * S.k + j]? = some u
  | [], i, x, h => by simp at h
  | y :: ys, 0, x, h => fun j u hu => by
    simp only [List.getElem?_cons_zero, Option.some.injEq] at h
    subst h
    rw [S.cells_cons, Nat.zero_mul, Nat.zero_add, List.getElem?_append_left]
    · exact hu
    · rcases Nat.lt_or_ge j (S.f y).length with h' | h'
      · exact h'
      · rw [List.getElem?_eq_none h'] at hu; cases hu
  | y :: ys, i + 1, x, h => fun j u hu => by
    simp only [List.getElem?_cons_succ] at h
    rw [S.cells_cons, List.getElem?_append_right (by rw [S.len, Nat.add_mul]; omega), S.len, show (i + 1) * S.k + j - S.k = i * S.k + j by rw [Nat.add_mul]; omega]
    exact Shape.cells_get ys i x h j u hu
theorem Shape.cells_at : ∀ (xs : List α) (m : Nat) (u : Value), (S.cells xs)[m]? = some u → ∃ i j x, m = i * S.k + j ∧ xs[i]? = some x ∧ (S.f x)[j]? = some u
  | [], m, u, h => by simp [Shape.cells] at h
  | y :: ys, m, u, h => by
    rw [S.cells_cons] at h
    rcases Nat.lt_or_ge m (S.f y).length with hm | hm
    · rw [List.getElem?_append_left hm] at h
      exact ⟨0, m, y, by omega, rfl, h⟩
    · rw [List.getElem?_append_right hm] at h
      obtain ⟨i, j, x, e, h1, h2⟩ := Shape.cells_at ys _ _ h
      refine ⟨i + 1, j, x, ?_, by simpa using h1, h2⟩
      rw [S.len] at e hm
      rw [Nat.add_mul]; omega
theorem Shape.cells_one (xs : List α) : ∀ u ∈ S.cells xs, u.oneCell' = true := by
  intro u hu
  obtain ⟨x, _, hx⟩ := List.mem_flatMap.1 hu
  exact S.one x u hx
theorem Shape.first (x : α) : ∃ u, (S.f x)[0]? = some u := by
  have h := S.len x
  have p := S.pos
  cases hf : S.f x with
  | nil => rw [hf] at h; simp at h; omega
  | cons u r => exact ⟨u, rfl⟩

/-- The value is a slice that reads as these elements; it lies in no block below lo. -/
def RowAt (lo : Nat) (W : World) (v : Value) (xs : List α) : Prop :=
  xs.length ≤ 9223372036854775807 ∧ ∃ a cap, v = .slice a xs.length cap ∧ (0 < xs.length → ∃ g o, a = some ⟨g, o, none⟩ ∧ (lo ≤ g ∧ xs.length ≤ cap) ∧ ∀ i x, xs[i]? = some x → ∀ j u, (S.f x)[j]? = some u → W.cell? ⟨g, o + i * S.k + j, none⟩ = some u)
variable {S}
theorem RowAt.kept {lo : Nat} {w W : World} {v : Value} {xs : List α} (h : RowAt S lo w v xs) (hk : ∀ g, lo ≤ g → g < w.heap.size → W.heap[g]? = w.heap[g]?) : RowAt S lo W v xs := by
  obtain ⟨hl, a, cap, rfl, ha⟩ := h
  refine ⟨hl, a, cap, rfl, fun h0 => ?_⟩
  obtain ⟨g, o, rfl, hlo, hc⟩ := ha h0
  refine ⟨g, o, rfl, hlo, fun i x hx j u hu => ?_⟩
  have h1 := hc i x hx j u hu
  have hlt : g < w.heap.size := World.block_lt_of_cell? w _ h1
  exact (World.cell?_of_block (a := ⟨g, o + i * S.k + j, none⟩) (hk g hlo.1 hlt)).trans h1
theorem RowAt.grown {lo : Nat} {w W : World} {v : Value} {xs : List α} (h : RowAt S lo w v xs) (hg : w.grownBy W none) : RowAt S lo W v xs := h.kept fun g _ hlt => hg.block g hlt (by simp)
theorem RowAt.off {lo b : Nat} {w W : World} {v : Value} {xs : List α} (h : RowAt S lo w v xs) (hg : w.grownBy W (some b)) (hb : b < lo) : RowAt S lo W v xs := h.kept fun g hlo hlt => hg.block g hlt (by simp; omega)
theorem RowAt.below {lo B : Nat} {w W : World} {v : Value} {xs : List α} (h : RowAt S lo w v xs) (hg : Below B w W) (hb : w.heap.size ≤ B) : RowAt S lo W v xs := h.kept fun g _ hlt => hg.block g (by omega)
theorem RowAt.mono {lo lo' : Nat} {w : World} {v : Value} {xs : List α} (h : RowAt S lo w v xs) (hle : lo' ≤ lo) : RowAt S lo' w v xs := by
  obtain ⟨hl, a, cap, rfl, ha⟩ := h
  refine ⟨hl, a, cap, rfl, fun h0 => ?_⟩
  obtain ⟨g, o, rfl, hlo, hc⟩ := ha h0
  exact ⟨g, o, rfl, ⟨by omega, hlo.2⟩, hc⟩
theorem RowAt.draws {lo : Nat} {w : World} {v : Value} {xs : List α} (h : RowAt S lo w v xs) (n : Nat) : RowAt S lo (w.drewN n) v xs := h
theorem rowAt_own {e base : Nat} {w : World} {v : Value} {xs : List α} (h : w.ownsRow base e S.k v xs.length (S.cells xs)) : RowAt S base w v xs := by
  have hmax : maxLen = 9223372036854775807 := rfl
  rcases h.2 with ⟨rfl, h0⟩ | ⟨g, cap, cur, rfl, hb, hc, h1, h2, h3, h4⟩
  · exact ⟨by omega, none, 0, by rw [h0], fun h => by omega⟩
  · refine ⟨by omega, _, cap, rfl, fun h0 => ⟨g, 0, rfl, ⟨hb, h1⟩, fun i x hx j u hu => ?_⟩⟩
    have hg := S.cells_get xs i x hx j u hu
    have := h.cells (g := g) rfl _ _ hg
    rw [Go.WideShapes.add_plain] at this
    rw [show 0 + i * S.k + j = 0 + (i * S.k + j) by omega]
    exact this
theorem rowAt_nil (lo : Nat) (W : World) (a : Option Addr) (c : Nat) : RowAt S lo W (.slice a 0 c) ([] : List α) := ⟨by simp, a, c, rfl, fun h => by simp at h⟩
theorem rowAt_lit (w : World) (xs : List α) (t : Nat) (hl : xs.length ≤ 9223372036854775807) : RowAt S w.heap.size (w.alloc (.cells (S.cells xs).toArray t)) (.slice (some ⟨w.heap.size, 0, none⟩) xs.length xs.length) xs := by
  refine ⟨hl, _, _, rfl, fun _ => ⟨w.heap.size, 0, rfl, ⟨Nat.le_refl _, Nat.le_refl _⟩, fun i x hx j u hu => ?_⟩⟩
  have := S.cells_get xs i x hx j u hu
  rw [Nat.zero_add]
  simpa using this

/-- append of elements onto a row that is owned. -/
theorem app_row {ops : Array Oper} {rest : List Oper} {o : Oper} {a : Act} {Q : Exit → Act → World → Prop} (w : World) (hgd : o.guard = none) (s x : Operand) (t e : TypeId) (z : Value) (bytes : Nat)
    (ht : Try.prog.underlying t = some (.slice e)) (hinfo : (Try.prog.info? e).map (fun i => (i.zero, i.size, i.bytes)) = some (some z, S.k, bytes)) (hzs : z.cells.size = S.k)
    (ho : o.op = .call { callee := .builtin .append, args := #[s, x], argTypes := #[t, t] })
    (base : Nat) (v : Value) (n : Nat) (xs : List α) (hs : a.eval s = v) (hown : w.ownsRow base e S.k v n (S.cells xs))
    (ad : Addr) (m c : Nat) (ys : List α) (hx : a.eval x = .slice (some ad) m c) (hl : ys.length = m) (hcells : ∀ i y, ys[i]? = some y → ∀ j u, (S.f y)[j]? = some u → w.cell? (ad.add (i * S.k + j)) = some u)
    (hlim : (n + m) * bytes ≤ 140737488355328) (h63 : n + m ≤ 9223372036854775807) (hbase : base ≤ w.heap.size)
    (h : ∀ a' cap' w', w'.ownsRow base e S.k (.slice a' (n + m) cap') (n + m) (S.cells (xs ++ ys)) → w.grownBy w' v.ownBlock → ((Value.slice a' (n + m) cap').ownBlock = v.ownBlock ∨ (Value.slice a' (n + m) cap').ownBlock = some w.heap.size) → wpList Try.prog ops Q rest (a.put o.dst (.slice a' (n + m) cap')) w') :
    wpList Try.prog ops Q (o :: rest) a w := by
  obtain ⟨i0, hi, hz0, hz1, hz2⟩ := info_parts hinfo
  refine wpList_append_own_at w hgd s x t ho base e i0 z S.k bytes ht hi hz0 hz1 hz2 hzs S.pos v n (S.cells xs) hs hown ad m c (S.cells ys) hx (by rw [S.cells_length, hl]) ?_ (S.cells_one ys) (by unfold maxLen; omega) hlim hbase ?_
  · intro j u hu
    obtain ⟨i, j', y, rfl, h1, h2⟩ := S.cells_at _ _ _ hu
    exact hcells i y h1 j' u h2
  · intro v' w' hown' hgrow _ hb
    obtain ⟨a', cap', rfl⟩ := own_form hown'
    refine h a' cap' w' ?_ hgrow hb
    rw [S.cells_append]
    exact hown'
end rows

#print axioms app_row
end Go.Proofs.Ytiffpmleeaenjaa
