/- The writer of bytes in memory, and the contract of its numbers, proved over the translation. -/
import Derived.Test.YtgaegggiehhcpaaDoorCheck
import Derived.Deep.RegionLaw
namespace Go.Proofs.YtgaegggiehhcpaaDoor
open Go.RowKit
attribute [local go_sem] alloc_drewN setCell_drewN

/-- append of bytes, at a step of a region that draws. -/
theorem step_bytes {ops : Array Oper} {o : Oper} {a : Act} {K : Act → World → Prop} {Q : Exit → Act → World → Prop} {E : Prop} (w : World) (hgd : o.guard = none) (s x : Operand)
    (ho : o.op = .call { callee := .builtin .append, args := #[s, x], argTypes := #[61, 61] })
    (base : Nat) (v : Value) (n : Nat) (xs : List Int) (hs : a.eval s = v) (hown : w.ownsRow base 5 1 v n (bytes1 xs))
    (ad : Addr) (m c : Nat) (ys : List Int) (hx : a.eval x = .slice (some ad) m c) (hl : ys.length = m) (hcells : ∀ j, j < m → w.cell? (ad.add j) = some (.int .u8 (ys[j]?.getD 0)))
    (hm : 0 < m) (hlim : n + m ≤ 140737488355328) (hbase : base ≤ w.heap.size)
    (h : ∀ g cap' w', w'.ownsRow base 5 1 (.slice (some ⟨g, 0, none⟩) (n + m) cap') (n + m) (bytes1 (xs ++ ys)) → w.grownBy w' v.ownBlock → (v.ownBlock = some g ∨ g = w.heap.size) → K (a.put o.dst (.slice (some ⟨g, 0, none⟩) (n + m) cap')) w') :
    if Region.wanted o (yielded ops a.tmps) = true then Oper.wp Tryd.prog o a w K Q else E := by
  obtain ⟨i0, hi, hz0, hz1, hz2⟩ := info_parts infoU8
  refine step_append_lies w hgd s x 61 ho base 5 i0 (.int .u8 0) 1 1 Tryd.underlying61 hi hz0 hz1 hz2 rfl (by decide) v n (bytes1 xs) hs hown ad m c (bytes1 ys) hx (by rw [bytes1_length, hl]; omega) ?_ ?_ hm (by unfold maxLen; omega) (by omega) hbase _ rfl ?_
  · intro j u hu
    have hj : j < (bytes1 ys).length := by
      rcases Nat.lt_or_ge j (bytes1 ys).length with h | h
      · exact h
      · rw [List.getElem?_eq_none h] at hu; cases hu
    rw [bytes1_length] at hj
    rw [bytes1_get _ _ hj] at hu
    cases hu
    exact hcells j (by omega)
  · intro u hu
    simp [bytes1] at hu
    obtain ⟨z, _, rfl⟩ := hu
    rfl
  · intro g cap' w' hown' hgrow hb _
    refine h g cap' w' ?_ hgrow hb
    rw [bytes1_append]
    exact hown'


/-! A struct of one cell. -/
theorem box_cell {W : World} {b : Nat} {v : Value} {t : Nat} (h : W.heap[b]? = some (.cells #[v] t (0, 0))) : W.cell? ⟨b, 0, none⟩ = some v := by simp [World.cell?, h]
theorem box_free {W : World} {b : Nat} {v : Value} {t : Nat} (h : W.heap[b]? = some (.cells #[v] t (0, 0))) : W.frozen? ⟨b, 0, none⟩ = false := by simp [World.frozen?, h]
theorem box_lt {W : World} {b : Nat} {o : Obj} (h : W.heap[b]? = some o) : b < W.heap.size := by
  rcases Nat.lt_or_ge b W.heap.size with h' | h'
  · exact h'
  · rw [Array.getElem?_eq_none h'] at h; cases h
theorem box_set {W : World} {b : Nat} {v u : Value} {t : Nat} (h : W.heap[b]? = some (.cells #[v] t (0, 0))) : (W.setCell ⟨b, 0, none⟩ u).heap[b]? = some (.cells #[u] t (0, 0)) := by
  simp [World.setCell, Array.getElem?_modify, h]
theorem box_grown {W W2 : World} {b : Nat} {o : Obj} {r : Option Nat} (h : W.heap[b]? = some o) (hg : W.grownBy W2 r) (hr : r ≠ some b) : W2.heap[b]? = some o := (hg.block b (box_lt h) (fun e => hr e.symm)).trans h

/-- A writer at b that has laid these bytes; v is where they lie. -/
def WAt (W : World) (b : Nat) (v : Value) (zs : List Int) : Prop := W.heap[b]? = some (.cells #[v] 70 (0, 0)) ∧ W.ownsRow (b + 1) 5 1 v zs.length (bytes1 zs)
theorem WAt.lt {W : World} {b : Nat} {v : Value} {zs : List Int} (h : WAt W b v zs) : b < W.heap.size := box_lt h.1
theorem WAt.grown {W W2 : World} {b : Nat} {v : Value} {zs : List Int} (h : WAt W b v zs) (hg : W.grownBy W2 none) : WAt W2 b v zs := ⟨box_grown h.1 hg (by simp), own_kept h.2 hg⟩
theorem WAt.alloc {W : World} {b : Nat} {v : Value} {zs : List Int} (h : WAt W b v zs) (o : Obj) : WAt (W.alloc o) b v zs := h.grown (World.grownBy_alloc _ _ _)
theorem below_trans {B : Nat} {a b c : World} (h : Below B a b) (h' : Below B b c) : Below B a c :=
  ⟨h'.os.trans h.os, h'.tape.trans h.tape, h'.output.trans h.output, Nat.le_trans h.size h'.size, fun k hk => (h'.block k hk).trans (h.block k hk)⟩
theorem below_grown {B : Nat} {a b : World} (h : a.grownBy b none) (hB : B ≤ a.heap.size) : Below B a b := ⟨h.os, h.tape, h.output, h.size, fun k hk => h.block k (by omega) (by simp)⟩

/-- The writer at b, whose bytes lay at v, has written: they lie at v' now; all other memory is as it was. -/
structure Wrote (b : Nat) (v : Value) (w : World) (v' : Value) (w' : World) : Prop where
  os : w'.os = w.os
  tape : w'.tape = w.tape
  output : w'.output = w.output
  size : w.heap.size ≤ w'.heap.size
  block : ∀ k, k < w.heap.size → k ≠ b → v.ownBlock ≠ some k → w'.heap[k]? = w.heap[k]?
  own : ∀ g, v'.ownBlock = some g → v.ownBlock = some g ∨ w.heap.size ≤ g
theorem Wrote.refl (b : Nat) (v : Value) (w : World) : Wrote b v w v w := ⟨rfl, rfl, rfl, Nat.le_refl _, fun _ _ _ _ => rfl, fun _ h => .inl h⟩
theorem Wrote.trans {b : Nat} {v v1 v2 : Value} {w w1 w2 : World} (h : Wrote b v w v1 w1) (h' : Wrote b v1 w1 v2 w2) : Wrote b v w v2 w2 :=
  ⟨h'.os.trans h.os, h'.tape.trans h.tape, h'.output.trans h.output, Nat.le_trans h.size h'.size,
   fun k hk hb hv => (h'.block k (Nat.lt_of_lt_of_le hk h.size) hb (fun e => by rcases h.own k e with e | e; exact hv e; omega)).trans (h.block k hk hb hv),
   fun g hg => by
    rcases h'.own g hg with e | e
    · exact h.own g e
    · have := h.size; exact .inr (by omega)⟩
theorem Wrote.of_grown {b : Nat} {v : Value} {w w1 : World} (h : w.grownBy w1 none) : Wrote b v w v w1 := ⟨h.os, h.tape, h.output, h.size, fun k hk _ _ => h.block k hk (by simp), fun _ h => .inl h⟩
theorem Wrote.alloc {b : Nat} {v v' : Value} {w w1 : World} {o : Obj} (h : Wrote b v (w.alloc o) v' w1) : Wrote b v w v' w1 := (Wrote.of_grown (World.grownBy_alloc w o none)).trans h
theorem Wrote.below {b : Nat} {v v' : Value} {w w1 : World} {zs : List Int} (hW : WAt w b v zs) (h : Wrote b v w v' w1) : Below b w w1 :=
  ⟨h.os, h.tape, h.output, h.size, fun k hk => h.block k (by have := hW.lt; omega) (by omega) (fun e => by have := (hW.2.lt k e).1; omega)⟩
/-- A block that was made behind the writer's bytes is as it was. -/
theorem Wrote.new {b : Nat} {v v' : Value} {w w1 : World} {o : Obj} {zs : List Int} (hW : WAt w b v zs) (h : Wrote b v (w.alloc o) v' w1) : w1.heap[w.heap.size]? = (w.alloc o).heap[w.heap.size]? :=
  h.block w.heap.size (by simp) (by have := hW.lt; omega) (fun e => by have := (hW.2.lt _ e).2; omega)

/-- The bytes of a number, so many, the highest first. -/
def be (k : Nat) (x : Int) : List Int := if k = 1 then [x % 256] else [x / 256 % 256, x % 256]
def ints (xs : List Int) : Array Value := (xs.map (Value.int .i64)).toArray

/-- Behind 'w.laid = append(w.laid, x)'. -/
theorem laid_step {b g cap m : Nat} {W W2 : World} {v : Value} {zs : List Int} {y : Int} {o : Obj}
    (hW : WAt W b v zs)
    (hown2 : W2.ownsRow (b + 1) 5 1 (.slice (some ⟨g, 0, none⟩) (zs.length + 1) cap) (zs.length + 1) (bytes1 (zs ++ [y])))
    (hgrow : ((W.alloc o).drewN m).grownBy W2 v.ownBlock) (hg : v.ownBlock = some g ∨ g = ((W.alloc o).drewN m).heap.size) :
    ∃ u, WAt (W2.setCell ⟨b, 0, none⟩ (.slice (some ⟨g, 0, none⟩) (zs.length + 1) cap)) b u (zs ++ [y]) ∧ Wrote b v W u (W2.setCell ⟨b, 0, none⟩ (.slice (some ⟨g, 0, none⟩) (zs.length + 1) cap)) := by
  obtain ⟨hbox, hown⟩ := hW
  have hvb : v.ownBlock ≠ some b := fun e => by have := (hown.lt b e).1; omega
  have hbl := box_lt hbox
  have g0 : W.grownBy ((W.alloc o).drewN m) none := grownBy_trans (World.grownBy_alloc _ _ none) (grownBy_draws _ _ _)
  have h1 : ((W.alloc o).drewN m).heap[b]? = some (.cells #[v] 70 (0, 0)) := box_grown hbox g0 (by simp)
  have h2 : W2.heap[b]? = some (.cells #[v] 70 (0, 0)) := box_grown h1 hgrow hvb
  have hsz : ((W.alloc o).drewN m).heap.size = W.heap.size + 1 := by show (W.alloc o).heap.size = _; simp
  have gs := grownBy_set W2 b 0 (.slice (some ⟨g, 0, none⟩) (zs.length + 1) cap)
  refine ⟨.slice (some ⟨g, 0, none⟩) (zs.length + 1) cap, ⟨box_set h2, ?_⟩, ?_, ?_, ?_, ?_, ?_, ?_⟩
  · have := own_off hown2 gs (by omega)
    simpa using this
  · exact gs.os.trans (hgrow.os.trans g0.os)
  · exact gs.tape.trans (hgrow.tape.trans g0.tape)
  · exact gs.output.trans (hgrow.output.trans g0.output)
  · have := gs.size; have := hgrow.size; have := g0.size; omega
  · intro k hk hkb hkv
    have e1 := g0.block k hk (by simp)
    have e2 := hgrow.block k (by omega) (fun e => hkv e.symm)
    have e3 := gs.block k (by have := hgrow.size; omega) (by simp; omega)
    exact e3.trans (e2.trans e1)
  · intro k hk
    simp only [Value.ownBlock, Option.some.injEq] at hk
    subst hk
    rcases hg with hg | hg
    · exact .inl hg
    · right; omega
#print axioms laid_step
end Go.Proofs.YtgaegggiehhcpaaDoor
