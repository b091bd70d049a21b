/- The walk of the statement ConfigFirst: of several things that are wrong the first one is told; proved over the translation. -/
import Derived.Test.YtgaegggiehhcpaaDoorLawF0
namespace Go.Proofs.YtgaegggiehhcpaaDoor
open Go.RowKit
attribute [local go_sem] alloc_drewN setCell_drewN

structure FE (w W : World) (n B : Nat) (hd : Value) (ps : List PartV) (x1 : WinV) (o0 : PortV) : Prop where
  gr : w.grownBy W none
  hwB : w.heap.size ≤ B
  bx : W.heap[B]? = some (.cells #[.int .i64 10, .int .i64 2, hd, .slice (some ⟨n + 4, 0, none⟩) 2 2, .slice (some ⟨n + 5, 0, none⟩) 1 1] 26 (0, 0))
  keep : ∀ W' : World, (∀ k, k ≠ B → W'.heap[k]? = W.heap[k]?) → ∀ qt : Int, ConfAt 0 W' (.agg #[.int .i64 10, .int .i64 qt, hd, .slice (some ⟨n + 4, 0, none⟩) 2 2, .slice (some ⟨n + 5, 0, none⟩) 1 1]) ⟨10, qt, ps, [px0, x1], [o0]⟩
section fe
variable {w W : World} {n B g : Nat} {ci : List Ins} {t1 : TaskV} {x1 : WinV} {o0 : PortV}
theorem FM.fe (h : FM w W n B g ci t1 x1 o0) (hc : ci.length ≤ 9223372036854775807) : FE w W n B (.slice (some ⟨n + 3, 0, none⟩) 2 2) [⟨1, [pt0], ci⟩, ⟨0, [t1], []⟩] x1 o0 := by
  have hB := h.hB
  have hg := h.hg
  have hn := h.hn
  refine ⟨h.gr, by omega, h.bx, fun W' hk qt => ?_⟩
  exact conf_two (q0 := ⟨1, some ⟨n, 0, none⟩, 1, 1, some ⟨g, 0, none⟩, ci.length, ci.length⟩) (q1 := ⟨0, some ⟨n + 2, 0, none⟩, 1, 1, none, 0, 0⟩) ((hk _ (by omega)).trans h.bp) ⟨rfl, row_t (t0 := pt0) ((hk _ (by omega)).trans h.bt0), row_blk (S := shI) ci rfl hc ((hk _ (by omega)).trans h.bc) 0 (by omega)⟩ ⟨rfl, row_t ((hk _ (by omega)).trans h.bt1), rowAt_nil _ _ _ _⟩ (row_blk (S := shW) [px0, x1] rfl (by simp) ((hk _ (by omega)).trans h.bw) 0 (by omega)) (row_blk (S := shO) [o0] rfl (by simp) ((hk _ (by omega)).trans h.bo) 0 (by omega))
theorem FM.own (h : FM w W n B g ci t1 x1 o0) : W.ownsRow (n + 3) 50 3 (.slice (some ⟨n + 3, 0, none⟩) 2 2) 2 (shP.cells [⟨1, some ⟨n, 0, none⟩, 1, 1, some ⟨g, 0, none⟩, ci.length, ci.length⟩, ⟨0, some ⟨n + 2, 0, none⟩, 1, 1, none, 0, 0⟩]) :=
  ⟨rfl, .inr ⟨n + 3, 2, _, rfl, Nat.le_refl _, h.bp, Nat.le_refl _, by decide, rfl, rfl⟩⟩
/-- A part more. -/
theorem FM.push (h : FM w W n B g ci t1 x1 o0) (hc : ci.length ≤ 9223372036854775807) {W2 : World} {o : Obj} {a : Option Addr} {cap : Nat}
    (hown : W2.ownsRow (n + 3) 50 3 (.slice a 3 cap) 3 (shP.cells ([⟨1, some ⟨n, 0, none⟩, 1, 1, some ⟨g, 0, none⟩, ci.length, ci.length⟩, ⟨0, some ⟨n + 2, 0, none⟩, 1, 1, none, 0, 0⟩] ++ [⟨5, none, 0, 0, none, 0, 0⟩]))) (hgrow : (W.alloc o).grownBy W2 (some (n + 3))) (hnew : (Value.slice a 3 cap).ownBlock = some (n + 3) ∨ (Value.slice a 3 cap).ownBlock = some (W.heap.size + 1)) :
    FE w (W2.setCell ⟨B, 2, none⟩ (.slice a 3 cap)) n B (.slice a 3 cap) [⟨1, [pt0], ci⟩, ⟨0, [t1], []⟩, ⟨5, [], []⟩] x1 o0 := by
  have hB := h.hB
  have hg := h.hg
  have hn := h.hn
  have hbl := box_lt h.bx
  have g0 := World.grownBy_alloc W o none
  have hsz : (W.alloc o).heap.size = W.heap.size + 1 := by simp
  have up := fun {x : Obj} {c : Nat} (hh : W.heap[c]? = some x) (h1 : n + 3 ≠ c) => box_grown (box_grown hh g0 (by simp)) hgrow (by simp; omega)
  have gr2 : w.grownBy W2 none := ⟨hgrow.os.trans (g0.os.trans h.gr.os), hgrow.tape.trans (g0.tape.trans h.gr.tape), hgrow.output.trans (g0.output.trans h.gr.output), by have := h.gr.size; have := hgrow.size; omega, fun k hk _ => by
    have h1 := h.gr.size
    exact (hgrow.block k (by omega) (by simp; omega)).trans ((g0.block k (by omega) (by simp)).trans (h.gr.block k hk (by simp)))⟩
  have row : RowAt shP (n + 3) W2 (.slice a 3 cap) [⟨1, some ⟨n, 0, none⟩, 1, 1, some ⟨g, 0, none⟩, ci.length, ci.length⟩, ⟨0, some ⟨n + 2, 0, none⟩, 1, 1, none, 0, 0⟩, ⟨5, none, 0, 0, none, 0, 0⟩] := rowAt_own (S := shP) (xs := [⟨1, some ⟨n, 0, none⟩, 1, 1, some ⟨g, 0, none⟩, ci.length, ci.length⟩, ⟨0, some ⟨n + 2, 0, none⟩, 1, 1, none, 0, 0⟩, ⟨5, none, 0, 0, none, 0, 0⟩]) hown
  have hne : ∀ b, (Value.slice a 3 cap).ownBlock = some b → b ≠ B := by
    intro b e
    rcases hnew with e2 | e2
    · rw [e2] at e; simp only [Option.some.injEq] at e; omega
    · rw [e2] at e; simp only [Option.some.injEq] at e; omega
  refine ⟨grown_set_new (by omega) gr2, by omega, blk_set (up h.bx (by omega)) rfl, fun W' hk qt => ?_⟩
  have q := fun {x : Obj} {c : Nat} (hh : W.heap[c]? = some x) (h1 : n + 3 ≠ c) (h2 : B ≠ c) => (hk c (by omega)).trans (blk_other (j := 2) (u := .slice a 3 cap) (up hh h1) h2)
  have row2 : RowAt shP 0 W' (.slice a 3 cap) [⟨1, some ⟨n, 0, none⟩, 1, 1, some ⟨g, 0, none⟩, ci.length, ci.length⟩, ⟨0, some ⟨n + 2, 0, none⟩, 1, 1, none, 0, 0⟩, ⟨5, none, 0, 0, none, 0, 0⟩] := by
    obtain ⟨hl, a1, c1, e1, h1⟩ := row
    refine ⟨hl, a1, c1, e1, fun h0 => ?_⟩
    obtain ⟨g1, o1, e2, hlo, hcc⟩ := h1 h0
    refine ⟨g1, o1, e2, ⟨Nat.zero_le _, hlo.2⟩, fun i x hx j u hu => ?_⟩
    simp only [Value.slice.injEq] at e1
    obtain ⟨rfl, -, rfl⟩ := e1
    have hb := hne g1 (by rw [e2]; rfl)
    refine (World.cell?_of_block (a := ⟨g1, o1 + i * shP.k + j, none⟩) ((hk g1 hb).trans (Below.heap_setCell _ _ _ _ (by simp; omega)))).trans (hcc i x hx j u hu)
  refine ⟨_, _, _, rfl, ⟨[⟨1, some ⟨n, 0, none⟩, 1, 1, some ⟨g, 0, none⟩, ci.length, ci.length⟩, ⟨0, some ⟨n + 2, 0, none⟩, 1, 1, none, 0, 0⟩, ⟨5, none, 0, 0, none, 0, 0⟩], rfl, row2, fun i q' p' hq hp => ?_⟩, row_blk (S := shW) [px0, x1] rfl (by simp) (q h.bw (by omega) (by omega)) 0 (by omega), row_blk (S := shO) [o0] rfl (by simp) (q h.bo (by omega) (by omega)) 0 (by omega)⟩
  match i, hq, hp with
  | 0, hq, hp =>
    simp only [List.getElem?_cons_zero, Option.some.injEq] at hq hp
    subst hq hp
    exact ⟨rfl, row_t (t0 := pt0) (q h.bt0 (by omega) (by omega)), row_blk (S := shI) ci rfl hc (q h.bc (by omega) (by omega)) 0 (by omega)⟩
  | 1, hq, hp =>
    simp only [List.getElem?_cons_succ, List.getElem?_cons_zero, Option.some.injEq] at hq hp
    subst hq hp
    exact ⟨rfl, row_t (q h.bt1 (by omega) (by omega)), rowAt_nil _ _ _ _⟩
  | 2, hq, hp =>
    simp only [List.getElem?_cons_succ, List.getElem?_cons_zero, Option.some.injEq] at hq hp
    subst hq hp
    exact ⟨rfl, rowAt_nil _ _ _ _, rowAt_nil _ _ _ _⟩
  | k + 3, hq, _ => simp at hq
end fe

#print axioms FM.push
end Go.Proofs.YtgaegggiehhcpaaDoor
