/- What the law of the first error wants: Plain's memory with another program, port, window, task. -/
import Derived.Test.YtgaegggiehhcpaaDoorLawForms2
namespace Go.Proofs.YtgaegggiehhcpaaDoor
open Go.RowKit
attribute [local go_sem] alloc_drewN setCell_drewN

structure FM (w W : World) (n B g : Nat) (ci : List Ins) (t1 : TaskV) (x1 : WinV) (o0 : PortV) : Prop where
  gr : w.grownBy W none
  hn : w.heap.size ≤ n
  hB : n + 5 < B
  hg : g = n + 1 ∨ B < g
  bt0 : W.heap[n]? = some (.cells #[.int .i64 0, .int .i64 10, .int .i64 10, .int .i64 2, .int .i64 4, .int .i64 1] 52 (0, 0))
  bc : W.heap[g]? = some (.cells (shI.cells ci).toArray 54 (0, 0))
  bt1 : W.heap[n + 2]? = some (.cells #[.int .i64 t1.kind, .int .i64 t1.period, .int .i64 t1.deadline, .int .i64 t1.clow, .int .i64 t1.chigh, .int .i64 t1.prio] 52 (0, 0))
  bp : W.heap[n + 3]? = some (.cells #[.int .i64 1, .slice (some ⟨n, 0, none⟩) 1 1, .slice (some ⟨g, 0, none⟩) ci.length ci.length, .int .i64 0, .slice (some ⟨n + 2, 0, none⟩) 1 1, .slice none 0 0] 50 (0, 0))
  bw : W.heap[n + 4]? = some (.cells #[.int .i64 0, .int .i64 5, .int .i64 0, .int .i64 x1.fr, .int .i64 x1.til, .int .i64 x1.part] 59 (0, 0))
  bo : W.heap[n + 5]? = some (.cells #[.int .i64 o0.kind, .int .i64 o0.fr, .int .i64 o0.til, .int .i64 o0.size] 57 (0, 0))
  bx : W.heap[B]? = some (.cells #[.int .i64 10, .int .i64 2, .slice (some ⟨n + 3, 0, none⟩) 2 2, .slice (some ⟨n + 4, 0, none⟩) 2 2, .slice (some ⟨n + 5, 0, none⟩) 1 1] 26 (0, 0))
section fm
variable {w W : World} {n B g : Nat} {ci : List Ins} {t1 s1 : TaskV} {x1 y1 : WinV} {o0 r0 : PortV}
theorem FM.start (hg : w.grownBy W none) (hn : w.heap.size ≤ n) (hB : n + 5 < B) (h : Mem W n 1 0 pt0 pt1 (1, 7) (9, 0) px0 px1 po0) (bx : W.heap[B]? = some (.cells #[.int .i64 10, .int .i64 2, .slice (some ⟨n + 3, 0, none⟩) 2 2, .slice (some ⟨n + 4, 0, none⟩) 2 2, .slice (some ⟨n + 5, 0, none⟩) 1 1] 26 (0, 0))) : FM w W n B (n + 1) [(1, 7), (9, 0)] pt1 px1 po0 :=
  ⟨hg, hn, hB, .inl rfl, h.bt0, h.bi, h.bt1, h.bp, h.bw, h.bo, bx⟩
theorem FM.seto (h : FM w W n B g ci t1 x1 o0) (j : Nat) (u : Value) (e : #[.int .i64 o0.kind, .int .i64 o0.fr, .int .i64 o0.til, .int .i64 o0.size].setIfInBounds j u = #[.int .i64 r0.kind, .int .i64 r0.fr, .int .i64 r0.til, .int .i64 r0.size]) : FM w (W.setCell ⟨n + 5, j, none⟩ u) n B g ci t1 x1 r0 :=
  have hB := h.hB
  have hg := h.hg
  have hn := h.hn
  ⟨grown_set_new (by omega) h.gr, h.hn, h.hB, h.hg, blk_other h.bt0 (by omega), blk_other h.bc (by omega), blk_other h.bt1 (by omega), blk_other h.bp (by omega), blk_other h.bw (by omega), blk_set h.bo e, blk_other h.bx (by omega)⟩
theorem FM.setw (h : FM w W n B g ci t1 x1 o0) (j : Nat) (u : Value) (e : #[.int .i64 0, .int .i64 5, .int .i64 0, .int .i64 x1.fr, .int .i64 x1.til, .int .i64 x1.part].setIfInBounds j u = #[.int .i64 0, .int .i64 5, .int .i64 0, .int .i64 y1.fr, .int .i64 y1.til, .int .i64 y1.part]) : FM w (W.setCell ⟨n + 4, j, none⟩ u) n B g ci t1 y1 o0 :=
  have hB := h.hB
  have hg := h.hg
  have hn := h.hn
  ⟨grown_set_new (by omega) h.gr, h.hn, h.hB, h.hg, blk_other h.bt0 (by omega), blk_other h.bc (by omega), blk_other h.bt1 (by omega), blk_other h.bp (by omega), blk_set h.bw e, blk_other h.bo (by omega), blk_other h.bx (by omega)⟩
theorem FM.sett (h : FM w W n B g ci t1 x1 o0) (j : Nat) (u : Value) (e : #[.int .i64 t1.kind, .int .i64 t1.period, .int .i64 t1.deadline, .int .i64 t1.clow, .int .i64 t1.chigh, .int .i64 t1.prio].setIfInBounds j u = #[.int .i64 s1.kind, .int .i64 s1.period, .int .i64 s1.deadline, .int .i64 s1.clow, .int .i64 s1.chigh, .int .i64 s1.prio]) : FM w (W.setCell ⟨n + 2, j, none⟩ u) n B g ci s1 x1 o0 :=
  have hB := h.hB
  have hg := h.hg
  have hn := h.hn
  ⟨grown_set_new (by omega) h.gr, h.hn, h.hB, h.hg, blk_other h.bt0 (by omega), blk_other h.bc (by omega), blk_set h.bt1 e, blk_other h.bp (by omega), blk_other h.bw (by omega), blk_other h.bo (by omega), blk_other h.bx (by omega)⟩
/-- Another program of part 0. -/
theorem FM.code (h : FM w W n B (n + 1) [(1, 7), (9, 0)] t1 x1 o0) (ci : List Ins) : FM w ((W.setCell ⟨n + 3, 2, none⟩ (.slice (some ⟨W.heap.size, 0, none⟩) ci.length ci.length)).alloc (.cells (shI.cells ci).toArray 54)) n B W.heap.size ci t1 x1 o0 := by
  have hB := h.hB
  have hn := h.hn
  have hb := box_lt h.bx
  have A := World.grownBy_alloc (W.setCell ⟨n + 3, 2, none⟩ (.slice (some ⟨W.heap.size, 0, none⟩) ci.length ci.length)) (.cells (shI.cells ci).toArray 54) none
  exact ⟨grownBy_trans (grown_set_new (by omega) h.gr) A, h.hn, h.hB, .inr hb, box_grown (blk_other h.bt0 (by omega)) A (by simp), heap_at _ _ _ (by simp [World.setCell]), box_grown (blk_other h.bt1 (by omega)) A (by simp), box_grown (blk_set h.bp rfl) A (by simp), box_grown (blk_other h.bw (by omega)) A (by simp), box_grown (blk_other h.bo (by omega)) A (by simp), box_grown (blk_other h.bx (by omega)) A (by simp)⟩
theorem FM.conf (h : FM w W n B g ci t1 x1 o0) (hc : ci.length ≤ 9223372036854775807) (qt : Int) : ConfAt 0 W (.agg #[.int .i64 10, .int .i64 qt, .slice (some ⟨n + 3, 0, none⟩) 2 2, .slice (some ⟨n + 4, 0, none⟩) 2 2, .slice (some ⟨n + 5, 0, none⟩) 1 1]) ⟨10, qt, [⟨1, [pt0], ci⟩, ⟨0, [t1], []⟩], [px0, x1], [o0]⟩ :=
  conf_two (q0 := ⟨1, some ⟨n, 0, none⟩, 1, 1, some ⟨g, 0, none⟩, ci.length, ci.length⟩) (q1 := ⟨0, some ⟨n + 2, 0, none⟩, 1, 1, none, 0, 0⟩) h.bp ⟨rfl, row_t (t0 := pt0) h.bt0, row_blk (S := shI) ci rfl hc h.bc 0 (by omega)⟩ ⟨rfl, row_t h.bt1, rowAt_nil _ _ _ _⟩ (row_blk (S := shW) [px0, x1] rfl (by simp) h.bw 0 (by omega)) (row_blk (S := shO) [o0] rfl (by simp) h.bo 0 (by omega))
end fm

#print axioms FM.conf
end Go.Proofs.YtgaegggiehhcpaaDoor
