/- The statements' own Plain: a configuration in known blocks of memory, proved over the translation. -/
import Derived.Test.YtgaegggiehhcpaaDoorGet
import Derived.Test.YtgaegggiehhcpaaDoorSame
namespace Go.Proofs.YtgaegggiehhcpaaDoor
open Go.RowKit
attribute [local go_sem] alloc_drewN setCell_drewN

/-- Plain's memory from block n on: two lists of one task, a program, two parts, two windows, a port. -/
structure Mem (W : World) (n : Nat) (l0 l1 : Int) (t0 t1 : TaskV) (i0 i1 : Ins) (x0 x1 : WinV) (o0 : PortV) : Prop where
  bt0 : W.heap[n]? = some (.cells #[.int .i64 t0.kind, .int .i64 t0.period, .int .i64 t0.deadline, .int .i64 t0.clow, .int .i64 t0.chigh, .int .i64 t0.prio] 52 (0, 0))
  bi : W.heap[n + 1]? = some (.cells #[.int .i64 i0.1, .int .i64 i0.2, .int .i64 i1.1, .int .i64 i1.2] 54 (0, 0))
  bt1 : W.heap[n + 2]? = some (.cells #[.int .i64 t1.kind, .int .i64 t1.period, .int .i64 t1.deadline, .int .i64 t1.clow, .int .i64 t1.chigh, .int .i64 t1.prio] 52 (0, 0))
  bp : W.heap[n + 3]? = some (.cells #[.int .i64 l0, .slice (some ⟨n, 0, none⟩) 1 1, .slice (some ⟨n + 1, 0, none⟩) 2 2, .int .i64 l1, .slice (some ⟨n + 2, 0, none⟩) 1 1, .slice none 0 0] 50 (0, 0))
  bw : W.heap[n + 4]? = some (.cells #[.int .i64 x0.fr, .int .i64 x0.til, .int .i64 x0.part, .int .i64 x1.fr, .int .i64 x1.til, .int .i64 x1.part] 59 (0, 0))
  bo : W.heap[n + 5]? = some (.cells #[.int .i64 o0.kind, .int .i64 o0.fr, .int .i64 o0.til, .int .i64 o0.size] 57 (0, 0))
section mem
variable {W W2 : World} {n : Nat} {l0 l1 : Int} {t0 t1 : TaskV} {i0 i1 : Ins} {x0 x1 : WinV} {o0 : PortV}
theorem Mem.kept (h : Mem W n l0 l1 t0 t1 i0 i1 x0 x1 o0) (hk : ∀ k, n ≤ k → k ≤ n + 5 → W2.heap[k]? = W.heap[k]?) : Mem W2 n l0 l1 t0 t1 i0 i1 x0 x1 o0 :=
  ⟨(hk _ (by omega) (by omega)).trans h.bt0, (hk _ (by omega) (by omega)).trans h.bi, (hk _ (by omega) (by omega)).trans h.bt1, (hk _ (by omega) (by omega)).trans h.bp, (hk _ (by omega) (by omega)).trans h.bw, (hk _ (by omega) (by omega)).trans h.bo⟩
theorem Mem.lt (h : Mem W n l0 l1 t0 t1 i0 i1 x0 x1 o0) : n + 5 < W.heap.size := box_lt h.bo
theorem Mem.grown (h : Mem W n l0 l1 t0 t1 i0 i1 x0 x1 o0) (hg : W.grownBy W2 none) : Mem W2 n l0 l1 t0 t1 i0 i1 x0 x1 o0 := h.kept fun k _ hk => hg.block k (by have := h.lt; omega) (by simp)
/-- A write behind Plain's memory. -/
theorem Mem.above (h : Mem W n l0 l1 t0 t1 i0 i1 x0 x1 o0) (b j : Nat) (u : Value) (hb : n + 5 < b) : Mem (W.setCell ⟨b, j, none⟩ u) n l0 l1 t0 t1 i0 i1 x0 x1 o0 := h.kept fun k _ hk => (grownBy_set W b j u).block k (by have := h.lt; omega) (by simp; omega)
theorem row_blk {α : Type} {S : Shape α} {W : World} {g t : Nat} {cs : Array Value} (xs : List α) (hx : cs = (S.cells xs).toArray) (hl : xs.length ≤ 9223372036854775807) (h : W.heap[g]? = some (.cells cs t (0, 0))) (lo : Nat) (hlo : lo ≤ g) : RowAt S lo W (.slice (some ⟨g, 0, none⟩) xs.length xs.length) xs := by
  refine ⟨hl, _, _, rfl, fun _ => ⟨g, 0, rfl, ⟨hlo, Nat.le_refl _⟩, fun i x hi j u hu => ?_⟩⟩
  have := S.cells_get xs i x hi j u hu
  rw [blk_cell h, hx, Nat.zero_add]
  simpa using this
theorem Mem.conf (h : Mem W n l0 l1 t0 t1 i0 i1 x0 x1 o0) (fr qt : Int) : ConfAt n W (.agg #[.int .i64 fr, .int .i64 qt, .slice (some ⟨n + 3, 0, none⟩) 2 2, .slice (some ⟨n + 4, 0, none⟩) 2 2, .slice (some ⟨n + 5, 0, none⟩) 1 1]) ⟨fr, qt, [⟨l0, [t0], [i0, i1]⟩, ⟨l1, [t1], []⟩], [x0, x1], [o0]⟩ := by
  refine ⟨_, _, _, rfl, ⟨[⟨l0, some ⟨n, 0, none⟩, 1, 1, some ⟨n + 1, 0, none⟩, 2, 2⟩, ⟨l1, some ⟨n + 2, 0, none⟩, 1, 1, none, 0, 0⟩], rfl, row_blk (S := shP) [_, _] rfl (by simp) h.bp n (by omega), ?_⟩, row_blk (S := shW) [x0, x1] rfl (by simp) h.bw n (by omega), row_blk (S := shO) [o0] rfl (by simp) h.bo n (by omega)⟩
  intro i q p hq hp
  match i, hq, hp with
  | 0, hq, hp =>
    simp only [List.getElem?_cons_zero, Option.some.injEq] at hq hp
    subst hq hp
    exact ⟨rfl, row_blk (S := shT) [t0] rfl (by simp) h.bt0 n (by omega), row_blk (S := shI) [i0, i1] rfl (by simp) h.bi n (by omega)⟩
  | 1, hq, hp =>
    simp only [List.getElem?_cons_succ, List.getElem?_cons_zero, Option.some.injEq] at hq hp
    subst hq hp
    exact ⟨rfl, row_blk (S := shT) [t1] rfl (by simp) h.bt1 n (by omega), rowAt_nil _ _ _ _⟩
  | k + 2, hq, _ => simp at hq
theorem blk_set {W : World} {b t j : Nat} {u : Value} {cs cs' : Array Value} (h : W.heap[b]? = some (.cells cs t (0, 0))) (e : cs.setIfInBounds j u = cs') : (W.setCell ⟨b, j, none⟩ u).heap[b]? = some (.cells cs' t (0, 0)) := by
  subst e
  simp [World.setCell, Array.getElem?_modify, h]
theorem blk_other {W : World} {b c j : Nat} {u : Value} {o : Obj} (h : W.heap[c]? = some o) (hne : b ≠ c) : (W.setCell ⟨b, j, none⟩ u).heap[c]? = some o := box_grown h (grownBy_set W b j u) (by simp; omega)
theorem Mem.setw (h : Mem W n l0 l1 t0 t1 i0 i1 x0 x1 o0) (j : Nat) (u : Value) (y0 y1 : WinV) (e : #[.int .i64 x0.fr, .int .i64 x0.til, .int .i64 x0.part, .int .i64 x1.fr, .int .i64 x1.til, .int .i64 x1.part].setIfInBounds j u = #[.int .i64 y0.fr, .int .i64 y0.til, .int .i64 y0.part, .int .i64 y1.fr, .int .i64 y1.til, .int .i64 y1.part]) : Mem (W.setCell ⟨n + 4, j, none⟩ u) n l0 l1 t0 t1 i0 i1 y0 y1 o0 :=
  ⟨blk_other h.bt0 (by omega), blk_other h.bi (by omega), blk_other h.bt1 (by omega), blk_other h.bp (by omega), blk_set h.bw e, blk_other h.bo (by omega)⟩
theorem Mem.seto (h : Mem W n l0 l1 t0 t1 i0 i1 x0 x1 o0) (j : Nat) (u : Value) (p0 : PortV) (e : #[.int .i64 o0.kind, .int .i64 o0.fr, .int .i64 o0.til, .int .i64 o0.size].setIfInBounds j u = #[.int .i64 p0.kind, .int .i64 p0.fr, .int .i64 p0.til, .int .i64 p0.size]) : Mem (W.setCell ⟨n + 5, j, none⟩ u) n l0 l1 t0 t1 i0 i1 x0 x1 p0 :=
  ⟨blk_other h.bt0 (by omega), blk_other h.bi (by omega), blk_other h.bt1 (by omega), blk_other h.bp (by omega), blk_other h.bw (by omega), blk_set h.bo e⟩
theorem Mem.sett0 (h : Mem W n l0 l1 t0 t1 i0 i1 x0 x1 o0) (j : Nat) (u : Value) (s0 : TaskV) (e : #[.int .i64 t0.kind, .int .i64 t0.period, .int .i64 t0.deadline, .int .i64 t0.clow, .int .i64 t0.chigh, .int .i64 t0.prio].setIfInBounds j u = #[.int .i64 s0.kind, .int .i64 s0.period, .int .i64 s0.deadline, .int .i64 s0.clow, .int .i64 s0.chigh, .int .i64 s0.prio]) : Mem (W.setCell ⟨n, j, none⟩ u) n l0 l1 s0 t1 i0 i1 x0 x1 o0 :=
  ⟨blk_set h.bt0 e, blk_other h.bi (by omega), blk_other h.bt1 (by omega), blk_other h.bp (by omega), blk_other h.bw (by omega), blk_other h.bo (by omega)⟩
theorem Mem.sett1 (h : Mem W n l0 l1 t0 t1 i0 i1 x0 x1 o0) (j : Nat) (u : Value) (s1 : TaskV) (e : #[.int .i64 t1.kind, .int .i64 t1.period, .int .i64 t1.deadline, .int .i64 t1.clow, .int .i64 t1.chigh, .int .i64 t1.prio].setIfInBounds j u = #[.int .i64 s1.kind, .int .i64 s1.period, .int .i64 s1.deadline, .int .i64 s1.clow, .int .i64 s1.chigh, .int .i64 s1.prio]) : Mem (W.setCell ⟨n + 2, j, none⟩ u) n l0 l1 t0 s1 i0 i1 x0 x1 o0 :=
  ⟨blk_other h.bt0 (by omega), blk_other h.bi (by omega), blk_set h.bt1 e, blk_other h.bp (by omega), blk_other h.bw (by omega), blk_other h.bo (by omega)⟩
theorem Mem.setl1 (h : Mem W n l0 l1 t0 t1 i0 i1 x0 x1 o0) (x : Int) : Mem (W.setCell ⟨n + 3, 3, none⟩ (.int .i64 x)) n l0 x t0 t1 i0 i1 x0 x1 o0 :=
  ⟨blk_other h.bt0 (by omega), blk_other h.bi (by omega), blk_other h.bt1 (by omega), blk_set h.bp rfl, blk_other h.bw (by omega), blk_other h.bo (by omega)⟩
end mem
theorem heap_at (W : World) (o : Obj) (i : Nat) (h : W.heap.size = i) : (W.alloc o).heap[i]? = some o := by subst h; exact heap_alloc_new _ _
theorem heap_up (W : World) (o x : Obj) (i : Nat) (h : W.heap[i]? = some x) : (W.alloc o).heap[i]? = some x := ((World.grownBy_alloc W o none).block i (box_lt h) (by simp)).trans h
def pt0 : TaskV := ⟨0, 10, 10, 2, 4, 1⟩
def pt1 : TaskV := ⟨1, 5, 5, 3, 3, 0⟩
def px0 : WinV := ⟨0, 5, 0⟩
def px1 : WinV := ⟨6, 9, 1⟩
def po0 : PortV := ⟨1, 0, 1, 2⟩
/-- Plain. -/
def plainC : ConfV := ⟨10, 2, [⟨1, [pt0], [(1, 7), (9, 0)]⟩, ⟨0, [pt1], []⟩], [px0, px1], [po0]⟩
set_option maxRecDepth 100000 in
set_option maxHeartbeats 1000000 in
theorem plain_any (w : World) :
    Calls Tryd.prog 20 #[] w fun e w' => ∃ n, w.heap.size < n ∧ e = .returned (.agg #[.int .i64 10, .int .i64 2, .slice (some ⟨n + 3, 0, none⟩) 2 2, .slice (some ⟨n + 4, 0, none⟩) 2 2, .slice (some ⟨n + 5, 0, none⟩) 1 1]) ∧ Mem w' n 1 0 pt0 pt1 (1, 7) (9, 0) px0 px1 po0 ∧ w.grownBy w' none := by
  go_enter Tryd.func20, Tryd.ntmps20
  go_wp2
  (try simp only [Exit.inBlock, Exit.then])
  refine bodyPost_ret (results_cell_row rfl _ _ w.heap.size 26 #[.int .i64 10, .int .i64 2, .slice (some ⟨w.heap.size + 1 + 3, 0, none⟩) 2 2, .slice (some ⟨w.heap.size + 1 + 4, 0, none⟩) 2 2, .slice (some ⟨w.heap.size + 1 + 5, 0, none⟩) 1 1] (0, 0) _ rfl ?hg Tryd.underlying26 rfl size26) rfl ?_
  case hg => repeat (first | exact heap_at _ _ _ (by simp) | refine heap_up _ _ _ _ ?_)
  refine ⟨w.heap.size + 1, by omega, rfl, ⟨?_, ?_, ?_, ?_, ?_, ?_⟩, ?_⟩
  · repeat (first | exact heap_at _ _ _ (by simp) | refine heap_up _ _ _ _ ?_)
  · repeat (first | exact heap_at _ _ _ (by simp) | refine heap_up _ _ _ _ ?_)
  · repeat (first | exact heap_at _ _ _ (by simp) | refine heap_up _ _ _ _ ?_)
  · repeat (first | exact heap_at _ _ _ (by simp) | refine heap_up _ _ _ _ ?_)
  · repeat (first | exact heap_at _ _ _ (by simp) | refine heap_up _ _ _ _ ?_)
  · repeat (first | exact heap_at _ _ _ (by simp) | refine heap_up _ _ _ _ ?_)
  · repeat (first | exact World.grownBy_alloc _ _ _ | refine grownBy_trans ?_ (World.grownBy_alloc _ _ _))

#print axioms plain_any
end Go.Proofs.YtgaegggiehhcpaaDoor
