/- Rows of the call's own, told apart by their types, and append's laws at the steps of a region that draws. -/
import Derived.Test.YtlppfocoonnpjaaGreatDoorURowlaw
namespace Go.Proofs.YtlppfocoonnpjaaGreatDoor.U
open Go.RowKit
attribute [local go_sem] alloc_drewN setCell_drewN

/-- The block is a row of elements of this type. -/
def TypeAt (W : World) (g : Nat) (t : Nat) : Prop := ∃ cs fr, W.heap[g]? = some (.cells cs t fr)
theorem own_type {W W2 : World} {base e size n g t : Nat} {v : Value} {xs : List Value} (h : W.ownsRow base e size v n xs) (hg : W.grownBy W2 (some g)) (ht : TypeAt W g t) (hne : t ≠ e) : W2.ownsRow base e size v n xs := by
  refine h.kept hg (Or.inr fun e' => ?_)
  rcases h.2 with ⟨rfl, _⟩ | ⟨g', cap, cur, rfl, _, hc, _⟩
  · cases e'
  · simp [Value.ownBlock] at e'
    subst e'
    obtain ⟨cs, fr, h2⟩ := ht
    rw [h2] at hc
    simp only [Option.some.injEq, Obj.cells.injEq] at hc
    exact hne hc.2.1
theorem box_type {W W2 : World} {b g t t' : Nat} {cs : Array Value} {fr : Nat × Nat} (h : W.heap[b]? = some (.cells cs t' fr)) (hg : W.grownBy W2 (some g)) (ht : TypeAt W g t) (hne : t ≠ t') : W2.heap[b]? = some (.cells cs t' fr) := by
  have hlt : b < W.heap.size := by
    rcases Nat.lt_or_ge b W.heap.size with h' | h'
    · exact h'
    · rw [Array.getElem?_eq_none h'] at h; cases h
  refine (hg.block b hlt (fun e => ?_)).trans h
  simp only [Option.some.injEq] at e
  subst e
  obtain ⟨cs', fr', h2⟩ := ht
  rw [h2] at h
  simp only [Option.some.injEq, Obj.cells.injEq] at h
  exact hne h.2.1
theorem type_box {W : World} {b t : Nat} {cs : Array Value} {fr : Nat × Nat} (h : W.heap[b]? = some (.cells cs t fr)) : TypeAt W b t := ⟨_, _, h⟩
theorem type_own {W : World} {base e size n g o cap : Nat} {xs : List Value} (h : W.ownsRow base e size (.slice (some ⟨g, o, none⟩) n cap) n xs) : TypeAt W g e := by
  rcases h.2 with ⟨h1, _⟩ | ⟨g', cap', cur, h1, _, hc, _⟩
  · cases h1
  · simp only [Value.slice.injEq, Option.some.injEq, Addr.mk.injEq] at h1
    obtain ⟨⟨rfl, -, -⟩, -⟩ := h1
    exact ⟨_, _, hc⟩
theorem own_mono {W : World} {base base' e size n : Nat} {v : Value} {xs : List Value} (h : W.ownsRow base' e size v n xs) (hle : base ≤ base') : W.ownsRow base e size v n xs := by
  refine ⟨h.1, ?_⟩
  rcases h.2 with h | ⟨g, cap, cur, h1, h2, h3⟩
  · exact .inl h
  · exact .inr ⟨g, cap, cur, h1, by omega, h3⟩

section
variable {α : Type} {S : Shape α}
/-- What append does of two slices: the first one owned, the second one read. -/
theorem run_append_row (w : World) (t ty e : TypeId) (z : Value) (bytes : Nat)
    (ht : Tryz.prog.underlying t = some (.slice e)) (hinfo : (Tryz.prog.info? e).map (fun i => (i.zero, i.size, i.bytes)) = some (some z, S.k, bytes)) (hzs : z.cells.size = S.k)
    (base : Nat) (v : Value) (n : Nat) (xs : List α) (hown : w.ownsRow base e S.k v n (S.cells xs))
    (ad : Addr) (m c : Nat) (ys : List α) (hl : ys.length = m) (hcells : ∀ i y, ys[i]? = some y → ∀ j u, (S.f y)[j]? = some u → w.cell? (ad.add (i * S.k + j)) = some u)
    (hlim : (n + m) * bytes ≤ 140737488355328) (h63 : n + m ≤ 9223372036854775807) (hbase : base ≤ w.heap.size) :
    ∃ a' cap' w', (Builtin.append_ #[t, t] ty #[v, .slice (some ad) m c]).run Tryz.prog w = .ok (.slice a' (n + m) cap') w' ∧ w'.ownsRow base e S.k (.slice a' (n + m) cap') (n + m) (S.cells (xs ++ ys)) ∧ w.grownBy w' v.ownBlock ∧ ((Value.slice a' (n + m) cap').ownBlock = v.ownBlock ∨ (Value.slice a' (n + m) cap').ownBlock = some w.heap.size) := by
  obtain ⟨i0, hi, hz0, hz1, hz2⟩ := info_parts hinfo
  obtain ⟨v', w', hr, h2, h3, _, h5⟩ := run_append_own_at (P := Tryz.prog) w base t ty e i0 z S.k bytes ht hi hz0 hz1 hz2 hzs S.pos v n (S.cells xs) hown ad m c (S.cells ys) (by rw [S.cells_length, hl]) (by
    intro j u hu
    obtain ⟨i, j', y, rfl, h1, h2⟩ := S.cells_at _ _ _ hu
    exact hcells i y h1 j' u h2) (S.cells_one ys) (by unfold maxLen; omega) hlim hbase
  obtain ⟨a', cap', rfl⟩ := own_form h2
  exact ⟨a', cap', w', hr, by rw [S.cells_append]; exact h2, h3, h5⟩
/-- append of a nil slice: nothing. -/
theorem run_append_nothing (w : World) (t ty e : TypeId) (z : Value) (bytes : Nat) (ht : Tryz.prog.underlying t = some (.slice e)) (hinfo : (Tryz.prog.info? e).map (fun i => (i.zero, i.size, i.bytes)) = some (some z, S.k, bytes)) (ad : Addr) (cap cap' : Nat) :
    (Builtin.append_ #[t, t] ty #[.slice (some ad) 0 cap, .slice none 0 cap']).run Tryz.prog w = .ok (.slice (some ad) 0 cap) w := by
  obtain ⟨i0, hi, hz0, hz1, hz2⟩ := info_parts hinfo
  simp [Builtin.append_, run_underlying ht, sizeOf, typeInfo, hi, Builtin.lenOf, Builtin.firstCells, loadCells, loadCellsFrom, storeCells]
/-- append onto an empty literal: a copy. -/
theorem run_copy {lo : Nat} (w : World) (t ty e : TypeId) (z : Value) (bytes : Nat)
    (ht : Tryz.prog.underlying t = some (.slice e)) (hinfo : (Tryz.prog.info? e).map (fun i => (i.zero, i.size, i.bytes)) = some (some z, S.k, bytes)) (hzs : z.cells.size = S.k)
    (base g : Nat) (hown : w.ownsRow base e S.k (.slice (some ⟨g, 0, none⟩) 0 0) 0 [])
    (u : Value) (ys : List α) (hu : RowAt S lo w u ys) (hlim : ys.length * bytes ≤ 140737488355328) (hbase : base ≤ w.heap.size) :
    ∃ a' cap' w', (Builtin.append_ #[t, t] ty #[.slice (some ⟨g, 0, none⟩) 0 0, u]).run Tryz.prog w = .ok (.slice a' ys.length cap') w' ∧ w'.ownsRow base e S.k (.slice a' ys.length cap') ys.length (S.cells ys) ∧ w.grownBy w' (some g) := by
  obtain ⟨hl, a, cap, rfl, ha⟩ := hu
  cases a with
  | none =>
    have h0 : ys.length = 0 := by
      rcases Nat.eq_zero_or_pos ys.length with e | e
      · exact e
      · obtain ⟨g, o, h, _⟩ := ha e; cases h
    obtain rfl := List.length_eq_zero_iff.1 h0
    exact ⟨_, _, _, run_append_nothing (S := S) w t ty e z bytes ht hinfo _ _ _, hown, grownBy_refl _ _⟩
  | some ad =>
    obtain ⟨a', cap', w', hr, h2, h3, _⟩ := run_append_row (S := S) w t ty e z bytes ht hinfo hzs base (.slice (some ⟨g, 0, none⟩) 0 0) 0 [] hown ad ys.length cap ys rfl (fun i y hy j u hu => by
      obtain ⟨g', o, h, _, hc⟩ := ha (by
        rcases Nat.eq_zero_or_pos ys.length with e | e
        · rw [List.length_eq_zero_iff.1 e] at hy; simp at hy
        · exact e)
      cases h
      rw [Go.WideShapes.add_plain, ← Nat.add_assoc]
      exact hc i y hy j u hu) (by rw [Nat.zero_add]; exact hlim) (by omega) hbase
    rw [Nat.zero_add] at hr h2
    exact ⟨a', cap', w', hr, h2, h3⟩
/-- At the operation. -/
theorem wp_copy {lo : Nat} {o : Oper} {a : Act} {K : Act → World → Prop} {Q : Exit → Act → World → Prop} (w : World) (s x : Operand) (t : TypeId)
    (ho : o.op = .call { callee := .builtin .append, args := #[s, x], argTypes := #[t, t] }) (e : TypeId) (z : Value) (bytes : Nat)
    (ht : Tryz.prog.underlying t = some (.slice e)) (hinfo : (Tryz.prog.info? e).map (fun i => (i.zero, i.size, i.bytes)) = some (some z, S.k, bytes)) (hzs : z.cells.size = S.k)
    (base g : Nat) (hs : a.eval s = .slice (some ⟨g, 0, none⟩) 0 0) (hown : w.ownsRow base e S.k (.slice (some ⟨g, 0, none⟩) 0 0) 0 [])
    (u : Value) (ys : List α) (hx : a.eval x = u) (hu : RowAt S lo w u ys) (hlim : ys.length * bytes ≤ 140737488355328) (hbase : base ≤ w.heap.size)
    (h : ∀ a' cap' w', w'.ownsRow base e S.k (.slice a' ys.length cap') ys.length (S.cells ys) → w.grownBy w' (some g) → K (a.put o.dst (.slice a' ys.length cap')) w') : o.wp Tryz.prog a w K Q := by
  obtain ⟨a', cap', w', hr, h2, h3⟩ := run_copy (S := S) w t o.type e z bytes ht hinfo hzs base g hown u ys hu hlim hbase
  unfold Oper.wp execOp
  simp only [ho, resolve, invoke, builtin, Sem.run_bind, Sem.run_pure, Result.andThen_ok, List.map_toArray, List.map_cons, List.map_nil, hs, hx, hr]
  exact h a' cap' w' h2 h3
theorem wpList_copy {lo : Nat} {ops : Array Oper} {rest : List Oper} {o : Oper} {a : Act} {Q : Exit → Act → World → Prop} (w : World) (hgd : o.guard = none) (s x : Operand) (t : TypeId)
    (ho : o.op = .call { callee := .builtin .append, args := #[s, x], argTypes := #[t, t] }) (e : TypeId) (z : Value) (bytes : Nat)
    (ht : Tryz.prog.underlying t = some (.slice e)) (hinfo : (Tryz.prog.info? e).map (fun i => (i.zero, i.size, i.bytes)) = some (some z, S.k, bytes)) (hzs : z.cells.size = S.k)
    (base g : Nat) (hs : a.eval s = .slice (some ⟨g, 0, none⟩) 0 0) (hown : w.ownsRow base e S.k (.slice (some ⟨g, 0, none⟩) 0 0) 0 [])
    (u : Value) (ys : List α) (hx : a.eval x = u) (hu : RowAt S lo w u ys) (hlim : ys.length * bytes ≤ 140737488355328) (hbase : base ≤ w.heap.size)
    (h : ∀ a' cap' w', w'.ownsRow base e S.k (.slice a' ys.length cap') ys.length (S.cells ys) → w.grownBy w' (some g) → wpList Tryz.prog ops Q rest (a.put o.dst (.slice a' ys.length cap')) w') : wpList Tryz.prog ops Q (o :: rest) a w :=
  wpList_plain hgd fun _ hK => wp_copy (S := S) w s x t ho e z bytes ht hinfo hzs base g hs hown u ys hx hu hlim hbase fun a' cap' w' h2 h3 => hK _ _ (h a' cap' w' h2 h3)
end
theorem lit_own (w : World) (e k : Nat) : (w.alloc (.cells #[] e)).ownsRow w.heap.size e k (.slice (some ⟨w.heap.size, 0, none⟩) 0 0) 0 [] := World.ownsRow_lit w #[] 0 (Nat.le_refl _) (by unfold maxLen; omega) (by simp)

theorem step_copy {α : Type} {S : Shape α} {lo : Nat} {ops : Array Oper} {o : Oper} {a : Act} {K : Act → World → Prop} {Q : Exit → Act → World → Prop} {E : Prop} (w : World) (hgd : o.guard = none) (s x : Operand) (t : TypeId)
    (ho : o.op = .call { callee := .builtin .append, args := #[s, x], argTypes := #[t, t] }) (e : TypeId) (z : Value) (bytes : Nat)
    (ht : Tryz.prog.underlying t = some (.slice e)) (hinfo : (Tryz.prog.info? e).map (fun i => (i.zero, i.size, i.bytes)) = some (some z, S.k, bytes)) (hzs : z.cells.size = S.k)
    (base g : Nat) (hs : a.eval s = .slice (some ⟨g, 0, none⟩) 0 0) (hown : w.ownsRow base e S.k (.slice (some ⟨g, 0, none⟩) 0 0) 0 [])
    (u : Value) (ys : List α) (hx : a.eval x = u) (hu : RowAt S lo w u ys) (hlim : ys.length * bytes ≤ 140737488355328) (hbase : base ≤ w.heap.size)
    (h : ∀ a' cap' w', w'.ownsRow base e S.k (.slice a' ys.length cap') ys.length (S.cells ys) → w.grownBy w' (some g) → K (a.put o.dst (.slice a' ys.length cap')) w') :
    if Region.wanted o (yielded ops a.tmps) = true then Oper.wp Tryz.prog o a w K Q else E := by
  have hw : Region.wanted o (yielded ops a.tmps) = true := by simp [Region.wanted, hgd]
  rw [if_pos hw]
  exact wp_copy (S := S) w s x t ho e z bytes ht hinfo hzs base g hs hown u ys hx hu hlim hbase h
theorem hp_up {W : World} {b : Nat} {x : Obj} (h : W.heap[b]? = some x) (o : Obj) : (W.alloc o).heap[b]? = some x := by
  have hlt : b < W.heap.size := by
    rcases Nat.lt_or_ge b W.heap.size with h' | h'
    · exact h'
    · rw [Array.getElem?_eq_none h'] at h; cases h
  exact ((World.grownBy_alloc W o none).block b hlt (by simp)).trans h
theorem hp_keep {W W2 : World} {b : Nat} {x : Obj} (h : W.heap[b]? = some x) (hg : W.grownBy W2 none) : W2.heap[b]? = some x := by
  have hlt : b < W.heap.size := by
    rcases Nat.lt_or_ge b W.heap.size with h' | h'
    · exact h'
    · rw [Array.getElem?_eq_none h'] at h; cases h
  exact (hg.block b hlt (by simp)).trans h
theorem own_app {W W2 : World} {base e size n base2 e2 size2 n2 : Nat} {v v2 : Value} {xs ys : List Value} (h : W.ownsRow base2 e2 size2 v2 n2 ys) (hv : W.ownsRow base e size v n xs) (hg : W.grownBy W2 v.ownBlock) (hne : e ≠ e2) : W2.ownsRow base2 e2 size2 v2 n2 ys := by
  rcases hv.2 with ⟨rfl, _⟩ | ⟨g, cap, cur, rfl, _, hc, _⟩
  · exact own_kept h hg
  · exact own_type h hg ⟨_, _, hc⟩ hne
theorem box_app {W W2 : World} {base e size n b t : Nat} {cs : Array Value} {fr : Nat × Nat} {v : Value} {xs : List Value} (h : W.heap[b]? = some (.cells cs t fr)) (hv : W.ownsRow base e size v n xs) (hg : W.grownBy W2 v.ownBlock) (hne : e ≠ t) : W2.heap[b]? = some (.cells cs t fr) := by
  have hlt : b < W.heap.size := by
    rcases Nat.lt_or_ge b W.heap.size with h' | h'
    · exact h'
    · rw [Array.getElem?_eq_none h'] at h; cases h
  rcases hv.2 with ⟨rfl, _⟩ | ⟨g, cap, cur, rfl, _, hc, _⟩
  · exact (hg.block b hlt (by simp [Value.ownBlock])).trans h
  · exact box_type h hg ⟨_, _, hc⟩ hne
theorem grown_app {wb W W2 : World} {base e size n : Nat} {v : Value} {xs : List Value} (h : wb.grownBy W none) (hv : W.ownsRow base e size v n xs) (hb : wb.heap.size ≤ base) (hg : W.grownBy W2 v.ownBlock) : wb.grownBy W2 none := by
  rcases hv.2 with ⟨rfl, _⟩ | ⟨g, cap, cur, rfl, hbg, _⟩
  · exact grownBy_trans h hg
  · exact grown_spoil h (Nat.le_trans hb hbg) hg
theorem step_app {α : Type} {S : Shape α} {ops : Array Oper} {o : Oper} {a : Act} {K : Act → World → Prop} {Q : Exit → Act → World → Prop} {E : Prop} (w : World) (hgd : o.guard = none) (s x : Operand) (t : TypeId)
    (ho : o.op = .call { callee := .builtin .append, args := #[s, x], argTypes := #[t, t] }) (e : TypeId) (z : Value) (bytes : Nat)
    (ht : Tryz.prog.underlying t = some (.slice e)) (hinfo : (Tryz.prog.info? e).map (fun i => (i.zero, i.size, i.bytes)) = some (some z, S.k, bytes)) (hzs : z.cells.size = S.k)
    (base : Nat) (v : Value) (n : Nat) (xs : List α) (hs : a.eval s = v) (hown : w.ownsRow base e S.k v n (S.cells xs))
    (ad : Addr) (m c : Nat) (ys : List α) (hx : a.eval x = .slice (some ad) m c) (hl : ys.length = m) (hcells : ∀ i y, ys[i]? = some y → ∀ j u, (S.f y)[j]? = some u → w.cell? (ad.add (i * S.k + j)) = some u)
    (hlim : (n + m) * bytes ≤ 140737488355328) (h63 : n + m ≤ 9223372036854775807) (hbase : base ≤ w.heap.size)
    (h : ∀ a' cap' w', w'.ownsRow base e S.k (.slice a' (n + m) cap') (n + m) (S.cells (xs ++ ys)) → w.grownBy w' v.ownBlock → K (a.put o.dst (.slice a' (n + m) cap')) w') :
    if Region.wanted o (yielded ops a.tmps) = true then Oper.wp Tryz.prog o a w K Q else E := by
  have hw : Region.wanted o (yielded ops a.tmps) = true := by simp [Region.wanted, hgd]
  rw [if_pos hw]
  obtain ⟨a', cap', w', hr, h2, h3, _⟩ := run_append_row (S := S) w t o.type e z bytes ht hinfo hzs base v n xs hown ad m c ys hl hcells hlim h63 hbase
  unfold Oper.wp execOp
  simp only [ho, resolve, invoke, builtin, Sem.run_bind, Sem.run_pure, Result.andThen_ok, List.map_toArray, List.map_cons, List.map_nil, hs, hx, hr]
  exact h a' cap' w' h2 h3
theorem one_at {α : Type} (S : Shape α) {W : World} {g t : Nat} (x : α) (h : W.heap[g]? = some (.cells (S.f x).toArray t (0, 0))) : ∀ i y, [x][i]? = some y → ∀ j u, (S.f y)[j]? = some u → W.cell? ((⟨g, 0, none⟩ : Addr).add (i * S.k + j)) = some u := by
  intro i y hy j u hu
  cases i with
  | zero =>
    simp only [List.getElem?_cons_zero, Option.some.injEq] at hy
    subst hy
    rw [Nat.zero_mul, Nat.zero_add, Go.WideShapes.add_plain, Nat.zero_add, blk_cell h]
    simpa using hu
  | succ i => simp at hy
theorem step_appd {α : Type} {S : Shape α} {ops : Array Oper} {o : Oper} {a : Act} {K : Act → World → Prop} {Q : Exit → Act → World → Prop} {E : Prop} (w : World) (hgd : o.guard = none) (s x : Operand) (t : TypeId)
    (ho : o.op = .call { callee := .builtin .append, args := #[s, x], argTypes := #[t, t] }) (e : TypeId) (z : Value) (bytes : Nat)
    (ht : Tryz.prog.underlying t = some (.slice e)) (hinfo : (Tryz.prog.info? e).map (fun i => (i.zero, i.size, i.bytes)) = some (some z, S.k, bytes)) (hzs : z.cells.size = S.k)
    (base : Nat) (v : Value) (n : Nat) (xs : List α) (hs : a.eval s = v) (hown : w.ownsRow base e S.k v n (S.cells xs))
    (ad : Addr) (m c : Nat) (ys : List α) (hx : a.eval x = .slice (some ad) m c) (hl : ys.length = m) (hcells : ∀ i y, ys[i]? = some y → ∀ j u, (S.f y)[j]? = some u → w.cell? (ad.add (i * S.k + j)) = some u)
    (hlim : (n + m) * bytes ≤ 140737488355328) (h63 : n + m ≤ 9223372036854775807) (hbase : base ≤ w.heap.size)
    (k : Nat) (hd : o.dst = some k)
    (h : ∀ a' cap' w', w'.ownsRow base e S.k (.slice a' (n + m) cap') (n + m) (S.cells (xs ++ ys)) → w.grownBy w' v.ownBlock → K (a.put (some k) (.slice a' (n + m) cap')) w') :
    if Region.wanted o (yielded ops a.tmps) = true then Oper.wp Tryz.prog o a w K Q else E :=
  step_app (S := S) w hgd s x t ho e z bytes ht hinfo hzs base v n xs hs hown ad m c ys hx hl hcells hlim h63 hbase fun a' c' w' h2 h3 => by rw [hd]; exact h a' c' w' h2 h3
theorem step_copyd {α : Type} {S : Shape α} {lo : Nat} {ops : Array Oper} {o : Oper} {a : Act} {K : Act → World → Prop} {Q : Exit → Act → World → Prop} {E : Prop} (w : World) (hgd : o.guard = none) (s x : Operand) (t : TypeId)
    (ho : o.op = .call { callee := .builtin .append, args := #[s, x], argTypes := #[t, t] }) (e : TypeId) (z : Value) (bytes : Nat)
    (ht : Tryz.prog.underlying t = some (.slice e)) (hinfo : (Tryz.prog.info? e).map (fun i => (i.zero, i.size, i.bytes)) = some (some z, S.k, bytes)) (hzs : z.cells.size = S.k)
    (base g : Nat) (hs : a.eval s = .slice (some ⟨g, 0, none⟩) 0 0) (hown : w.ownsRow base e S.k (.slice (some ⟨g, 0, none⟩) 0 0) 0 [])
    (u : Value) (ys : List α) (hx : a.eval x = u) (hu : RowAt S lo w u ys) (hlim : ys.length * bytes ≤ 140737488355328) (hbase : base ≤ w.heap.size)
    (k : Nat) (hd : o.dst = some k)
    (h : ∀ a' cap' w', w'.ownsRow base e S.k (.slice a' ys.length cap') ys.length (S.cells ys) → w.grownBy w' (some g) → K (a.put (some k) (.slice a' ys.length cap')) w') :
    if Region.wanted o (yielded ops a.tmps) = true then Oper.wp Tryz.prog o a w K Q else E :=
  step_copy (S := S) w hgd s x t ho e z bytes ht hinfo hzs base g hs hown u ys hx hu hlim hbase fun a' c' w' h2 h3 => by rw [hd]; exact h a' c' w' h2 h3
theorem step_copyn {α : Type} {S : Shape α} {lo : Nat} {ops : Array Oper} {o : Oper} {a : Act} {K : Act → World → Prop} {Q : Exit → Act → World → Prop} {E : Prop} (w : World) (hgd : o.guard = none) (s x : Operand) (t : TypeId)
    (ho : o.op = .call { callee := .builtin .append, args := #[s, x], argTypes := #[t, t] }) (e : TypeId) (z : Value) (bytes : Nat)
    (ht : Tryz.prog.underlying t = some (.slice e)) (hinfo : (Tryz.prog.info? e).map (fun i => (i.zero, i.size, i.bytes)) = some (some z, S.k, bytes)) (hzs : z.cells.size = S.k)
    (base g : Nat) (hs : a.eval s = .slice (some ⟨g, 0, none⟩) 0 0) (hown : w.ownsRow base e S.k (.slice (some ⟨g, 0, none⟩) 0 0) 0 [])
    (u : Value) (ys : List α) (hx : a.eval x = u) (hu : RowAt S lo w u ys) (n : Nat) (hn : ys.length = n) (hlim : n * bytes ≤ 140737488355328) (hbase : base ≤ w.heap.size)
    (k : Nat) (hd : o.dst = some k)
    (h : ∀ a' cap' w', w'.ownsRow base e S.k (.slice a' n cap') n (S.cells ys) → w.grownBy w' (some g) → K (a.put (some k) (.slice a' n cap')) w') :
    if Region.wanted o (yielded ops a.tmps) = true then Oper.wp Tryz.prog o a w K Q else E := by
  subst hn
  exact step_copyd (S := S) w hgd s x t ho e z bytes ht hinfo hzs base g hs hown u ys hx hu hlim hbase k hd h
theorem wpList_copyn {α : Type} {S : Shape α} {lo : Nat} {ops : Array Oper} {rest : List Oper} {o : Oper} {a : Act} {Q : Exit → Act → World → Prop} (w : World) (hgd : o.guard = none) (s x : Operand) (t : TypeId)
    (ho : o.op = .call { callee := .builtin .append, args := #[s, x], argTypes := #[t, t] }) (e : TypeId) (z : Value) (bytes : Nat)
    (ht : Tryz.prog.underlying t = some (.slice e)) (hinfo : (Tryz.prog.info? e).map (fun i => (i.zero, i.size, i.bytes)) = some (some z, S.k, bytes)) (hzs : z.cells.size = S.k)
    (base g : Nat) (hs : a.eval s = .slice (some ⟨g, 0, none⟩) 0 0) (hown : w.ownsRow base e S.k (.slice (some ⟨g, 0, none⟩) 0 0) 0 [])
    (u : Value) (ys : List α) (hx : a.eval x = u) (hu : RowAt S lo w u ys) (n : Nat) (hn : ys.length = n) (hlim : n * bytes ≤ 140737488355328) (hbase : base ≤ w.heap.size)
    (h : ∀ a' cap' w', w'.ownsRow base e S.k (.slice a' n cap') n (S.cells ys) → w.grownBy w' (some g) → wpList Tryz.prog ops Q rest (a.put o.dst (.slice a' n cap')) w') : wpList Tryz.prog ops Q (o :: rest) a w := by
  subst hn
  exact wpList_copy (S := S) w hgd s x t ho e z bytes ht hinfo hzs base g hs hown u ys hx hu hlim hbase h
theorem Own.off {base g : Nat} {W W1 : World} {v : Value} {xs : List Int} (h : Own base W v xs) (hg : W.grownBy W1 (some g)) (hb : g < base) : Own base W1 v xs := own_off h hg hb
theorem Own.type {base g t : Nat} {W W1 : World} {v : Value} {xs : List Int} (h : Own base W v xs) (hg : W.grownBy W1 (some g)) (ht : TypeAt W g t) (hne : t ≠ 3) : Own base W1 v xs := own_type h hg ht hne
#print axioms step_app
end Go.Proofs.YtlppfocoonnpjaaGreatDoor.U
