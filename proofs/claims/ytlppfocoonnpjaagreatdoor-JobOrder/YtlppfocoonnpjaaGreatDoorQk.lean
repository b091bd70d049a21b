/- Whole structs loaded and stored by one law each, whatever the number of their cells, where the operation stands in a list and where it stands in a region that draws. Rows of the call's own, told apart by their types, and append's laws at the steps of a region that draws. Contracts of package task's kinds: copied, kindOf, waits, late, comes, kept, release, proved over the translation. -/
import Derived.Test.YtlppfocoonnpjaaGreatDoorQb
import Derived.Laws.Rows
import Derived.Laws.Tables
import Derived.Deep.MidRow
import Derived.BigFrame
import Derived.Lib.MinMax

namespace Go.Proofs.YtlppfocoonnpjaaGreatDoor.U
open Go.RowKit

section
variable {P : Program} {ops : Array Oper} {rest : List Oper} {a : Act} {w : World} {Q : Exit → Act → World → Prop} {d : Option Nat} {τ : TypeId} {p : String} {af : Array Edge} {gd : Option (Nat × Bool)}

theorem list_load (ty : TypeId) (x : Operand) (g : Nat) (t : TypeId) (cs : Array Value) (fr : Nat × Nat) (e : TypeDesc)
    (hw : Region.wanted { dst := d, op := .load ty x, type := τ, pos := p, after := af, guard := gd } (yielded ops a.tmps) = true)
    (hx : a.eval x = .pointer (some ⟨g, 0, none⟩)) (hg : w.heap[g]? = some (.cells cs t fr))
    (hu : P.underlying ty = some e) (hd : (match e with | .struct _ | .array _ _ => true | _ => false) = true) (hi : (P.info? ty).map (·.size) = some cs.size)
    (h : wpList P ops Q rest (a.put d (.agg cs)) w) : wpList P ops Q ({ dst := d, op := .load ty x, type := τ, pos := p, after := af, guard := gd } :: rest) a w :=
  wpList_step fun _ hK => by rw [if_pos hw]; exact wp_load_row ty x rfl g hx t cs fr e hg hu hd hi (hK _ _ h)

theorem row_facts {W : World} {g t : Nat} {old : Array Value} (cs : Array Value) (hg : W.heap[g]? = some (.cells old t (0, 0))) :
    (W.setRow g cs).heap[g]? = some (.cells cs t (0, 0)) ∧ (∀ c, c ≠ g → (W.setRow g cs).heap[c]? = W.heap[c]?) ∧ W.grownBy (W.setRow g cs) (some g) := by
  refine ⟨setRow_heap W g old cs t (0, 0) hg, fun c hc => ?_, rfl, rfl, rfl, ?_, fun k _ hk => ?_⟩
  · simp only [World.setRow, Array.getElem?_modify]
    rw [if_neg (fun e => hc e.symm)]
  · simp [World.setRow]
  · simp only [World.setRow, Array.getElem?_modify]
    rw [if_neg (fun e => hk (by rw [e]))]

theorem list_store (ty : TypeId) (x y : Operand) (g : Nat) (cells : Array Value) (t : TypeId) (old : Array Value)
    (hx : a.eval x = .pointer (some ⟨g, 0, none⟩)) (hy : a.eval y = .agg cells) (hgh : w.heap[g]? = some (.cells old t (0, 0)))
    (hi : (P.info? ty).map (·.size) = some cells.size) (hold : old.size = cells.size) (h1 : cells.all (·.oneCell') = true)
    (h : ∀ w', w'.heap[g]? = some (.cells cells t (0, 0)) → (∀ c, c ≠ g → w'.heap[c]? = w.heap[c]?) → w.grownBy w' (some g) → wpList P ops Q rest (a.put d undef) w') :
    wpList P ops Q ({ dst := d, op := .store ty x y, type := τ, pos := p, after := af, guard := none } :: rest) a w :=
  wpList_plain rfl fun _ hK => wp_store_row ty x y rfl g cells hx hy t old hgh hi hold h1 (hK _ _ (h _ (row_facts cells hgh).1 (row_facts cells hgh).2.1 (row_facts cells hgh).2.2))

theorem step_store {K : Act → World → Prop} {E : Prop} (ty : TypeId) (x y : Operand) (g : Nat) (cells : Array Value) (t : TypeId) (old : Array Value)
    (hx : a.eval x = .pointer (some ⟨g, 0, none⟩)) (hy : a.eval y = .agg cells) (hgh : w.heap[g]? = some (.cells old t (0, 0)))
    (hi : (P.info? ty).map (·.size) = some cells.size) (hold : old.size = cells.size) (h1 : cells.all (·.oneCell') = true)
    (h : ∀ w', w'.heap[g]? = some (.cells cells t (0, 0)) → (∀ c, c ≠ g → w'.heap[c]? = w.heap[c]?) → w.grownBy w' (some g) → K (a.put d undef) w') :
    if Region.wanted { dst := d, op := .store ty x y, type := τ, pos := p, after := af, guard := none } (yielded ops a.tmps) = true then Oper.wp P { dst := d, op := .store ty x y, type := τ, pos := p, after := af, guard := none } a w K Q else E := by
  rw [if_pos (by simp [Region.wanted])]
  exact wp_store_row ty x y rfl g cells hx hy t old hgh hi hold h1 (h _ (row_facts cells hgh).1 (row_facts cells hgh).2.1 (row_facts cells hgh).2.2)

theorem take_put {md : Region.Mode} {S : World → Prop} {i : Nat} {oi : Oper} {v : Value} {fuel : Nat} {listed : Array Bool} (k : Nat) (hi : ops[i]? = some oi) (hd : oi.dst = some k)
    (hs : Region.noSelect ops = true) (hf : Region.free md ops listed i = true) (hr : (Region.ready md ops listed).contains i = true)
    (hQ : ∀ c a w, Q (.panic c) (a.put oi.dst v) w → Q (.panic c) a w) (hy : YieldsIf P ops S oi v a) (hS : S w)
    (h : wpAnyH P md ops Q S fuel (listed.setIfInBounds i true) (a.put (some k) v) w) : wpAnyH P md ops Q S (fuel + 1) listed a w :=
  wpAnyH_take hi hs hf hr hQ hy hS (by rw [hd]; exact h)
end

/-! Results that lie in variables of structs. -/
theorem results_row_tmp {P : Program} {fn : Func} {p u : Tmp} {ty : TypeId} (h : fn.results = #[.cell p ty, .tmp u]) (tmps : Array Value) (w : World) (g : Nat) (t : TypeId) (cs : Array Value) (fr : Nat × Nat) (d : TypeDesc)
    (hp : tmps.getD p undef = .pointer (some ⟨g, 0, none⟩)) (hg : w.heap[g]? = some (.cells cs t fr))
    (hu : P.underlying ty = some d) (hd : (match d with | .struct _ | .array _ _ => true | _ => false) = true) (hi : (P.info? ty).map (·.size) = some cs.size) :
    (results fn tmps).run P w = .ok (.tuple #[.agg cs, tmps.getD u undef]) w := by
  have hp' : tmps[p]?.getD undef = .pointer (some ⟨g, 0, none⟩) := by simpa using hp
  simp [results, h, hp', asAddr, run_loadVar_row w g t ty cs fr d hg hu hd hi]
theorem results_rtt {P : Program} {fn : Func} {p u u2 : Tmp} {ty : TypeId} (h : fn.results = #[.cell p ty, .tmp u, .tmp u2]) (tmps : Array Value) (w : World) (g : Nat) (t : TypeId) (cs : Array Value) (fr : Nat × Nat) (d : TypeDesc)
    (hp : tmps.getD p undef = .pointer (some ⟨g, 0, none⟩)) (hg : w.heap[g]? = some (.cells cs t fr))
    (hu : P.underlying ty = some d) (hd : (match d with | .struct _ | .array _ _ => true | _ => false) = true) (hi : (P.info? ty).map (·.size) = some cs.size) :
    (results fn tmps).run P w = .ok (.tuple #[.agg cs, tmps.getD u undef, tmps.getD u2 undef]) w := by
  have hp' : tmps[p]?.getD undef = .pointer (some ⟨g, 0, none⟩) := by simpa using hp
  simp [results, h, hp', asAddr, run_loadVar_row w g t ty cs fr d hg hu hd hi]
theorem sizeU : (Tryz.prog.info? 93).map (·.size) = some 2 := by kernel_rfl
theorem sizeT : (Tryz.prog.info? 73).map (·.size) = some 6 := by kernel_rfl
theorem sizeS : (Tryz.prog.info? 170).map (·.size) = some 8 := by kernel_rfl
theorem sizeP : (Tryz.prog.info? 172).map (·.size) = some 8 := by kernel_rfl
theorem sizeR : (Tryz.prog.info? 173).map (·.size) = some 8 := by kernel_rfl
end Go.Proofs.YtlppfocoonnpjaaGreatDoor.U

namespace Go.Proofs.YtlppfocoonnpjaaGreatDoor.U
open Go.RowKit
attribute [local go_sem] alloc_drewN setCell_drewN

/-- The block is a row of elements of this type. -/
def TypeAt (W : World) (g : Nat) (t : Nat) : Prop := ∃ cs fr, W.heap[g]? = some (.cells cs t fr)
theorem own_type {W W2 : World} {base e size n g t : Nat} {v : Value} {xs : List Value} (h : W.ownsRow base e size v n xs) (hg : W.grownBy W2 (some g)) (ht : TypeAt W g t) (hne : t ≠ e) : W2.ownsRow base e size v n xs := by
  refine h.kept hg (Or.inr fun e' => ?_)
  rcases h.2 with ⟨rfl, _⟩ | ⟨g', cap, cur, rfl, _, hc, _⟩
  · cases e'
  · simp [Value.ownBlock] at e'
    subst e'
    obtain ⟨cs, fr, h2⟩ := ht
    rw [h2] at hc
    simp only [Option.some.injEq, Obj.cells.injEq] at hc
    exact hne hc.2.1
theorem box_type {W W2 : World} {b g t t' : Nat} {cs : Array Value} {fr : Nat × Nat} (h : W.heap[b]? = some (.cells cs t' fr)) (hg : W.grownBy W2 (some g)) (ht : TypeAt W g t) (hne : t ≠ t') : W2.heap[b]? = some (.cells cs t' fr) := by
  have hlt : b < W.heap.size := by
    rcases Nat.lt_or_ge b W.heap.size with h' | h'
    · exact h'
    · rw [Array.getElem?_eq_none h'] at h; cases h
  refine (hg.block b hlt (fun e => ?_)).trans h
  simp only [Option.some.injEq] at e
  subst e
  obtain ⟨cs', fr', h2⟩ := ht
  rw [h2] at h
  simp only [Option.some.injEq, Obj.cells.injEq] at h
  exact hne h.2.1
theorem type_box {W : World} {b t : Nat} {cs : Array Value} {fr : Nat × Nat} (h : W.heap[b]? = some (.cells cs t fr)) : TypeAt W b t := ⟨_, _, h⟩
theorem type_own {W : World} {base e size n g o cap : Nat} {xs : List Value} (h : W.ownsRow base e size (.slice (some ⟨g, o, none⟩) n cap) n xs) : TypeAt W g e := by
  rcases h.2 with ⟨h1, _⟩ | ⟨g', cap', cur, h1, _, hc, _⟩
  · cases h1
  · simp only [Value.slice.injEq, Option.some.injEq, Addr.mk.injEq] at h1
    obtain ⟨⟨rfl, -, -⟩, -⟩ := h1
    exact ⟨_, _, hc⟩
theorem own_mono {W : World} {base base' e size n : Nat} {v : Value} {xs : List Value} (h : W.ownsRow base' e size v n xs) (hle : base ≤ base') : W.ownsRow base e size v n xs := by
  refine ⟨h.1, ?_⟩
  rcases h.2 with h | ⟨g, cap, cur, h1, h2, h3⟩
  · exact .inl h
  · exact .inr ⟨g, cap, cur, h1, by omega, h3⟩

section
variable {α : Type} {S : Shape α}
/-- What append does of two slices: the first one owned, the second one read. -/
theorem run_append_row (w : World) (t ty e : TypeId) (z : Value) (bytes : Nat)
    (ht : Tryz.prog.underlying t = some (.slice e)) (hinfo : (Tryz.prog.info? e).map (fun i => (i.zero, i.size, i.bytes)) = some (some z, S.k, bytes)) (hzs : z.cells.size = S.k)
    (base : Nat) (v : Value) (n : Nat) (xs : List α) (hown : w.ownsRow base e S.k v n (S.cells xs))
    (ad : Addr) (m c : Nat) (ys : List α) (hl : ys.length = m) (hcells : ∀ i y, ys[i]? = some y → ∀ j u, (S.f y)[j]? = some u → w.cell? (ad.add (i * S.k + j)) = some u)
    (hlim : (n + m) * bytes ≤ 140737488355328) (h63 : n + m ≤ 9223372036854775807) (hbase : base ≤ w.heap.size) :
    ∃ a' cap' w', (Builtin.append_ #[t, t] ty #[v, .slice (some ad) m c]).run Tryz.prog w = .ok (.slice a' (n + m) cap') w' ∧ w'.ownsRow base e S.k (.slice a' (n + m) cap') (n + m) (S.cells (xs ++ ys)) ∧ w.grownBy w' v.ownBlock ∧ ((Value.slice a' (n + m) cap').ownBlock = v.ownBlock ∨ (Value.slice a' (n + m) cap').ownBlock = some w.heap.size) := by
  obtain ⟨i0, hi, hz0, hz1, hz2⟩ := info_parts hinfo
  obtain ⟨v', w', hr, h2, h3, _, h5⟩ := run_append_own_at (P := Tryz.prog) w base t ty e i0 z S.k bytes ht hi hz0 hz1 hz2 hzs S.pos v n (S.cells xs) hown ad m c (S.cells ys) (by rw [S.cells_length, hl]) (by
    intro j u hu
    obtain ⟨i, j', y, rfl, h1, h2⟩ := S.cells_at _ _ _ hu
    exact hcells i y h1 j' u h2) (S.cells_one ys) (by unfold maxLen; omega) hlim hbase
  obtain ⟨a', cap', rfl⟩ := own_form h2
  exact ⟨a', cap', w', hr, by rw [S.cells_append]; exact h2, h3, h5⟩
/-- append of a nil slice: nothing. -/
theorem run_append_nothing (w : World) (t ty e : TypeId) (z : Value) (bytes : Nat) (ht : Tryz.prog.underlying t = some (.slice e)) (hinfo : (Tryz.prog.info? e).map (fun i => (i.zero, i.size, i.bytes)) = some (some z, S.k, bytes)) (ad : Addr) (cap cap' : Nat) :
    (Builtin.append_ #[t, t] ty #[.slice (some ad) 0 cap, .slice none 0 cap']).run Tryz.prog w = .ok (.slice (some ad) 0 cap) w := by
  obtain ⟨i0, hi, hz0, hz1, hz2⟩ := info_parts hinfo
  simp [Builtin.append_, run_underlying ht, sizeOf, typeInfo, hi, Builtin.lenOf, Builtin.firstCells, loadCells, loadCellsFrom, storeCells]
/-- append onto an empty literal: a copy. -/
theorem run_copy {lo : Nat} (w : World) (t ty e : TypeId) (z : Value) (bytes : Nat)
    (ht : Tryz.prog.underlying t = some (.slice e)) (hinfo : (Tryz.prog.info? e).map (fun i => (i.zero, i.size, i.bytes)) = some (some z, S.k, bytes)) (hzs : z.cells.size = S.k)
    (base g : Nat) (hown : w.ownsRow base e S.k (.slice (some ⟨g, 0, none⟩) 0 0) 0 [])
    (u : Value) (ys : List α) (hu : RowAt S lo w u ys) (hlim : ys.length * bytes ≤ 140737488355328) (hbase : base ≤ w.heap.size) :
    ∃ a' cap' w', (Builtin.append_ #[t, t] ty #[.slice (some ⟨g, 0, none⟩) 0 0, u]).run Tryz.prog w = .ok (.slice a' ys.length cap') w' ∧ w'.ownsRow base e S.k (.slice a' ys.length cap') ys.length (S.cells ys) ∧ w.grownBy w' (some g) := by
  obtain ⟨hl, a, cap, rfl, ha⟩ := hu
  cases a with
  | none =>
    have h0 : ys.length = 0 := by
      rcases Nat.eq_zero_or_pos ys.length with e | e
      · exact e
      · obtain ⟨g, o, h, _⟩ := ha e; cases h
    obtain rfl := List.length_eq_zero_iff.1 h0
    exact ⟨_, _, _, run_append_nothing (S := S) w t ty e z bytes ht hinfo _ _ _, hown, grownBy_refl _ _⟩
  | some ad =>
    obtain ⟨a', cap', w', hr, h2, h3, _⟩ := run_append_row (S := S) w t ty e z bytes ht hinfo hzs base (.slice (some ⟨g, 0, none⟩) 0 0) 0 [] hown ad ys.length cap ys rfl (fun i y hy j u hu => by
      obtain ⟨g', o, h, _, hc⟩ := ha (by
        rcases Nat.eq_zero_or_pos ys.length with e | e
        · rw [List.length_eq_zero_iff.1 e] at hy; simp at hy
        · exact e)
      cases h
      rw [Go.WideShapes.add_plain, ← Nat.add_assoc]
      exact hc i y hy j u hu) (by rw [Nat.zero_add]; exact hlim) (by omega) hbase
    rw [Nat.zero_add] at hr h2
    exact ⟨a', cap', w', hr, h2, h3⟩
/-- At the operation. -/
theorem wp_copy {lo : Nat} {o : Oper} {a : Act} {K : Act → World → Prop} {Q : Exit → Act → World → Prop} (w : World) (s x : Operand) (t : TypeId)
    (ho : o.op = .call { callee := .builtin .append, args := #[s, x], argTypes := #[t, t] }) (e : TypeId) (z : Value) (bytes : Nat)
    (ht : Tryz.prog.underlying t = some (.slice e)) (hinfo : (Tryz.prog.info? e).map (fun i => (i.zero, i.size, i.bytes)) = some (some z, S.k, bytes)) (hzs : z.cells.size = S.k)
    (base g : Nat) (hs : a.eval s = .slice (some ⟨g, 0, none⟩) 0 0) (hown : w.ownsRow base e S.k (.slice (some ⟨g, 0, none⟩) 0 0) 0 [])
    (u : Value) (ys : List α) (hx : a.eval x = u) (hu : RowAt S lo w u ys) (hlim : ys.length * bytes ≤ 140737488355328) (hbase : base ≤ w.heap.size)
    (h : ∀ a' cap' w', w'.ownsRow base e S.k (.slice a' ys.length cap') ys.length (S.cells ys) → w.grownBy w' (some g) → K (a.put o.dst (.slice a' ys.length cap')) w') : o.wp Tryz.prog a w K Q := by
  obtain ⟨a', cap', w', hr, h2, h3⟩ := run_copy (S := S) w t o.type e z bytes ht hinfo hzs base g hown u ys hu hlim hbase
  unfold Oper.wp execOp
  simp only [ho, resolve, invoke, builtin, Sem.run_bind, Sem.run_pure, Result.andThen_ok, List.map_toArray, List.map_cons, List.map_nil, hs, hx, hr]
  exact h a' cap' w' h2 h3
theorem wpList_copy {lo : Nat} {ops : Array Oper} {rest : List Oper} {o : Oper} {a : Act} {Q : Exit → Act → World → Prop} (w : World) (hgd : o.guard = none) (s x : Operand) (t : TypeId)
    (ho : o.op = .call { callee := .builtin .append, args := #[s, x], argTypes := #[t, t] }) (e : TypeId) (z : Value) (bytes : Nat)
    (ht : Tryz.prog.underlying t = some (.slice e)) (hinfo : (Tryz.prog.info? e).map (fun i => (i.zero, i.size, i.bytes)) = some (some z, S.k, bytes)) (hzs : z.cells.size = S.k)
    (base g : Nat) (hs : a.eval s = .slice (some ⟨g, 0, none⟩) 0 0) (hown : w.ownsRow base e S.k (.slice (some ⟨g, 0, none⟩) 0 0) 0 [])
    (u : Value) (ys : List α) (hx : a.eval x = u) (hu : RowAt S lo w u ys) (hlim : ys.length * bytes ≤ 140737488355328) (hbase : base ≤ w.heap.size)
    (h : ∀ a' cap' w', w'.ownsRow base e S.k (.slice a' ys.length cap') ys.length (S.cells ys) → w.grownBy w' (some g) → wpList Tryz.prog ops Q rest (a.put o.dst (.slice a' ys.length cap')) w') : wpList Tryz.prog ops Q (o :: rest) a w :=
  wpList_plain hgd fun _ hK => wp_copy (S := S) w s x t ho e z bytes ht hinfo hzs base g hs hown u ys hx hu hlim hbase fun a' cap' w' h2 h3 => hK _ _ (h a' cap' w' h2 h3)
end
theorem lit_own (w : World) (e k : Nat) : (w.alloc (.cells #[] e)).ownsRow w.heap.size e k (.slice (some ⟨w.heap.size, 0, none⟩) 0 0) 0 [] := World.ownsRow_lit w #[] 0 (Nat.le_refl _) (by unfold maxLen; omega) (by simp)

theorem step_copy {α : Type} {S : Shape α} {lo : Nat} {ops : Array Oper} {o : Oper} {a : Act} {K : Act → World → Prop} {Q : Exit → Act → World → Prop} {E : Prop} (w : World) (hgd : o.guard = none) (s x : Operand) (t : TypeId)
    (ho : o.op = .call { callee := .builtin .append, args := #[s, x], argTypes := #[t, t] }) (e : TypeId) (z : Value) (bytes : Nat)
    (ht : Tryz.prog.underlying t = some (.slice e)) (hinfo : (Tryz.prog.info? e).map (fun i => (i.zero, i.size, i.bytes)) = some (some z, S.k, bytes)) (hzs : z.cells.size = S.k)
    (base g : Nat) (hs : a.eval s = .slice (some ⟨g, 0, none⟩) 0 0) (hown : w.ownsRow base e S.k (.slice (some ⟨g, 0, none⟩) 0 0) 0 [])
    (u : Value) (ys : List α) (hx : a.eval x = u) (hu : RowAt S lo w u ys) (hlim : ys.length * bytes ≤ 140737488355328) (hbase : base ≤ w.heap.size)
    (h : ∀ a' cap' w', w'.ownsRow base e S.k (.slice a' ys.length cap') ys.length (S.cells ys) → w.grownBy w' (some g) → K (a.put o.dst (.slice a' ys.length cap')) w') :
    if Region.wanted o (yielded ops a.tmps) = true then Oper.wp Tryz.prog o a w K Q else E := by
  have hw : Region.wanted o (yielded ops a.tmps) = true := by simp [Region.wanted, hgd]
  rw [if_pos hw]
  exact wp_copy (S := S) w s x t ho e z bytes ht hinfo hzs base g hs hown u ys hx hu hlim hbase h
theorem hp_up {W : World} {b : Nat} {x : Obj} (h : W.heap[b]? = some x) (o : Obj) : (W.alloc o).heap[b]? = some x := by
  have hlt : b < W.heap.size := by
    rcases Nat.lt_or_ge b W.heap.size with h' | h'
    · exact h'
    · rw [Array.getElem?_eq_none h'] at h; cases h
  exact ((World.grownBy_alloc W o none).block b hlt (by simp)).trans h
theorem hp_keep {W W2 : World} {b : Nat} {x : Obj} (h : W.heap[b]? = some x) (hg : W.grownBy W2 none) : W2.heap[b]? = some x := by
  have hlt : b < W.heap.size := by
    rcases Nat.lt_or_ge b W.heap.size with h' | h'
    · exact h'
    · rw [Array.getElem?_eq_none h'] at h; cases h
  exact (hg.block b hlt (by simp)).trans h
theorem own_app {W W2 : World} {base e size n base2 e2 size2 n2 : Nat} {v v2 : Value} {xs ys : List Value} (h : W.ownsRow base2 e2 size2 v2 n2 ys) (hv : W.ownsRow base e size v n xs) (hg : W.grownBy W2 v.ownBlock) (hne : e ≠ e2) : W2.ownsRow base2 e2 size2 v2 n2 ys := by
  rcases hv.2 with ⟨rfl, _⟩ | ⟨g, cap, cur, rfl, _, hc, _⟩
  · exact own_kept h hg
  · exact own_type h hg ⟨_, _, hc⟩ hne
theorem box_app {W W2 : World} {base e size n b t : Nat} {cs : Array Value} {fr : Nat × Nat} {v : Value} {xs : List Value} (h : W.heap[b]? = some (.cells cs t fr)) (hv : W.ownsRow base e size v n xs) (hg : W.grownBy W2 v.ownBlock) (hne : e ≠ t) : W2.heap[b]? = some (.cells cs t fr) := by
  have hlt : b < W.heap.size := by
    rcases Nat.lt_or_ge b W.heap.size with h' | h'
    · exact h'
    · rw [Array.getElem?_eq_none h'] at h; cases h
  rcases hv.2 with ⟨rfl, _⟩ | ⟨g, cap, cur, rfl, _, hc, _⟩
  · exact (hg.block b hlt (by simp [Value.ownBlock])).trans h
  · exact box_type h hg ⟨_, _, hc⟩ hne
theorem grown_app {wb W W2 : World} {base e size n : Nat} {v : Value} {xs : List Value} (h : wb.grownBy W none) (hv : W.ownsRow base e size v n xs) (hb : wb.heap.size ≤ base) (hg : W.grownBy W2 v.ownBlock) : wb.grownBy W2 none := by
  rcases hv.2 with ⟨rfl, _⟩ | ⟨g, cap, cur, rfl, hbg, _⟩
  · exact grownBy_trans h hg
  · exact grown_spoil h (Nat.le_trans hb hbg) hg
theorem step_app {α : Type} {S : Shape α} {ops : Array Oper} {o : Oper} {a : Act} {K : Act → World → Prop} {Q : Exit → Act → World → Prop} {E : Prop} (w : World) (hgd : o.guard = none) (s x : Operand) (t : TypeId)
    (ho : o.op = .call { callee := .builtin .append, args := #[s, x], argTypes := #[t, t] }) (e : TypeId) (z : Value) (bytes : Nat)
    (ht : Tryz.prog.underlying t = some (.slice e)) (hinfo : (Tryz.prog.info? e).map (fun i => (i.zero, i.size, i.bytes)) = some (some z, S.k, bytes)) (hzs : z.cells.size = S.k)
    (base : Nat) (v : Value) (n : Nat) (xs : List α) (hs : a.eval s = v) (hown : w.ownsRow base e S.k v n (S.cells xs))
    (ad : Addr) (m c : Nat) (ys : List α) (hx : a.eval x = .slice (some ad) m c) (hl : ys.length = m) (hcells : ∀ i y, ys[i]? = some y → ∀ j u, (S.f y)[j]? = some u → w.cell? (ad.add (i * S.k + j)) = some u)
    (hlim : (n + m) * bytes ≤ 140737488355328) (h63 : n + m ≤ 9223372036854775807) (hbase : base ≤ w.heap.size)
    (h : ∀ a' cap' w', w'.ownsRow base e S.k (.slice a' (n + m) cap') (n + m) (S.cells (xs ++ ys)) → w.grownBy w' v.ownBlock → K (a.put o.dst (.slice a' (n + m) cap')) w') :
    if Region.wanted o (yielded ops a.tmps) = true then Oper.wp Tryz.prog o a w K Q else E := by
  have hw : Region.wanted o (yielded ops a.tmps) = true := by simp [Region.wanted, hgd]
  rw [if_pos hw]
  obtain ⟨a', cap', w', hr, h2, h3, _⟩ := run_append_row (S := S) w t o.type e z bytes ht hinfo hzs base v n xs hown ad m c ys hl hcells hlim h63 hbase
  unfold Oper.wp execOp
  simp only [ho, resolve, invoke, builtin, Sem.run_bind, Sem.run_pure, Result.andThen_ok, List.map_toArray, List.map_cons, List.map_nil, hs, hx, hr]
  exact h a' cap' w' h2 h3
theorem one_at {α : Type} (S : Shape α) {W : World} {g t : Nat} (x : α) (h : W.heap[g]? = some (.cells (S.f x).toArray t (0, 0))) : ∀ i y, [x][i]? = some y → ∀ j u, (S.f y)[j]? = some u → W.cell? ((⟨g, 0, none⟩ : Addr).add (i * S.k + j)) = some u := by
  intro i y hy j u hu
  cases i with
  | zero =>
    simp only [List.getElem?_cons_zero, Option.some.injEq] at hy
    subst hy
    rw [Nat.zero_mul, Nat.zero_add, Go.WideShapes.add_plain, Nat.zero_add, blk_cell h]
    simpa using hu
  | succ i => simp at hy
theorem step_appd {α : Type} {S : Shape α} {ops : Array Oper} {o : Oper} {a : Act} {K : Act → World → Prop} {Q : Exit → Act → World → Prop} {E : Prop} (w : World) (hgd : o.guard = none) (s x : Operand) (t : TypeId)
    (ho : o.op = .call { callee := .builtin .append, args := #[s, x], argTypes := #[t, t] }) (e : TypeId) (z : Value) (bytes : Nat)
    (ht : Tryz.prog.underlying t = some (.slice e)) (hinfo : (Tryz.prog.info? e).map (fun i => (i.zero, i.size, i.bytes)) = some (some z, S.k, bytes)) (hzs : z.cells.size = S.k)
    (base : Nat) (v : Value) (n : Nat) (xs : List α) (hs : a.eval s = v) (hown : w.ownsRow base e S.k v n (S.cells xs))
    (ad : Addr) (m c : Nat) (ys : List α) (hx : a.eval x = .slice (some ad) m c) (hl : ys.length = m) (hcells : ∀ i y, ys[i]? = some y → ∀ j u, (S.f y)[j]? = some u → w.cell? (ad.add (i * S.k + j)) = some u)
    (hlim : (n + m) * bytes ≤ 140737488355328) (h63 : n + m ≤ 9223372036854775807) (hbase : base ≤ w.heap.size)
    (k : Nat) (hd : o.dst = some k)
    (h : ∀ a' cap' w', w'.ownsRow base e S.k (.slice a' (n + m) cap') (n + m) (S.cells (xs ++ ys)) → w.grownBy w' v.ownBlock → K (a.put (some k) (.slice a' (n + m) cap')) w') :
    if Region.wanted o (yielded ops a.tmps) = true then Oper.wp Tryz.prog o a w K Q else E :=
  step_app (S := S) w hgd s x t ho e z bytes ht hinfo hzs base v n xs hs hown ad m c ys hx hl hcells hlim h63 hbase fun a' c' w' h2 h3 => by rw [hd]; exact h a' c' w' h2 h3
theorem step_copyd {α : Type} {S : Shape α} {lo : Nat} {ops : Array Oper} {o : Oper} {a : Act} {K : Act → World → Prop} {Q : Exit → Act → World → Prop} {E : Prop} (w : World) (hgd : o.guard = none) (s x : Operand) (t : TypeId)
    (ho : o.op = .call { callee := .builtin .append, args := #[s, x], argTypes := #[t, t] }) (e : TypeId) (z : Value) (bytes : Nat)
    (ht : Tryz.prog.underlying t = some (.slice e)) (hinfo : (Tryz.prog.info? e).map (fun i => (i.zero, i.size, i.bytes)) = some (some z, S.k, bytes)) (hzs : z.cells.size = S.k)
    (base g : Nat) (hs : a.eval s = .slice (some ⟨g, 0, none⟩) 0 0) (hown : w.ownsRow base e S.k (.slice (some ⟨g, 0, none⟩) 0 0) 0 [])
    (u : Value) (ys : List α) (hx : a.eval x = u) (hu : RowAt S lo w u ys) (hlim : ys.length * bytes ≤ 140737488355328) (hbase : base ≤ w.heap.size)
    (k : Nat) (hd : o.dst = some k)
    (h : ∀ a' cap' w', w'.ownsRow base e S.k (.slice a' ys.length cap') ys.length (S.cells ys) → w.grownBy w' (some g) → K (a.put (some k) (.slice a' ys.length cap')) w') :
    if Region.wanted o (yielded ops a.tmps) = true then Oper.wp Tryz.prog o a w K Q else E :=
  step_copy (S := S) w hgd s x t ho e z bytes ht hinfo hzs base g hs hown u ys hx hu hlim hbase fun a' c' w' h2 h3 => by rw [hd]; exact h a' c' w' h2 h3
theorem step_copyn {α : Type} {S : Shape α} {lo : Nat} {ops : Array Oper} {o : Oper} {a : Act} {K : Act → World → Prop} {Q : Exit → Act → World → Prop} {E : Prop} (w : World) (hgd : o.guard = none) (s x : Operand) (t : TypeId)
    (ho : o.op = .call { callee := .builtin .append, args := #[s, x], argTypes := #[t, t] }) (e : TypeId) (z : Value) (bytes : Nat)
    (ht : Tryz.prog.underlying t = some (.slice e)) (hinfo : (Tryz.prog.info? e).map (fun i => (i.zero, i.size, i.bytes)) = some (some z, S.k, bytes)) (hzs : z.cells.size = S.k)
    (base g : Nat) (hs : a.eval s = .slice (some ⟨g, 0, none⟩) 0 0) (hown : w.ownsRow base e S.k (.slice (some ⟨g, 0, none⟩) 0 0) 0 [])
    (u : Value) (ys : List α) (hx : a.eval x = u) (hu : RowAt S lo w u ys) (n : Nat) (hn : ys.length = n) (hlim : n * bytes ≤ 140737488355328) (hbase : base ≤ w.heap.size)
    (k : Nat) (hd : o.dst = some k)
    (h : ∀ a' cap' w', w'.ownsRow base e S.k (.slice a' n cap') n (S.cells ys) → w.grownBy w' (some g) → K (a.put (some k) (.slice a' n cap')) w') :
    if Region.wanted o (yielded ops a.tmps) = true then Oper.wp Tryz.prog o a w K Q else E := by
  subst hn
  exact step_copyd (S := S) w hgd s x t ho e z bytes ht hinfo hzs base g hs hown u ys hx hu hlim hbase k hd h
theorem wpList_copyn {α : Type} {S : Shape α} {lo : Nat} {ops : Array Oper} {rest : List Oper} {o : Oper} {a : Act} {Q : Exit → Act → World → Prop} (w : World) (hgd : o.guard = none) (s x : Operand) (t : TypeId)
    (ho : o.op = .call { callee := .builtin .append, args := #[s, x], argTypes := #[t, t] }) (e : TypeId) (z : Value) (bytes : Nat)
    (ht : Tryz.prog.underlying t = some (.slice e)) (hinfo : (Tryz.prog.info? e).map (fun i => (i.zero, i.size, i.bytes)) = some (some z, S.k, bytes)) (hzs : z.cells.size = S.k)
    (base g : Nat) (hs : a.eval s = .slice (some ⟨g, 0, none⟩) 0 0) (hown : w.ownsRow base e S.k (.slice (some ⟨g, 0, none⟩) 0 0) 0 [])
    (u : Value) (ys : List α) (hx : a.eval x = u) (hu : RowAt S lo w u ys) (n : Nat) (hn : ys.length = n) (hlim : n * bytes ≤ 140737488355328) (hbase : base ≤ w.heap.size)
    (h : ∀ a' cap' w', w'.ownsRow base e S.k (.slice a' n cap') n (S.cells ys) → w.grownBy w' (some g) → wpList Tryz.prog ops Q rest (a.put o.dst (.slice a' n cap')) w') : wpList Tryz.prog ops Q (o :: rest) a w := by
  subst hn
  exact wpList_copy (S := S) w hgd s x t ho e z bytes ht hinfo hzs base g hs hown u ys hx hu hlim hbase h
theorem Own.off {base g : Nat} {W W1 : World} {v : Value} {xs : List Int} (h : Own base W v xs) (hg : W.grownBy W1 (some g)) (hb : g < base) : Own base W1 v xs := own_off h hg hb
theorem Own.type {base g t : Nat} {W W1 : World} {v : Value} {xs : List Int} (h : Own base W v xs) (hg : W.grownBy W1 (some g)) (ht : TypeAt W g t) (hne : t ≠ 3) : Own base W1 v xs := own_type h hg ht hne
end Go.Proofs.YtlppfocoonnpjaaGreatDoor.U

namespace Go.Proofs.YtlppfocoonnpjaaGreatDoor.U
open Go.RowKit
attribute [local go_sem] alloc_drewN setCell_drewN

theorem infoN : (Tryz.prog.info? 3).map (fun i => (i.zero, i.size, i.bytes)) = some (some (.int .i64 0), 1, 8) := by kernel_rfl

set_option maxRecDepth 100000 in
set_option maxHeartbeats 1000000 in
theorem copied_any {lo : Nat} (v : Value) (zs : List Int) (hz : zs.length ≤ 17592186043904) (w : World) (hv : RowAt shN lo w v zs) :
    Calls Tryz.prog 88 #[v] w fun e w' => ∃ v', e = .returned v' ∧ Own w.heap.size w' v' zs ∧ w.grownBy w' none := by
  obtain ⟨-, a, cap, rfl, ha⟩ := hv
  cases a with
  | none =>
    have h0 : zs.length = 0 := by
      rcases Nat.eq_zero_or_pos zs.length with e | e
      · exact e
      · obtain ⟨g, o, h, _⟩ := ha e; cases h
    obtain rfl := List.length_eq_zero_iff.1 h0
    clear ha h0 hz
    go_enter Tryz.func88, Tryz.ntmps88
    go_wp2
    go_ret
    exact ⟨_, rfl, own_nil _ _, grownBy_refl _ _⟩
  | some ad =>
    have hc : ∀ i y, zs[i]? = some y → ∀ j u, (shN.f y)[j]? = some u → w.cell? (ad.add (i * shN.k + j)) = some u := fun i y hy j u hu => by
      obtain ⟨g, o, h, -, hc⟩ := ha (by have := (List.getElem?_eq_some_iff.1 hy).1; omega)
      cases h
      rw [Go.WideShapes.add_plain, ← Nat.add_assoc]
      exact hc i y hy j u hu
    have HC := hide hc
    have HO : Hid (∀ v' W, W.ownsRow w.heap.size 3 shN.k v' zs.length (shN.cells zs) → Own w.heap.size W v' zs) := hide (fun v' W h => h)
    clear ha hc
    generalize hN : zs.length = n at *
    have HN := hide hN
    clear hN
    go_enter Tryz.func88, Tryz.ntmps88
    go_wp2_with (at_builtin; refine app_row (S := shN) _ rfl _ _ 61 3 (.int .i64 0) 8 Tryz.underlying61 infoN rfl rfl w.heap.size (.slice none 0 0) 0 [] rfl ?c0 ad n cap zs rfl HN.out ?c1 ?c2 ?c3 ?c4 ?_)
    case c0 => exact World.ownsRow_nil w _ _ _
    case c1 => exact HC.out
    case c2 => omega
    case c3 => omega
    case c4 => exact Nat.le_refl _
    intro a2 cap2 w2 hown2 hgrow2 _
    have HO2 := hide (HO.out _ _ (by simpa using hown2))
    have HG := hide hgrow2
    clear hown2 hgrow2 HO
    go_wp2
    go_ret
    exact ⟨_, by first | rfl | simp, by simpa using HO2.out, HG.out⟩

/-- A kind's cells. -/
abbrev kindC (t : TaskV) (L : Int) (v : Value) : Array Value := #[.int .i64 t.kind, .int .i64 t.period, .int .i64 t.deadline, .int .i64 t.clow, .int .i64 t.chigh, .int .i64 t.prio, .int .i64 L, v]
/-- A kind as an interface's value. -/
def kindV (t : TaskV) (L : Int) (v : Value) : Value := if t.kind = 1 then .iface 172 (.agg (kindC t L v)) else .iface 173 (.agg (kindC t L v))

set_option maxRecDepth 100000 in
set_option maxHeartbeats 1000000 in
theorem kindOf_any (t : TaskV) (L : Int) (a : Option Addr) (n cap : Nat) (w : World) :
    Calls Tryz.prog 90 #[taskVal t, .agg #[.int .i64 L, .slice a n cap]] w fun e w' => e = .returned (kindV t L (.slice a n cap)) ∧ w.grownBy w' none := by
  unfold kindV
  obtain ⟨x0, x1, x2, x3, x4, x5⟩ := t
  dsimp only [kindC]
  by_cases h1 : x0 = 1
  · subst h1
    rw [if_pos rfl]
    go_enter Tryz.func90, Tryz.ntmps90
    go_wp2
    go_ret
    exact ⟨rfl, grownBy_trans (grownBy_trans (World.grownBy_alloc _ _ _) (World.grownBy_alloc _ _ _)) (World.grownBy_alloc _ _ _)⟩
  · rw [if_neg h1]
    go_enter Tryz.func90, Tryz.ntmps90
    go_wp2
    go_ret
    exact ⟨rfl, grownBy_trans (grownBy_trans (World.grownBy_alloc _ _ _) (World.grownBy_alloc _ _ _)) (World.grownBy_alloc _ _ _)⟩

set_option maxRecDepth 100000 in
set_option maxHeartbeats 1000000 in
theorem waits_any (t : TaskV) (L : Int) (a : Option Addr) (n cap : Nat) (w : World) :
    Calls Tryz.prog 159 #[.agg (kindC t L (.slice a n cap))] w fun e w' => e = .returned (.bool (decide (0 < n))) ∧ w.grownBy w' none := by
  obtain ⟨x0, x1, x2, x3, x4, x5⟩ := t
  dsimp only [kindC]
  go_enter Tryz.func159, Tryz.ntmps159
  go_wp2
  go_ret
  exact ⟨by first | rfl | simp, World.grownBy_alloc _ _ _⟩
set_option maxRecDepth 100000 in
set_option maxHeartbeats 1000000 in
theorem slate_any (t : TaskV) (L : Int) (a : Option Addr) (n cap : Nat) (now : Int) (w : World) :
    Calls Tryz.prog 157 #[.agg (kindC t L (.slice a n cap)), .int .i64 now] w fun e w' => e = .returned (.bool false) ∧ w.grownBy w' none := by
  obtain ⟨x0, x1, x2, x3, x4, x5⟩ := t
  dsimp only [kindC]
  go_enter Tryz.func157, Tryz.ntmps157
  go_wp2
  go_ret
  exact ⟨rfl, World.grownBy_alloc _ _ _⟩
set_option maxRecDepth 100000 in
set_option maxHeartbeats 1000000 in
theorem rcomes_any (t : TaskV) (L : Int) (a : Option Addr) (n cap : Nat) (now : Int) (w : World) (hp : 1 ≤ t.period) (h0 : 0 ≤ now) :
    Calls Tryz.prog 162 #[.agg (kindC t L (.slice a n cap)), .int .i64 now] w fun e w' => e = .returned (.bool (decide (now % t.period = 0))) ∧ w.grownBy w' none := by
  obtain ⟨x0, x1, x2, x3, x4, x5⟩ := t
  dsimp only [kindC] at *
  go_enter Tryz.func162, Tryz.ntmps162
  go_wp2
  go_ret
  exact ⟨by first | rfl | simp, World.grownBy_alloc _ _ _⟩
set_option maxRecDepth 100000 in
set_option maxHeartbeats 1000000 in
theorem plate_any (t : TaskV) (L : Int) (a : Option Addr) (n cap : Nat) (zs : List Int) (hn : zs.length = n) (now : Int) (w : World) (hL : -1 ≤ L) (hL2 : L ≤ 1099511627776) (h0 : 0 ≤ now) (h1 : now ≤ 1099511627776) :
    Calls Tryz.prog 161 #[.agg (kindC t L (.slice a n cap)), .int .i64 now] w fun e w' => e = .returned (.bool (waitsB t ⟨L, zs⟩ now)) ∧ w.grownBy w' none := by
  have C := hide (waits_any t L a n cap)
  unfold waitsB
  dsimp only
  rw [hn]
  clear hn
  obtain ⟨x0, x1, x2, x3, x4, x5⟩ := t
  dsimp only [kindC] at *
  generalize hb : decide (0 < n) = b at *
  clear hb
  cases b with
  | false =>
    rw [Bool.false_and]
    go_enter Tryz.func161, Tryz.ntmps161
    go_wp2_with (first | fail)
    refine (C.out _).mono ?_; rintro e w1 ⟨rfl, hg⟩
    have HG := hide (grownBy_trans (World.grownBy_alloc _ _ _) hg)
    clear hg
    go_wp2
    go_ret
    exact ⟨rfl, HG.out⟩
  | true =>
    rw [Bool.true_and]
    by_cases hm : L = -1
    · subst hm
      rw [decide_eq_true rfl, Bool.not_true, Bool.false_and]
      go_enter Tryz.func161, Tryz.ntmps161
      go_wp2_with (first | fail)
      refine (C.out _).mono ?_; rintro e w1 ⟨rfl, hg⟩
      have hc := box_grown (heap_alloc_new w _) hg (by simp)
      have HG := hide (grownBy_trans (World.grownBy_alloc _ _ _) hg)
      have c6 : w1.cell? ⟨w.heap.size, 6, none⟩ = some (.int .i64 (-1)) := blk_cell hc 6
      clear hg hc
      go_wp2
      go_ret
      exact ⟨rfl, HG.out⟩
    · rw [decide_eq_false hm, Bool.not_false, Bool.true_and]
      go_enter Tryz.func161, Tryz.ntmps161
      go_wp2_with (first | fail)
      refine (C.out _).mono ?_; rintro e w1 ⟨rfl, hg⟩
      have hc := box_grown (heap_alloc_new w _) hg (by simp)
      have HG := hide (grownBy_trans (World.grownBy_alloc _ _ _) hg)
      have c6 : w1.cell? ⟨w.heap.size, 6, none⟩ = some (.int .i64 L) := blk_cell hc 6
      have c1 : w1.cell? ⟨w.heap.size, 1, none⟩ = some (.int .i64 x1) := blk_cell hc 1
      clear hg hc
      go_wp2
      go_ret
      exact ⟨by simp [hm], HG.out⟩
set_option maxRecDepth 100000 in
set_option maxHeartbeats 1000000 in
theorem pcomes_any (t : TaskV) (L : Int) (a : Option Addr) (n cap : Nat) (zs : List Int) (hn : zs.length = n) (now : Int) (w : World) (hL : -1 ≤ L) (hL2 : L ≤ 1099511627776) (h0 : 0 ≤ now) (h1 : now ≤ 1099511627776) :
    Calls Tryz.prog 160 #[.agg (kindC t L (.slice a n cap)), .int .i64 now] w fun e w' => e = .returned (.bool (decide (0 < n) && !waitsB t ⟨L, zs⟩ now)) ∧ w.grownBy w' none := by
  have C := hide (waits_any t L a n cap)
  have C2 := hide (fun W => plate_any t L a n cap zs hn now W hL hL2 h0 h1)
  generalize waitsB t ⟨L, zs⟩ now = d at *
  obtain ⟨x0, x1, x2, x3, x4, x5⟩ := t
  dsimp only [kindC] at *
  generalize hb : decide (0 < n) = b at *
  clear hb hn
  cases b with
  | false =>
    rw [Bool.false_and]
    go_enter Tryz.func160, Tryz.ntmps160
    go_wp2_with (first | fail)
    refine (C.out _).mono ?_; rintro e w1 ⟨rfl, hg⟩
    have HG := hide (grownBy_trans (World.grownBy_alloc _ _ _) hg)
    clear hg
    go_wp2
    go_ret
    exact ⟨rfl, HG.out⟩
  | true =>
    rw [Bool.true_and]
    go_enter Tryz.func160, Tryz.ntmps160
    go_wp2_with (first | fail)
    refine (C.out _).mono ?_; rintro e w1 ⟨rfl, hg⟩
    have hc := box_grown (heap_alloc_new w _) hg (by simp)
    have HG := hide (grownBy_trans (World.grownBy_alloc _ _ _) hg)
    have c0 : w1.cell? ⟨w.heap.size, 0, none⟩ = some (.int .i64 x0) := blk_cell hc 0
    have c1 : w1.cell? ⟨w.heap.size, 1, none⟩ = some (.int .i64 x1) := blk_cell hc 1
    have c2 : w1.cell? ⟨w.heap.size, 2, none⟩ = some (.int .i64 x2) := blk_cell hc 2
    have c3 : w1.cell? ⟨w.heap.size, 3, none⟩ = some (.int .i64 x3) := blk_cell hc 3
    have c4 : w1.cell? ⟨w.heap.size, 4, none⟩ = some (.int .i64 x4) := blk_cell hc 4
    have c5 : w1.cell? ⟨w.heap.size, 5, none⟩ = some (.int .i64 x5) := blk_cell hc 5
    have c6 : w1.cell? ⟨w.heap.size, 6, none⟩ = some (.int .i64 L) := blk_cell hc 6
    have c7 : w1.cell? ⟨w.heap.size, 7, none⟩ = some (.slice a n cap) := blk_cell hc 7
    clear hg hc
    go_wp2_with (first | fail)
    refine (C2.out _).mono ?_; rintro e w2 ⟨rfl, hg⟩
    have HG2 := hide (grownBy_trans HG.out hg)
    clear hg
    go_wp2
    go_ret
    exact ⟨by first | rfl | simp, HG2.out⟩

set_option maxRecDepth 100000 in
set_option maxHeartbeats 4000000 in
theorem kept_any {lo : Nat} (t : TaskV) (L : Int) (a : Option Addr) (n cap : Nat) (zs : List Int) (hz : zs.length ≤ 17592186043904) (w : World) (hv : RowAt shN lo w (.slice a n cap) zs) :
    Calls Tryz.prog 156 #[.agg (kindC t L (.slice a n cap))] w fun e w' => ∃ v', e = .returned (.agg #[.int .i64 L, v']) ∧ Own (w.heap.size + 2) w' v' zs ∧ w.grownBy w' none := by
  have C := hide (fun W (hg : w.grownBy W none) => copied_any (.slice a n cap) zs hz W (hv.grown hg))
  clear hv hz
  obtain ⟨x0, x1, x2, x3, x4, x5⟩ := t
  dsimp only [kindC]
  go_enter Tryz.func156, Tryz.ntmps156
  go_upto_region 1 with (first | fail)
  have HG := hide (grownBy_trans (World.grownBy_alloc w (.cells #[.int .i64 x0, .int .i64 x1, .int .i64 x2, .int .i64 x3, .int .i64 x4, .int .i64 x5, .int .i64 L, .slice a n cap] 170) none) (World.grownBy_alloc _ (.cells #[.int .i64 0, .slice none 0 0] 93) none))
  have HB := hide (hp_up (heap_alloc_new w (.cells #[.int .i64 x0, .int .i64 x1, .int .i64 x2, .int .i64 x3, .int .i64 x4, .int .i64 x5, .int .i64 L, .slice a n cap] 170)) (.cells #[.int .i64 0, .slice none 0 0] 93))
  have HR := hide (alloc_next w (.cells #[.int .i64 x0, .int .i64 x1, .int .i64 x2, .int .i64 x3, .int .i64 x4, .int .i64 x5, .int .i64 L, .slice a n cap] 170) (.cells #[.int .i64 0, .slice none 0 0] 93))
  generalize (w.alloc (.cells #[.int .i64 x0, .int .i64 x1, .int .i64 x2, .int .i64 x3, .int .i64 x4, .int .i64 x5, .int .i64 L, .slice a n cap] 170)).alloc (.cells #[.int .i64 0, .slice none 0 0] 93) = wr at *
  refine wp_region_held_drew (S := fun W => W.heap[w.heap.size]? = some (.cells #[.int .i64 x0, .int .i64 x1, .int .i64 x2, .int .i64 x3, .int .i64 x4, .int .i64 x5, .int .i64 L, .slice a n cap] 170 (0, 0))) (by kernel_rfl) HB.out (fun hHeld => ?_)
  have HGd : Hid (w.grownBy wr.drew none) := hide (grownBy_trans HG.out (grownBy_draws wr 1 none))
  have HBd : Hid (wr.drew.heap[w.heap.size]? = some (.cells #[.int .i64 x0, .int .i64 x1, .int .i64 x2, .int .i64 x3, .int .i64 x4, .int .i64 x5, .int .i64 L, .slice a n cap] 170 (0, 0))) := hide HB.out
  have HRd : Hid (wr.drew.heap[w.heap.size + 1]? = some (.cells #[.int .i64 0, .slice none 0 0] 93 (0, 0))) := hide HR.out
  clear HG HB HR
  generalize wr.drew = W at *
  have HG := HGd
  have HB := HBd
  have HR := HRd
  clear HGd HBd HRd
  have HL : Hid (w.heap.size + 2 ≤ W.heap.size) := hide (by have := box_lt HR.out; omega)
  refine take_put (i := 0) (v := .pointer (some ⟨w.heap.size, 6, none⟩)) 3 rfl rfl (by kernel_rfl) (by kernel_rfl) (by kernel_rfl) (fun _ _ _ h => h) (Or.inl ⟨by rfl, by intro Wy hSW; go_simp⟩) (by assumption) ?_
  (try simp only [Act.put, List.setIfInBounds_toArray, List.set_cons_zero, List.set_cons_succ])
  refine take_put (i := 1) (v := .pointer (some ⟨w.heap.size, 6, none⟩)) 4 rfl rfl (by kernel_rfl) (by kernel_rfl) (by kernel_rfl) (fun _ _ _ h => h) (Or.inl ⟨by rfl, by intro Wy hSW; go_simp⟩) (by assumption) ?_
  (try simp only [Act.put, List.setIfInBounds_toArray, List.set_cons_zero, List.set_cons_succ])
  refine take_put (i := 2) (v := .int .i64 L) 5 rfl rfl (by kernel_rfl) (by kernel_rfl) (by kernel_rfl) (fun _ _ _ h => h) (Or.inl ⟨by rfl, by intro Wy hSW; have hc := blk_cell hSW 6; go_simp⟩) (by assumption) ?_
  (try simp only [Act.put, List.setIfInBounds_toArray, List.set_cons_zero, List.set_cons_succ])
  refine take_put (i := 3) (v := .pointer (some ⟨w.heap.size, 6, none⟩)) 6 rfl rfl (by kernel_rfl) (by kernel_rfl) (by kernel_rfl) (fun _ _ _ h => h) (Or.inl ⟨by rfl, by intro Wy hSW; go_simp⟩) (by assumption) ?_
  (try simp only [Act.put, List.setIfInBounds_toArray, List.set_cons_zero, List.set_cons_succ])
  refine take_put (i := 4) (v := .pointer (some ⟨w.heap.size, 7, none⟩)) 7 rfl rfl (by kernel_rfl) (by kernel_rfl) (by kernel_rfl) (fun _ _ _ h => h) (Or.inl ⟨by rfl, by intro Wy hSW; go_simp⟩) (by assumption) ?_
  (try simp only [Act.put, List.setIfInBounds_toArray, List.set_cons_zero, List.set_cons_succ])
  refine take_put (i := 5) (v := .slice a n cap) 8 rfl rfl (by kernel_rfl) (by kernel_rfl) (by kernel_rfl) (fun _ _ _ h => h) (Or.inl ⟨by rfl, by intro Wy hSW; have hc := blk_cell hSW 7; go_simp⟩) (by assumption) ?_
  (try simp only [Act.put, List.setIfInBounds_toArray, List.set_cons_zero, List.set_cons_succ])
  refine wpAnyH_ready (rs := [6]) (by kernel_rfl) (by simp) ?_
  refine AllReadyH.cons rfl (fun K hK => ?_) AllReadyH.nil
  go_simp
  refine (C.out _ HG.out).mono ?_; rintro e W1 ⟨v1, rfl, ho, hg⟩
  have HO := hide (ho.base HL.out)
  obtain ⟨u, m, c, rfl⟩ : ∃ u m c, v1 = .slice u m c := by obtain ⟨u, c, e⟩ := own_form ho; exact ⟨u, _, c, e⟩
  have HBn := hide (box_grown HB.out hg (by simp))
  have HRn := hide (box_grown HR.out hg (by simp))
  have HGn := hide (grownBy_trans HG.out hg)
  clear hHeld ho hg HB HR HG
  have HB := HBn
  have HR := HRn
  have HG := HGn
  clear HBn HRn HGn
  refine hK.out _ _ HB.out (fun hHeld => ?_)
  clear hK K
  (try simp only [Act.put])
  refine take_put (i := 7) (v := .agg #[.int .i64 L, .slice u m c]) 10 rfl rfl (by kernel_rfl) (by kernel_rfl) (by kernel_rfl) (fun _ _ _ h => h) (Or.inl ⟨by rfl, by intro Wy hSW; go_simp⟩) (by assumption) ?_
  (try simp only [Act.put, List.setIfInBounds_toArray, List.set_cons_zero, List.set_cons_succ])
  refine wpAnyH_ready (rs := [8]) (by kernel_rfl) (by simp) ?_
  refine AllReadyH.cons rfl (fun K hK => ?_) AllReadyH.nil
  refine step_store 93 (.tmp 2) (.tmp 10) (w.heap.size + 1) #[.int .i64 L, .slice u m c] 93 #[.int .i64 0, .slice none 0 0] rfl rfl HR.out sizeU rfl (by simp [Value.oneCell']) ?_
  intro W2 h1 e1 g1
  have HBn := hide ((e1 w.heap.size (by omega)).trans HB.out)
  have HRn := hide h1
  have HGn := hide (grown_spoil HG.out (Nat.le_succ _) g1)
  have HOn := hide (HO.out.off g1 (by omega))
  clear hHeld h1 e1 g1 HB HR HG HO
  have HB := HBn
  have HR := HRn
  have HG := HGn
  have HO := HOn
  clear HBn HRn HGn HOn
  refine hK.out _ _ HB.out (fun hHeld => ?_)
  clear hK K
  (try simp only [Act.put])
  refine wpAnyH_done (by kernel_rfl) ?_ _
  clear hHeld
  go_wp2
  refine bodyPost_ret (results_cell_row rfl _ _ (w.heap.size + 1) 93 #[.int .i64 L, .slice u m c] (0, 0) _ rfl HR.out Tryz.underlying93 rfl sizeU) rfl ?_
  exact ⟨_, rfl, HO.out, HG.out⟩
#print axioms kept_any
end Go.Proofs.YtlppfocoonnpjaaGreatDoor.U
