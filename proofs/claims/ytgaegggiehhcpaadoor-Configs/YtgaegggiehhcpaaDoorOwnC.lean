/- Rows and configurations of the call's own, told apart by their types; contracts of the statements' own CopyTasks and CopyInstrs, proved over the translation. -/
import Derived.Test.YtgaegggiehhcpaaDoorCheck
namespace Go.Proofs.YtgaegggiehhcpaaDoor.Cp
open Go.RowKit
attribute [local go_sem] alloc_drewN setCell_drewN

/-- The block is a row of elements of this type. -/
def TypeAt (W : World) (g : Nat) (t : Nat) : Prop := ∃ cs fr, W.heap[g]? = some (.cells cs t fr)
theorem own_type {W W2 : World} {base e size n g t : Nat} {v : Value} {xs : List Value} (h : W.ownsRow base e size v n xs) (hg : W.grownBy W2 (some g)) (ht : TypeAt W g t) (hne : t ≠ e) : W2.ownsRow base e size v n xs := by
  refine h.kept hg (Or.inr fun e' => ?_)
  rcases h.2 with ⟨rfl, _⟩ | ⟨g', cap, cur, rfl, _, hc, _⟩
  · cases e'
  · simp [Value.ownBlock] at e'
    subst e'
    obtain ⟨cs, fr, h2⟩ := ht
    rw [h2] at hc
    simp only [Option.some.injEq, Obj.cells.injEq] at hc
    exact hne hc.2.1
theorem box_type {W W2 : World} {b g t t' : Nat} {cs : Array Value} {fr : Nat × Nat} (h : W.heap[b]? = some (.cells cs t' fr)) (hg : W.grownBy W2 (some g)) (ht : TypeAt W g t) (hne : t ≠ t') : W2.heap[b]? = some (.cells cs t' fr) := by
  have hlt : b < W.heap.size := by
    rcases Nat.lt_or_ge b W.heap.size with h' | h'
    · exact h'
    · rw [Array.getElem?_eq_none h'] at h; cases h
  refine (hg.block b hlt (fun e => ?_)).trans h
  simp only [Option.some.injEq] at e
  subst e
  obtain ⟨cs', fr', h2⟩ := ht
  rw [h2] at h
  simp only [Option.some.injEq, Obj.cells.injEq] at h
  exact hne h.2.1
theorem type_box {W : World} {b t : Nat} {cs : Array Value} {fr : Nat × Nat} (h : W.heap[b]? = some (.cells cs t fr)) : TypeAt W b t := ⟨_, _, h⟩
theorem type_own {W : World} {base e size n g o cap : Nat} {xs : List Value} (h : W.ownsRow base e size (.slice (some ⟨g, o, none⟩) n cap) n xs) : TypeAt W g e := by
  rcases h.2 with ⟨h1, _⟩ | ⟨g', cap', cur, h1, _, hc, _⟩
  · cases h1
  · simp only [Value.slice.injEq, Option.some.injEq, Addr.mk.injEq] at h1
    obtain ⟨⟨rfl, -, -⟩, -⟩ := h1
    exact ⟨_, _, hc⟩
theorem own_mono {W : World} {base base' e size n : Nat} {v : Value} {xs : List Value} (h : W.ownsRow base' e size v n xs) (hle : base ≤ base') : W.ownsRow base e size v n xs := by
  refine ⟨h.1, ?_⟩
  rcases h.2 with h | ⟨g, cap, cur, h1, h2, h3⟩
  · exact .inl h
  · exact .inr ⟨g, cap, cur, h1, by omega, h3⟩

section
variable {α : Type} {S : Shape α}
/-- What append does of two slices: the first one owned, the second one read. -/
theorem run_append_row (w : World) (t ty e : TypeId) (z : Value) (bytes : Nat)
    (ht : Tryd.prog.underlying t = some (.slice e)) (hinfo : (Tryd.prog.info? e).map (fun i => (i.zero, i.size, i.bytes)) = some (some z, S.k, bytes)) (hzs : z.cells.size = S.k)
    (base : Nat) (v : Value) (n : Nat) (xs : List α) (hown : w.ownsRow base e S.k v n (S.cells xs))
    (ad : Addr) (m c : Nat) (ys : List α) (hl : ys.length = m) (hcells : ∀ i y, ys[i]? = some y → ∀ j u, (S.f y)[j]? = some u → w.cell? (ad.add (i * S.k + j)) = some u)
    (hlim : (n + m) * bytes ≤ 140737488355328) (h63 : n + m ≤ 9223372036854775807) (hbase : base ≤ w.heap.size) :
    ∃ a' cap' w', (Builtin.append_ #[t, t] ty #[v, .slice (some ad) m c]).run Tryd.prog w = .ok (.slice a' (n + m) cap') w' ∧ w'.ownsRow base e S.k (.slice a' (n + m) cap') (n + m) (S.cells (xs ++ ys)) ∧ w.grownBy w' v.ownBlock ∧ ((Value.slice a' (n + m) cap').ownBlock = v.ownBlock ∨ (Value.slice a' (n + m) cap').ownBlock = some w.heap.size) := by
  obtain ⟨i0, hi, hz0, hz1, hz2⟩ := info_parts hinfo
  obtain ⟨v', w', hr, h2, h3, _, h5⟩ := run_append_own_at (P := Tryd.prog) w base t ty e i0 z S.k bytes ht hi hz0 hz1 hz2 hzs S.pos v n (S.cells xs) hown ad m c (S.cells ys) (by rw [S.cells_length, hl]) (by
    intro j u hu
    obtain ⟨i, j', y, rfl, h1, h2⟩ := S.cells_at _ _ _ hu
    exact hcells i y h1 j' u h2) (S.cells_one ys) (by unfold maxLen; omega) hlim hbase
  obtain ⟨a', cap', rfl⟩ := own_form h2
  exact ⟨a', cap', w', hr, by rw [S.cells_append]; exact h2, h3, h5⟩
/-- append of a nil slice: nothing. -/
theorem run_append_nothing (w : World) (t ty e : TypeId) (z : Value) (bytes : Nat) (ht : Tryd.prog.underlying t = some (.slice e)) (hinfo : (Tryd.prog.info? e).map (fun i => (i.zero, i.size, i.bytes)) = some (some z, S.k, bytes)) (ad : Addr) (cap cap' : Nat) :
    (Builtin.append_ #[t, t] ty #[.slice (some ad) 0 cap, .slice none 0 cap']).run Tryd.prog w = .ok (.slice (some ad) 0 cap) w := by
  obtain ⟨i0, hi, hz0, hz1, hz2⟩ := info_parts hinfo
  simp [Builtin.append_, run_underlying ht, sizeOf, typeInfo, hi, Builtin.lenOf, Builtin.firstCells, loadCells, loadCellsFrom, storeCells]
/-- append onto an empty literal: a copy. -/
theorem run_copy {lo : Nat} (w : World) (t ty e : TypeId) (z : Value) (bytes : Nat)
    (ht : Tryd.prog.underlying t = some (.slice e)) (hinfo : (Tryd.prog.info? e).map (fun i => (i.zero, i.size, i.bytes)) = some (some z, S.k, bytes)) (hzs : z.cells.size = S.k)
    (base g : Nat) (hown : w.ownsRow base e S.k (.slice (some ⟨g, 0, none⟩) 0 0) 0 [])
    (u : Value) (ys : List α) (hu : RowAt S lo w u ys) (hlim : ys.length * bytes ≤ 140737488355328) (hbase : base ≤ w.heap.size) :
    ∃ a' cap' w', (Builtin.append_ #[t, t] ty #[.slice (some ⟨g, 0, none⟩) 0 0, u]).run Tryd.prog w = .ok (.slice a' ys.length cap') w' ∧ w'.ownsRow base e S.k (.slice a' ys.length cap') ys.length (S.cells ys) ∧ w.grownBy w' (some g) := by
  obtain ⟨hl, a, cap, rfl, ha⟩ := hu
  cases a with
  | none =>
    have h0 : ys.length = 0 := by
      rcases Nat.eq_zero_or_pos ys.length with e | e
      · exact e
      · obtain ⟨g, o, h, _⟩ := ha e; cases h
    obtain rfl := List.length_eq_zero_iff.1 h0
    exact ⟨_, _, _, run_append_nothing (S := S) w t ty e z bytes ht hinfo _ _ _, hown, grownBy_refl _ _⟩
  | some ad =>
    obtain ⟨a', cap', w', hr, h2, h3, _⟩ := run_append_row (S := S) w t ty e z bytes ht hinfo hzs base (.slice (some ⟨g, 0, none⟩) 0 0) 0 [] hown ad ys.length cap ys rfl (fun i y hy j u hu => by
      obtain ⟨g', o, h, _, hc⟩ := ha (by
        rcases Nat.eq_zero_or_pos ys.length with e | e
        · rw [List.length_eq_zero_iff.1 e] at hy; simp at hy
        · exact e)
      cases h
      rw [Go.WideShapes.add_plain, ← Nat.add_assoc]
      exact hc i y hy j u hu) (by rw [Nat.zero_add]; exact hlim) (by omega) hbase
    rw [Nat.zero_add] at hr h2
    exact ⟨a', cap', w', hr, h2, h3⟩
/-- At the operation. -/
theorem wp_copy {lo : Nat} {o : Oper} {a : Act} {K : Act → World → Prop} {Q : Exit → Act → World → Prop} (w : World) (s x : Operand) (t : TypeId)
    (ho : o.op = .call { callee := .builtin .append, args := #[s, x], argTypes := #[t, t] }) (e : TypeId) (z : Value) (bytes : Nat)
    (ht : Tryd.prog.underlying t = some (.slice e)) (hinfo : (Tryd.prog.info? e).map (fun i => (i.zero, i.size, i.bytes)) = some (some z, S.k, bytes)) (hzs : z.cells.size = S.k)
    (base g : Nat) (hs : a.eval s = .slice (some ⟨g, 0, none⟩) 0 0) (hown : w.ownsRow base e S.k (.slice (some ⟨g, 0, none⟩) 0 0) 0 [])
    (u : Value) (ys : List α) (hx : a.eval x = u) (hu : RowAt S lo w u ys) (hlim : ys.length * bytes ≤ 140737488355328) (hbase : base ≤ w.heap.size)
    (h : ∀ a' cap' w', w'.ownsRow base e S.k (.slice a' ys.length cap') ys.length (S.cells ys) → w.grownBy w' (some g) → K (a.put o.dst (.slice a' ys.length cap')) w') : o.wp Tryd.prog a w K Q := by
  obtain ⟨a', cap', w', hr, h2, h3⟩ := run_copy (S := S) w t o.type e z bytes ht hinfo hzs base g hown u ys hu hlim hbase
  unfold Oper.wp execOp
  simp only [ho, resolve, invoke, builtin, Sem.run_bind, Sem.run_pure, Result.andThen_ok, List.map_toArray, List.map_cons, List.map_nil, hs, hx, hr]
  exact h a' cap' w' h2 h3
theorem wpList_copy {lo : Nat} {ops : Array Oper} {rest : List Oper} {o : Oper} {a : Act} {Q : Exit → Act → World → Prop} (w : World) (hgd : o.guard = none) (s x : Operand) (t : TypeId)
    (ho : o.op = .call { callee := .builtin .append, args := #[s, x], argTypes := #[t, t] }) (e : TypeId) (z : Value) (bytes : Nat)
    (ht : Tryd.prog.underlying t = some (.slice e)) (hinfo : (Tryd.prog.info? e).map (fun i => (i.zero, i.size, i.bytes)) = some (some z, S.k, bytes)) (hzs : z.cells.size = S.k)
    (base g : Nat) (hs : a.eval s = .slice (some ⟨g, 0, none⟩) 0 0) (hown : w.ownsRow base e S.k (.slice (some ⟨g, 0, none⟩) 0 0) 0 [])
    (u : Value) (ys : List α) (hx : a.eval x = u) (hu : RowAt S lo w u ys) (hlim : ys.length * bytes ≤ 140737488355328) (hbase : base ≤ w.heap.size)
    (h : ∀ a' cap' w', w'.ownsRow base e S.k (.slice a' ys.length cap') ys.length (S.cells ys) → w.grownBy w' (some g) → wpList Tryd.prog ops Q rest (a.put o.dst (.slice a' ys.length cap')) w') : wpList Tryd.prog ops Q (o :: rest) a w :=
  wpList_plain hgd fun _ hK => wp_copy (S := S) w s x t ho e z bytes ht hinfo hzs base g hs hown u ys hx hu hlim hbase fun a' cap' w' h2 h3 => hK _ _ (h a' cap' w' h2 h3)
end
theorem lit_own (w : World) (e k : Nat) : (w.alloc (.cells #[] e)).ownsRow w.heap.size e k (.slice (some ⟨w.heap.size, 0, none⟩) 0 0) 0 [] := World.ownsRow_lit w #[] 0 (Nat.le_refl _) (by unfold maxLen; omega) (by simp)

theorem infoT : (Tryd.prog.info? 52).map (fun i => (i.zero, i.size, i.bytes)) = some (some (.agg #[.int .i64 0, .int .i64 0, .int .i64 0, .int .i64 0, .int .i64 0, .int .i64 0]), 6, 48) := by kernel_rfl
theorem infoI : (Tryd.prog.info? 54).map (fun i => (i.zero, i.size, i.bytes)) = some (some (.agg #[.int .i64 0, .int .i64 0]), 2, 16) := by kernel_rfl
theorem infoW : (Tryd.prog.info? 59).map (fun i => (i.zero, i.size, i.bytes)) = some (some (.agg #[.int .i64 0, .int .i64 0, .int .i64 0]), 3, 24) := by kernel_rfl
theorem infoO : (Tryd.prog.info? 57).map (fun i => (i.zero, i.size, i.bytes)) = some (some (.agg #[.int .i64 0, .int .i64 0, .int .i64 0, .int .i64 0]), 4, 32) := by kernel_rfl
theorem infoP : (Tryd.prog.info? 50).map (fun i => (i.zero, i.size, i.bytes)) = some (some (.agg #[.int .i64 0, .slice none 0 0, .slice none 0 0]), 3, 56) := by kernel_rfl

set_option maxRecDepth 100000 in
set_option maxHeartbeats 1000000 in
theorem copyT_any {lo : Nat} (v : Value) (ts : List TaskV) (w : World) (hv : RowAt shT lo w v ts) (hb : ts.length * 48 ≤ 140737488355328) :
    Calls Tryd.prog 21 #[v] w fun e w' => ∃ a' cap', e = .returned (.slice a' ts.length cap') ∧ w'.ownsRow w.heap.size 52 6 (.slice a' ts.length cap') ts.length (shT.cells ts) ∧ w.grownBy w' none := by
  have HV := hide (fun W => hv.grown (W := W))
  have HS := hide (show ∃ a n c, v = .slice a n c by obtain ⟨_, a, cap, rfl, _⟩ := hv; exact ⟨_, _, _, rfl⟩)
  clear hv
  obtain ⟨va, vn, vc, rfl⟩ := HS.out
  go_enter Tryd.func21, Tryd.ntmps21
  go_wp2_with (at_builtin; refine wpList_copy (S := shT) _ rfl _ _ 47 rfl 52 _ 48 Tryd.underlying47 infoT rfl w.heap.size w.heap.size rfl (lit_own w 52 6) _ ts rfl (HV.out _ (World.grownBy_alloc _ _ _)) hb (by simp) ?_)
  intro a2 cap2 w2 hown2 hgrow2
  have HO := hide hown2
  have HG := hide (grown_spoil (World.grownBy_alloc w (.cells #[] 52) none) (Nat.le_refl _) hgrow2)
  clear hown2 hgrow2
  go_wp2
  go_ret
  exact ⟨_, _, rfl, HO.out, HG.out⟩
set_option maxRecDepth 100000 in
set_option maxHeartbeats 1000000 in
theorem copyI_any {lo : Nat} (v : Value) (ts : List Ins) (w : World) (hv : RowAt shI lo w v ts) (hb : ts.length * 16 ≤ 140737488355328) :
    Calls Tryd.prog 22 #[v] w fun e w' => ∃ a' cap', e = .returned (.slice a' ts.length cap') ∧ w'.ownsRow w.heap.size 54 2 (.slice a' ts.length cap') ts.length (shI.cells ts) ∧ w.grownBy w' none := by
  have HV := hide (fun W => hv.grown (W := W))
  have HS := hide (show ∃ a n c, v = .slice a n c by obtain ⟨_, a, cap, rfl, _⟩ := hv; exact ⟨_, _, _, rfl⟩)
  clear hv
  obtain ⟨va, vn, vc, rfl⟩ := HS.out
  go_enter Tryd.func22, Tryd.ntmps22
  go_wp2_with (at_builtin; refine wpList_copy (S := shI) _ rfl _ _ 48 rfl 54 _ 16 Tryd.underlying48 infoI rfl w.heap.size w.heap.size rfl (lit_own w 54 2) _ ts rfl (HV.out _ (World.grownBy_alloc _ _ _)) hb (by simp) ?_)
  intro a2 cap2 w2 hown2 hgrow2
  have HO := hide hown2
  have HG := hide (grown_spoil (World.grownBy_alloc w (.cells #[] 54) none) (Nat.le_refl _) hgrow2)
  clear hown2 hgrow2
  go_wp2
  go_ret
  exact ⟨_, _, rfl, HO.out, HG.out⟩
#print axioms copyI_any
end Go.Proofs.YtgaegggiehhcpaaDoor.Cp
