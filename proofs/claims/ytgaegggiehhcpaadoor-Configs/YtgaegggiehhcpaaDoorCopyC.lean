/- The contract of the statements' own CopyConfig, proved over the translation: another configuration, all of it in new memory. -/
import Derived.Test.YtgaegggiehhcpaaDoorOwnC
import Derived.Test.YtgaegggiehhcpaaDoorStill
import Derived.Test.YtgaegggiehhcpaaDoorOpen
namespace Go.Proofs.YtgaegggiehhcpaaDoor.Cp
open Go.RowKit
attribute [local go_sem] alloc_drewN setCell_drewN

theorem take_put {P : Program} {md : Region.Mode} {ops : Array Oper} {Q : Exit → Act → World → Prop} {S : World → Prop} {i : Nat} {oi : Oper} {v : Value} {fuel : Nat} {listed : Array Bool} {a : Act} {w : World} (d : Nat) (hi : ops[i]? = some oi) (hd : oi.dst = some d)
    (hs : Region.noSelect ops = true) (hf : Region.free md ops listed i = true) (hr : (Region.ready md ops listed).contains i = true)
    (hQ : ∀ c a w, Q (.panic c) (a.put oi.dst v) w → Q (.panic c) a w) (hy : YieldsIf P ops S oi v a) (hS : S w)
    (h : wpAnyH P md ops Q S fuel (listed.setIfInBounds i true) (a.put (some d) v) w) : wpAnyH P md ops Q S (fuel + 1) listed a w :=
  wpAnyH_take hi hs hf hr hQ hy hS (by rw [hd]; exact h)
theorem step_copy {α : Type} {S : Shape α} {lo : Nat} {ops : Array Oper} {o : Oper} {a : Act} {K : Act → World → Prop} {Q : Exit → Act → World → Prop} {E : Prop} (w : World) (hgd : o.guard = none) (s x : Operand) (t : TypeId)
    (ho : o.op = .call { callee := .builtin .append, args := #[s, x], argTypes := #[t, t] }) (e : TypeId) (z : Value) (bytes : Nat)
    (ht : Tryd.prog.underlying t = some (.slice e)) (hinfo : (Tryd.prog.info? e).map (fun i => (i.zero, i.size, i.bytes)) = some (some z, S.k, bytes)) (hzs : z.cells.size = S.k)
    (base g : Nat) (hs : a.eval s = .slice (some ⟨g, 0, none⟩) 0 0) (hown : w.ownsRow base e S.k (.slice (some ⟨g, 0, none⟩) 0 0) 0 [])
    (u : Value) (ys : List α) (hx : a.eval x = u) (hu : RowAt S lo w u ys) (hlim : ys.length * bytes ≤ 140737488355328) (hbase : base ≤ w.heap.size)
    (h : ∀ a' cap' w', w'.ownsRow base e S.k (.slice a' ys.length cap') ys.length (S.cells ys) → w.grownBy w' (some g) → K (a.put o.dst (.slice a' ys.length cap')) w') :
    if Region.wanted o (yielded ops a.tmps) = true then Oper.wp Tryd.prog o a w K Q else E := by
  have hw : Region.wanted o (yielded ops a.tmps) = true := by simp [Region.wanted, hgd]
  rw [if_pos hw]
  exact wp_copy (S := S) w s x t ho e z bytes ht hinfo hzs base g hs hown u ys hx hu hlim hbase h
theorem hp_up {W : World} {b : Nat} {x : Obj} (h : W.heap[b]? = some x) (o : Obj) : (W.alloc o).heap[b]? = some x := by
  have hlt : b < W.heap.size := by
    rcases Nat.lt_or_ge b W.heap.size with h' | h'
    · exact h'
    · rw [Array.getElem?_eq_none h'] at h; cases h
  exact ((World.grownBy_alloc W o none).block b hlt (by simp)).trans h
theorem hp_keep {W W2 : World} {b : Nat} {x : Obj} (h : W.heap[b]? = some x) (hg : W.grownBy W2 none) : W2.heap[b]? = some x := by
  have hlt : b < W.heap.size := by
    rcases Nat.lt_or_ge b W.heap.size with h' | h'
    · exact h'
    · rw [Array.getElem?_eq_none h'] at h; cases h
  exact (hg.block b hlt (by simp)).trans h
theorem blk_cell {W : World} {b t : Nat} {cs : Array Value} (h : W.heap[b]? = some (.cells cs t (0, 0))) (j : Nat) : W.cell? ⟨b, j, none⟩ = cs[j]? := by simp [World.cell?, h]
theorem blk_free {W : World} {b t : Nat} {cs : Array Value} (h : W.heap[b]? = some (.cells cs t (0, 0))) (j : Nat) : W.frozen? ⟨b, j, none⟩ = false := by simp [World.frozen?, h]
/-- A whole configuration's box written, cell by cell. -/
theorem set5_by (W : World) (B : Nat) (v0 v1 v2 v3 v4 : Value) : W.grownBy (((((W.setCell ⟨B, 0, none⟩ v0).setCell ⟨B, 1, none⟩ v1).setCell ⟨B, 2, none⟩ v2).setCell ⟨B, 3, none⟩ v3).setCell ⟨B, 4, none⟩ v4) (some B) :=
  grownBy_trans (grownBy_set _ _ _ _) (grownBy_trans (grownBy_set _ _ _ _) (grownBy_trans (grownBy_set _ _ _ _) (grownBy_trans (grownBy_set _ _ _ _) (grownBy_set _ _ _ _))))
theorem set5_grown {wb W : World} {B : Nat} (h : wb.grownBy W none) (hB : wb.heap.size ≤ B) (v0 v1 v2 v3 v4 : Value) : wb.grownBy (((((W.setCell ⟨B, 0, none⟩ v0).setCell ⟨B, 1, none⟩ v1).setCell ⟨B, 2, none⟩ v2).setCell ⟨B, 3, none⟩ v3).setCell ⟨B, 4, none⟩ v4) none :=
  grown_spoil h hB (set5_by _ _ _ _ _ _ _)
theorem set5_own {W : World} {B base e size n t : Nat} {v : Value} {xs : List Value} (h : W.ownsRow base e size v n xs) (ht : TypeAt W B t) (hne : t ≠ e) {v0 v1 v2 v3 v4 : Value} : (((((W.setCell ⟨B, 0, none⟩ v0).setCell ⟨B, 1, none⟩ v1).setCell ⟨B, 2, none⟩ v2).setCell ⟨B, 3, none⟩ v3).setCell ⟨B, 4, none⟩ v4).ownsRow base e size v n xs :=
  own_type h (set5_by _ _ _ _ _ _ _) ht hne
theorem set5_box {W : World} {B t : Nat} {u0 u1 u2 u3 u4 v0 v1 v2 v3 v4 : Value} (h : W.heap[B]? = some (.cells #[u0, u1, u2, u3, u4] t (0, 0))) : (((((W.setCell ⟨B, 0, none⟩ v0).setCell ⟨B, 1, none⟩ v1).setCell ⟨B, 2, none⟩ v2).setCell ⟨B, 3, none⟩ v3).setCell ⟨B, 4, none⟩ v4).heap[B]? = some (.cells #[v0, v1, v2, v3, v4] t (0, 0)) := by
  simp [World.setCell, Array.getElem?_modify, h]
/-! A configuration of the call's own. -/
def PartOwn (base : Nat) (W : World) (q : PartM) (p : PartV) : Prop := q.level = p.level ∧ W.ownsRow base 52 6 q.tasks p.tasks.length (shT.cells p.tasks) ∧ W.ownsRow base 54 2 q.code p.code.length (shI.cells p.code)
def POwn (base : Nat) (W : World) (v : Value) (ps : List PartV) : Prop := ∃ qs : List PartM, qs.length = ps.length ∧ W.ownsRow base 50 3 v qs.length (shP.cells qs) ∧ ∀ (i : Nat) q p, qs[i]? = some q → ps[i]? = some p → PartOwn base W q p
def COwn (base : Nat) (W : World) (c : Value) (C : ConfV) : Prop := ∃ vp vw vo, c = .agg #[.int .i64 C.frame, .int .i64 C.quiet, vp, vw, vo] ∧ POwn base W vp C.parts ∧ W.ownsRow base 59 3 vw C.wins.length (shW.cells C.wins) ∧ W.ownsRow base 57 4 vo C.ports.length (shO.cells C.ports)
theorem PartOwn.is {base : Nat} {W : World} {q : PartM} {p : PartV} (h : PartOwn base W q p) : PartIs base W q p := ⟨h.1, rowAt_own (S := shT) h.2.1, rowAt_own (S := shI) h.2.2⟩
theorem POwn.at {base : Nat} {W : World} {v : Value} {ps : List PartV} (h : POwn base W v ps) : PartsAt base W v ps := by
  obtain ⟨qs, h1, h2, h3⟩ := h
  exact ⟨qs, h1, rowAt_own (S := shP) h2, fun i q p hq hp => (h3 i q p hq hp).is⟩
theorem COwn.at {base : Nat} {W : World} {c : Value} {C : ConfV} (h : COwn base W c C) : ConfAt base W c C := by
  obtain ⟨vp, vw, vo, rfl, h1, h2, h3⟩ := h
  exact ⟨vp, vw, vo, rfl, h1.at, rowAt_own (S := shW) h2, rowAt_own (S := shO) h3⟩
theorem POwn.grown {base : Nat} {W W2 : World} {v : Value} {ps : List PartV} (h : POwn base W v ps) (hg : W.grownBy W2 none) : POwn base W2 v ps := by
  obtain ⟨qs, h1, h2, h3⟩ := h
  exact ⟨qs, h1, own_kept h2 hg, fun i q p hq hp => ⟨(h3 i q p hq hp).1, own_kept (h3 i q p hq hp).2.1 hg, own_kept (h3 i q p hq hp).2.2 hg⟩⟩
theorem POwn.type {base g t : Nat} {W W2 : World} {v : Value} {ps : List PartV} (h : POwn base W v ps) (hg : W.grownBy W2 (some g)) (ht : TypeAt W g t) (n1 : t ≠ 50) (n2 : t ≠ 52) (n3 : t ≠ 54) : POwn base W2 v ps := by
  obtain ⟨qs, h1, h2, h3⟩ := h
  exact ⟨qs, h1, own_type h2 hg ht n1, fun i q p hq hp => ⟨(h3 i q p hq hp).1, own_type (h3 i q p hq hp).2.1 hg ht n2, own_type (h3 i q p hq hp).2.2 hg ht n3⟩⟩
theorem POwn.mono {base base' : Nat} {W : World} {v : Value} {ps : List PartV} (h : POwn base' W v ps) (hle : base ≤ base') : POwn base W v ps := by
  obtain ⟨qs, h1, h2, h3⟩ := h
  exact ⟨qs, h1, own_mono h2 hle, fun i q p hq hp => ⟨(h3 i q p hq hp).1, own_mono (h3 i q p hq hp).2.1 hle, own_mono (h3 i q p hq hp).2.2 hle⟩⟩
theorem COwn.grown {base : Nat} {W W2 : World} {c : Value} {C : ConfV} (h : COwn base W c C) (hg : W.grownBy W2 none) : COwn base W2 c C := by
  obtain ⟨vp, vw, vo, rfl, h1, h2, h3⟩ := h
  exact ⟨vp, vw, vo, rfl, h1.grown hg, own_kept h2 hg, own_kept h3 hg⟩
/-- Behind an append onto an owned row: what is of another type is as it was. -/
theorem own_app {W W2 : World} {base e size n base2 e2 size2 n2 : Nat} {v v2 : Value} {xs ys : List Value} (h : W.ownsRow base2 e2 size2 v2 n2 ys) (hv : W.ownsRow base e size v n xs) (hg : W.grownBy W2 v.ownBlock) (hne : e ≠ e2) : W2.ownsRow base2 e2 size2 v2 n2 ys := by
  rcases hv.2 with ⟨rfl, _⟩ | ⟨g, cap, cur, rfl, _, hc, _⟩
  · exact own_kept h hg
  · exact own_type h hg ⟨_, _, hc⟩ hne
theorem box_app {W W2 : World} {base e size n b t : Nat} {cs : Array Value} {fr : Nat × Nat} {v : Value} {xs : List Value} (h : W.heap[b]? = some (.cells cs t fr)) (hv : W.ownsRow base e size v n xs) (hg : W.grownBy W2 v.ownBlock) (hne : e ≠ t) : W2.heap[b]? = some (.cells cs t fr) := by
  have hlt : b < W.heap.size := by
    rcases Nat.lt_or_ge b W.heap.size with h' | h'
    · exact h'
    · rw [Array.getElem?_eq_none h'] at h; cases h
  rcases hv.2 with ⟨rfl, _⟩ | ⟨g, cap, cur, rfl, _, hc, _⟩
  · exact (hg.block b hlt (by simp [Value.ownBlock])).trans h
  · exact box_type h hg ⟨_, _, hc⟩ hne
theorem grown_app {wb W W2 : World} {base e size n : Nat} {v : Value} {xs : List Value} (h : wb.grownBy W none) (hv : W.ownsRow base e size v n xs) (hb : wb.heap.size ≤ base) (hg : W.grownBy W2 v.ownBlock) : wb.grownBy W2 none := by
  rcases hv.2 with ⟨rfl, _⟩ | ⟨g, cap, cur, rfl, hbg, _⟩
  · exact grownBy_trans h hg
  · exact grown_spoil h (Nat.le_trans hb hbg) hg
theorem step_app {α : Type} {S : Shape α} {ops : Array Oper} {o : Oper} {a : Act} {K : Act → World → Prop} {Q : Exit → Act → World → Prop} {E : Prop} (w : World) (hgd : o.guard = none) (s x : Operand) (t : TypeId)
    (ho : o.op = .call { callee := .builtin .append, args := #[s, x], argTypes := #[t, t] }) (e : TypeId) (z : Value) (bytes : Nat)
    (ht : Tryd.prog.underlying t = some (.slice e)) (hinfo : (Tryd.prog.info? e).map (fun i => (i.zero, i.size, i.bytes)) = some (some z, S.k, bytes)) (hzs : z.cells.size = S.k)
    (base : Nat) (v : Value) (n : Nat) (xs : List α) (hs : a.eval s = v) (hown : w.ownsRow base e S.k v n (S.cells xs))
    (ad : Addr) (m c : Nat) (ys : List α) (hx : a.eval x = .slice (some ad) m c) (hl : ys.length = m) (hcells : ∀ i y, ys[i]? = some y → ∀ j u, (S.f y)[j]? = some u → w.cell? (ad.add (i * S.k + j)) = some u)
    (hlim : (n + m) * bytes ≤ 140737488355328) (h63 : n + m ≤ 9223372036854775807) (hbase : base ≤ w.heap.size)
    (h : ∀ a' cap' w', w'.ownsRow base e S.k (.slice a' (n + m) cap') (n + m) (S.cells (xs ++ ys)) → w.grownBy w' v.ownBlock → K (a.put o.dst (.slice a' (n + m) cap')) w') :
    if Region.wanted o (yielded ops a.tmps) = true then Oper.wp Tryd.prog o a w K Q else E := by
  have hw : Region.wanted o (yielded ops a.tmps) = true := by simp [Region.wanted, hgd]
  rw [if_pos hw]
  obtain ⟨a', cap', w', hr, h2, h3, _⟩ := run_append_row (S := S) w t o.type e z bytes ht hinfo hzs base v n xs hown ad m c ys hl hcells hlim h63 hbase
  unfold Oper.wp execOp
  simp only [ho, resolve, invoke, builtin, Sem.run_bind, Sem.run_pure, Result.andThen_ok, List.map_toArray, List.map_cons, List.map_nil, hs, hx, hr]
  exact h a' cap' w' h2 h3
theorem one_at {α : Type} (S : Shape α) {W : World} {g t : Nat} (x : α) (h : W.heap[g]? = some (.cells (S.f x).toArray t (0, 0))) : ∀ i y, [x][i]? = some y → ∀ j u, (S.f y)[j]? = some u → W.cell? ((⟨g, 0, none⟩ : Addr).add (i * S.k + j)) = some u := by
  intro i y hy j u hu
  cases i with
  | zero =>
    simp only [List.getElem?_cons_zero, Option.some.injEq] at hy
    subst hy
    rw [Nat.zero_mul, Nat.zero_add, Go.WideShapes.add_plain, Nat.zero_add, blk_cell h]
    simpa using hu
  | succ i => simp at hy
theorem POwn.snoc {base : Nat} {W W2 : World} {v : Value} {ps : List PartV} {p : PartV} {q : PartM} {a' : Option Addr} {c' n : Nat} {qs : List PartM} (h1 : qs.length = ps.length) (h2 : W.ownsRow base 50 3 v n (shP.cells qs)) (h3 : ∀ (i : Nat) q p, qs[i]? = some q → ps[i]? = some p → PartOwn base W q p) (hq : PartOwn base W q p)
    (ho : W2.ownsRow base 50 3 (.slice a' (n + 1) c') (n + 1) (shP.cells (qs ++ [q]))) (hn : qs.length = n) (hg : W.grownBy W2 v.ownBlock) : POwn base W2 (.slice a' (n + 1) c') (ps ++ [p]) := by
  refine ⟨qs ++ [q], by simp [h1], ?_, fun i q' p' hq' hp' => ?_⟩
  · rw [List.length_append, hn]; exact ho
  · have key : PartOwn base W q' p' := by
      rcases Nat.lt_or_ge i qs.length with hi | hi
      · rw [List.getElem?_append_left hi] at hq'
        rw [List.getElem?_append_left (by omega)] at hp'
        exact h3 i q' p' hq' hp'
      · rw [List.getElem?_append_right hi] at hq'
        rw [List.getElem?_append_right (by omega)] at hp'
        rw [← h1] at hp'
        cases hz : i - qs.length with
        | zero =>
          rw [hz] at hq' hp'
          simp only [List.getElem?_cons_zero, Option.some.injEq] at hq' hp'
          subst hq' hp'
          exact hq
        | succ k => rw [hz] at hq'; simp at hq'
    exact ⟨key.1, own_app key.2.1 h2 hg (by decide), own_app key.2.2 h2 hg (by decide)⟩
theorem size26' : (Tryd.prog.info? 26).map (·.size) = some 5 := by kernel_rfl
theorem blk_set2 {W : World} {b t j : Nat} {u : Value} {cs cs' : Array Value} (h : W.heap[b]? = some (.cells cs t (0, 0))) (e : cs.setIfInBounds j u = cs') : (W.setCell ⟨b, j, none⟩ u).heap[b]? = some (.cells cs' t (0, 0)) := by
  subst e
  simp [World.setCell, Array.getElem?_modify, h]
def S5 (b g o j : Nat) (n0 pc : Nat) (q : PartM) (V : World) : Prop := V.cell? ⟨b, 2, none⟩ = some (.slice (some ⟨g, o, none⟩) n0 pc) ∧ V.cell? ⟨g, o + j * 3, none⟩ = some (.int .i64 q.level) ∧ V.cell? ⟨g, o + j * 3 + 1, none⟩ = some (.slice q.ta q.tn q.tc) ∧ V.cell? ⟨g, o + j * 3 + 2, none⟩ = some (.slice q.ca q.cn q.cc)
def SS (w : World) (fr qt : Int) (wa : Option Addr) (wn wc : Nat) (oa : Option Addr) (on oc : Nat) (V : World) : Prop := V.cell? ⟨w.heap.size, 0, none⟩ = some (.int .i64 fr) ∧ V.cell? ⟨w.heap.size, 1, none⟩ = some (.int .i64 qt) ∧ V.cell? ⟨w.heap.size, 3, none⟩ = some (.slice wa wn wc) ∧ V.cell? ⟨w.heap.size, 4, none⟩ = some (.slice oa on oc)

set_option maxRecDepth 100000 in
set_option maxHeartbeats 4000000 in
theorem copy_any {lo : Nat} (c : Value) (C : ConfV) (hbig : Big C) (w : World) (hc : ConfAt lo w c C) :
    Calls Tryd.prog 9 #[c] w fun e w' => ∃ c', e = .returned c' ∧ COwn w.heap.size w' c' C ∧ w.grownBy w' none := by
  obtain ⟨vp, vw, vo, rfl, ⟨qs, hlen, hrow, hel⟩, hw, ho⟩ := hc
  have HRP0 := hide (fun W => hrow.grown (W := W))
  obtain ⟨hln, pa, pc, rfl, -⟩ := hrow
  have HEL0 := hide (fun W (hg : w.grownBy W none) i q p hq hp => (hel i q p hq hp).kept (keep_grown hg))
  have HBP : Hid (∀ p ∈ C.parts, p.tasks.length * 48 ≤ 140737488355328 ∧ p.code.length * 16 ≤ 140737488355328) := fun p hp => by have := hbig.each p hp; unfold reachBytes at this; omega
  have hbP : C.parts.length * 56 + 56 ≤ 140737488355328 := by have := hbig.parts; unfold reachBytes at this; omega
  have HVW0 := hide (fun W => hw.grown (W := W))
  have HVO0 := hide (fun W => ho.grown (W := W))
  obtain ⟨-, wa, wc, rfl, -⟩ := hw
  obtain ⟨-, oa, oc, rfl, -⟩ := ho
  have hbW : C.wins.length * 24 ≤ 140737488355328 := by have := hbig.wins; unfold reachBytes at this; omega
  have hbO : C.ports.length * 32 ≤ 140737488355328 := by have := hbig.ports; unfold reachBytes at this; omega
  have HRET : Hid (∀ base W vp vw vo, POwn base W vp C.parts → W.ownsRow base 59 3 vw C.wins.length (shW.cells C.wins) → W.ownsRow base 57 4 vo C.ports.length (shO.cells C.ports) → COwn base W (.agg #[.int .i64 C.frame, .int .i64 C.quiet, vp, vw, vo]) C) := fun base W vp vw vo h1 h2 h3 => ⟨_, _, _, rfl, h1, h2, h3⟩
  clear hel hbig
  generalize C.frame = fr at *
  generalize C.quiet = qt at *
  generalize C.wins = ws at *
  generalize C.ports = os at *
  generalize C.parts = ps at *
  have HLEN := hide hlen
  clear hlen
  generalize hn0 : qs.length = n0 at *
  have HN0 := hide hn0
  clear hn0
  have hbP2 : n0 * 56 + 56 ≤ 140737488355328 := by have := HLEN.out; omega
  clear hbP
  generalize hwb : (w.alloc (.cells #[.int .i64 fr, .int .i64 qt, .slice pa n0 pc, .slice wa ws.length wc, .slice oa os.length oc] 26)).alloc (.cells #[.int .i64 0, .int .i64 0, .slice none 0 0, .slice none 0 0, .slice none 0 0] 26) = wb
  have HG0 := hide (show w.grownBy wb none by rw [← hwb]; exact grownBy_trans (World.grownBy_alloc _ _ none) (World.grownBy_alloc _ _ none))
  have HSZ := hide (show wb.heap.size = w.heap.size + 1 + 1 by rw [← hwb]; simp)
  have KEEP : Hid (∀ V, wb.grownBy V none → V.cell? ⟨w.heap.size, 0, none⟩ = some (.int .i64 fr) ∧ V.cell? ⟨w.heap.size, 1, none⟩ = some (.int .i64 qt) ∧ V.cell? ⟨w.heap.size, 2, none⟩ = some (.slice pa n0 pc) ∧ V.cell? ⟨w.heap.size, 3, none⟩ = some (.slice wa ws.length wc) ∧ V.cell? ⟨w.heap.size, 4, none⟩ = some (.slice oa os.length oc)) := by
    intro V hV
    have b := fun k => World.cell?_of_block (a := ⟨w.heap.size, k, none⟩) (hV.block w.heap.size (by rw [HSZ.out]; omega) (by simp))
    have c := fun k => show wb.cell? ⟨w.heap.size, k, none⟩ = (w.alloc (.cells #[.int .i64 fr, .int .i64 qt, .slice pa n0 pc, .slice wa ws.length wc, .slice oa os.length oc] 26)).cell? ⟨w.heap.size, k, none⟩ by rw [← hwb]; exact World.cell?_of_block (a := ⟨w.heap.size, k, none⟩) ((World.grownBy_alloc _ _ none).block w.heap.size (by simp) (by simp))
    exact ⟨(b 0).trans ((c 0).trans (by simp)), (b 1).trans ((c 1).trans (by simp)), (b 2).trans ((c 2).trans (by simp)), (b 3).trans ((c 3).trans (by simp)), (b 4).trans ((c 4).trans (by simp))⟩
  have SK : Hid (∀ V, wb.grownBy V none → SS w fr qt wa ws.length wc oa os.length oc V) := fun V hV => ⟨(KEEP.out V hV).1, (KEEP.out V hV).2.1, (KEEP.out V hV).2.2.2.1, (KEEP.out V hV).2.2.2.2⟩
  have HVW := hide (fun V (h : wb.grownBy V none) => HVW0.out V (grownBy_trans HG0.out h))
  have HVO := hide (fun V (h : wb.grownBy V none) => HVO0.out V (grownBy_trans HG0.out h))
  have HRP := hide (fun V (h : wb.grownBy V none) => HRP0.out V (grownBy_trans HG0.out h))
  have HEL := hide (fun V (h : wb.grownBy V none) => HEL0.out V (grownBy_trans HG0.out h))
  have BR := hide (show wb.heap[w.heap.size + 1]? = some (.cells #[.int .i64 0, .int .i64 0, .slice none 0 0, .slice none 0 0, .slice none 0 0] 26 (0, 0)) by
    rw [← hwb]
    have e := heap_alloc_new (w.alloc (.cells #[.int .i64 fr, .int .i64 qt, .slice pa n0 pc, .slice wa ws.length wc, .slice oa os.length oc] 26)) (.cells #[.int .i64 0, .int .i64 0, .slice none 0 0, .slice none 0 0, .slice none 0 0] 26)
    simpa using e)
  go_enter Tryd.func9, Tryd.ntmps9
  go_upto_region 1 with fail
  have HWB := hide hwb
  clear hwb
  go_cut [3] (fun v V => ∃ (B : Nat) (a7 : Option Addr) (c7 : Nat) (a11 : Option Addr) (c11 : Nat), v = .pointer (some ⟨B, 0, none⟩) ∧ Hid (wb.heap.size ≤ B) ∧ Hid (V.heap[B]? = some (.cells #[.int .i64 fr, .int .i64 qt, .slice none 0 0, .slice a7 ws.length c7, .slice a11 os.length c11] 26 (0, 0))) ∧ Hid (V.ownsRow wb.heap.size 59 3 (.slice a7 ws.length c7) ws.length (shW.cells ws)) ∧ Hid (V.ownsRow wb.heap.size 57 4 (.slice a11 os.length c11) os.length (shO.cells os)) ∧ Hid (wb.grownBy V none))
  case first =>
    refine wp_region_noPanic ?_
    refine wp_region_held_drew (S := SS w fr qt wa ws.length wc oa os.length oc) (by kernel_rfl) (SK.out _ (drew_grown _)) (fun hHeld => ?_)
    have HG := hide (show wb.grownBy wb.drew none from drew_grown _)
    generalize wb.drew = W at *
    refine take_put (i := 0) (v := .pointer (some ⟨w.heap.size, 0, none⟩)) 5 rfl rfl (by kernel_rfl) (by kernel_rfl) (by kernel_rfl) (fun _ _ _ h => h) (Or.inl ⟨by rfl, by intro V hSV; go_simp⟩) (by assumption) ?_
    (try simp only [Act.put, List.setIfInBounds_toArray, List.set_cons_zero, List.set_cons_succ])
    refine take_put (i := 1) (v := .int .i64 fr) 6 rfl rfl (by kernel_rfl) (by kernel_rfl) (by kernel_rfl) (fun _ _ _ h => h) (Or.inl ⟨by rfl, by intro V hSV; obtain ⟨s0, s1, s3, s4⟩ := hSV; go_simp⟩) (by assumption) ?_
    (try simp only [Act.put, List.setIfInBounds_toArray, List.set_cons_zero, List.set_cons_succ])
    refine take_put (i := 2) (v := .pointer (some ⟨w.heap.size, 1, none⟩)) 7 rfl rfl (by kernel_rfl) (by kernel_rfl) (by kernel_rfl) (fun _ _ _ h => h) (Or.inl ⟨by rfl, by intro V hSV; go_simp⟩) (by assumption) ?_
    (try simp only [Act.put, List.setIfInBounds_toArray, List.set_cons_zero, List.set_cons_succ])
    refine take_put (i := 3) (v := .int .i64 qt) 8 rfl rfl (by kernel_rfl) (by kernel_rfl) (by kernel_rfl) (fun _ _ _ h => h) (Or.inl ⟨by rfl, by intro V hSV; obtain ⟨s0, s1, s3, s4⟩ := hSV; go_simp⟩) (by assumption) ?_
    (try simp only [Act.put, List.setIfInBounds_toArray, List.set_cons_zero, List.set_cons_succ])
    refine take_put (i := 5) (v := .pointer (some ⟨w.heap.size, 3, none⟩)) 10 rfl rfl (by kernel_rfl) (by kernel_rfl) (by kernel_rfl) (fun _ _ _ h => h) (Or.inl ⟨by rfl, by intro V hSV; go_simp⟩) (by assumption) ?_
    (try simp only [Act.put, List.setIfInBounds_toArray, List.set_cons_zero, List.set_cons_succ])
    refine take_put (i := 6) (v := .slice wa ws.length wc) 11 rfl rfl (by kernel_rfl) (by kernel_rfl) (by kernel_rfl) (fun _ _ _ h => h) (Or.inl ⟨by rfl, by intro V hSV; obtain ⟨s0, s1, s3, s4⟩ := hSV; go_simp⟩) (by assumption) ?_
    (try simp only [Act.put, List.setIfInBounds_toArray, List.set_cons_zero, List.set_cons_succ])
    refine take_put (i := 9) (v := .pointer (some ⟨w.heap.size, 4, none⟩)) 14 rfl rfl (by kernel_rfl) (by kernel_rfl) (by kernel_rfl) (fun _ _ _ h => h) (Or.inl ⟨by rfl, by intro V hSV; go_simp⟩) (by assumption) ?_
    (try simp only [Act.put, List.setIfInBounds_toArray, List.set_cons_zero, List.set_cons_succ])
    refine take_put (i := 10) (v := .slice oa os.length oc) 15 rfl rfl (by kernel_rfl) (by kernel_rfl) (by kernel_rfl) (fun _ _ _ h => h) (Or.inl ⟨by rfl, by intro V hSV; obtain ⟨s0, s1, s3, s4⟩ := hSV; go_simp⟩) (by assumption) ?_
    (try simp only [Act.put, List.setIfInBounds_toArray, List.set_cons_zero, List.set_cons_succ])
    refine wpAnyH_ready (rs := [4, 8, 13]) (by kernel_rfl) (by simp) ?_
    refine AllReadyH.cons rfl (fun K hK => ?_) (AllReadyH.cons rfl (fun K hK => ?_) (AllReadyH.cons rfl (fun K hK => ?_) AllReadyH.nil))
    · go_simp
      have N1 := hide (grownBy_trans HG.out (World.grownBy_alloc W (.cells #[] 59) none))
      have NHL := hide (own_mono (lit_own W 59 3) HG.out.size)
      clear hHeld
      refine hK.out _ _ (SK.out _ N1.out) (fun hHeld => ?_)
      clear hK K HG
      generalize W.alloc (.cells #[] 59) = W2 at *
      generalize W.heap.size = g4 at *
      clear W
      rename World => W
      have HG := N1
      have HL := NHL
      clear N1 NHL
      refine wpAnyH_ready (rs := [7, 8, 13]) (by kernel_rfl) (by simp) ?_
      refine AllReadyH.cons rfl (fun K hK => ?_) (AllReadyH.cons rfl (fun K hK => ?_) (AllReadyH.cons rfl (fun K hK => ?_) AllReadyH.nil))
      · refine step_copy (S := shW) _ rfl _ _ 23 rfl 59 _ 24 Tryd.underlying23 infoW rfl wb.heap.size g4 rfl HL.out _ ws rfl (HVW.out _ HG.out) hbW HG.out.size ?_
        intro a7 c7 W2 ho hgw
        have T := hide (type_own HL.out)
        have N1 := hide (grown_spoil HG.out (HL.out.lt g4 rfl).1 hgw)
        have NHW := hide ho
        clear hHeld
        refine hK.out _ _ (SK.out _ N1.out) (fun hHeld => ?_)
        clear hK K ho hgw T HG HL
        clear W
        (try dsimp only [Act.put])
        rename World => W
        have HG := N1
        have HW := NHW
        clear N1 NHW
        refine wpAnyH_ready (rs := [8, 13]) (by kernel_rfl) (by simp) ?_
        refine AllReadyH.cons rfl (fun K hK => ?_) (AllReadyH.cons rfl (fun K hK => ?_) AllReadyH.nil)
        · go_simp
          have N1 := hide (grownBy_trans HG.out (World.grownBy_alloc W (.cells #[] 57) none))
          have NHW := hide (own_kept HW.out (World.grownBy_alloc W (.cells #[] 57) none))
          have NHM := hide (own_mono (lit_own W 57 4) HG.out.size)
          clear hHeld
          refine hK.out _ _ (SK.out _ N1.out) (fun hHeld => ?_)
          clear hK K HG HW
          generalize W.alloc (.cells #[] 57) = W2 at *
          generalize W.heap.size = g8 at *
          clear W
          rename World => W
          have HG := N1
          have HW := NHW
          have HM := NHM
          clear N1 NHW NHM
          refine wpAnyH_ready (rs := [11, 13]) (by kernel_rfl) (by simp) ?_
          refine AllReadyH.cons rfl (fun K hK => ?_) (AllReadyH.cons rfl (fun K hK => ?_) AllReadyH.nil)
          · refine step_copy (S := shO) _ rfl _ _ 24 rfl 57 _ 32 Tryd.underlying24 infoO rfl wb.heap.size g8 rfl HM.out _ os rfl (HVO.out _ HG.out) hbO HG.out.size ?_
            intro a11 c11 W2 ho hgw
            have T := hide (type_own HM.out)
            have N1 := hide (grown_spoil HG.out (HM.out.lt g8 rfl).1 hgw)
            have NHW := hide (own_type HW.out hgw T.out (by decide))
            have NHO := hide ho
            clear hHeld
            refine hK.out _ _ (SK.out _ N1.out) (fun hHeld => ?_)
            clear hK K ho hgw T HG HW HM
            clear W
            (try dsimp only [Act.put])
            rename World => W
            have HG := N1
            have HW := NHW
            have HO := NHO
            clear N1 NHW NHO
            refine take_put (i := 12) (v := .agg #[.int .i64 fr, .int .i64 qt, .slice none 0 0, .slice a7 ws.length c7, .slice a11 os.length c11]) 17 rfl rfl (by kernel_rfl) (by kernel_rfl) (by kernel_rfl) (fun _ _ _ h => h) (Or.inl ⟨by rfl, by intro V hSV; go_simp⟩) (by assumption) ?_
            (try dsimp only [Act.put])
            refine wpAnyH_ready (rs := [13]) (by kernel_rfl) (by simp) ?_
            refine AllReadyH.cons rfl (fun K hK => ?_) AllReadyH.nil
            · go_simp
              have N1 := hide (grownBy_trans HG.out (World.grownBy_alloc W (.cells #[.int .i64 0, .int .i64 0, .slice none 0 0, .slice none 0 0, .slice none 0 0] 26) none))
              have NHW := hide (own_kept HW.out (World.grownBy_alloc W (.cells #[.int .i64 0, .int .i64 0, .slice none 0 0, .slice none 0 0, .slice none 0 0] 26) none))
              have NHO := hide (own_kept HO.out (World.grownBy_alloc W (.cells #[.int .i64 0, .int .i64 0, .slice none 0 0, .slice none 0 0, .slice none 0 0] 26) none))
              have NHB := hide (heap_alloc_new W (.cells #[.int .i64 0, .int .i64 0, .slice none 0 0, .slice none 0 0, .slice none 0 0] 26))
              have NHBn := hide HG.out.size
              clear hHeld
              refine hK.out _ _ (SK.out _ N1.out) (fun hHeld => ?_)
              clear hK K HG HW HO
              generalize W.alloc (.cells #[.int .i64 0, .int .i64 0, .slice none 0 0, .slice none 0 0, .slice none 0 0] 26) = W2 at *
              generalize W.heap.size = B at *
              clear W
              rename World => W
              have HG := N1
              have HW := NHW
              have HO := NHO
              have HB := NHB
              have HBn := NHBn
              clear N1 NHW NHO NHB NHBn
              have k0 : W.cell? ⟨B, 0, none⟩ = some (.int .i64 0) := blk_cell HB.out 0
              have k1 : W.cell? ⟨B, 1, none⟩ = some (.int .i64 0) := blk_cell HB.out 1
              have k2 : W.cell? ⟨B, 2, none⟩ = some (.slice none 0 0) := blk_cell HB.out 2
              have k3 : W.cell? ⟨B, 3, none⟩ = some (.slice none 0 0) := blk_cell HB.out 3
              have k4 : W.cell? ⟨B, 4, none⟩ = some (.slice none 0 0) := blk_cell HB.out 4
              have kf := blk_free HB.out
              have N0 := hide (type_box HB.out)
              refine wpAnyH_ready (rs := [14]) (by kernel_rfl) (by simp) ?_
              refine AllReadyH.cons rfl (fun K hK => ?_) AllReadyH.nil
              go_simp
              refine hK.out _ _ ?hs (fun hHeld => ?_)
              case hs => exact SK.out _ (set5_grown HG.out HBn.out _ _ _ _ _)
              clear hK K
              refine wpAnyH_done (by kernel_rfl) ?_ _
              refine NoPanic.normal ?_
              go_wp2_with fail
              go_meet
              case rel => exact ⟨B, a7, c7, a11, c11, rfl, HBn, hide (set5_box HB.out), hide (set5_own HW.out N0.out (by decide)), hide (set5_own HO.out N0.out (by decide)), hide (set5_grown HG.out HBn.out _ _ _ _ _)⟩
          · go_simp
            have N1 := hide (grownBy_trans HG.out (World.grownBy_alloc W (.cells #[.int .i64 0, .int .i64 0, .slice none 0 0, .slice none 0 0, .slice none 0 0] 26) none))
            have NHW := hide (own_kept HW.out (World.grownBy_alloc W (.cells #[.int .i64 0, .int .i64 0, .slice none 0 0, .slice none 0 0, .slice none 0 0] 26) none))
            have NHM := hide (own_kept HM.out (World.grownBy_alloc W (.cells #[.int .i64 0, .int .i64 0, .slice none 0 0, .slice none 0 0, .slice none 0 0] 26) none))
            have NHB := hide (heap_alloc_new W (.cells #[.int .i64 0, .int .i64 0, .slice none 0 0, .slice none 0 0, .slice none 0 0] 26))
            have NHBn := hide HG.out.size
            clear hHeld
            refine hK.out _ _ (SK.out _ N1.out) (fun hHeld => ?_)
            clear hK K HG HW HM
            generalize W.alloc (.cells #[.int .i64 0, .int .i64 0, .slice none 0 0, .slice none 0 0, .slice none 0 0] 26) = W2 at *
            generalize W.heap.size = B at *
            clear W
            rename World => W
            have HG := N1
            have HW := NHW
            have HM := NHM
            have HB := NHB
            have HBn := NHBn
            clear N1 NHW NHM NHB NHBn
            refine wpAnyH_ready (rs := [11]) (by kernel_rfl) (by simp) ?_
            refine AllReadyH.cons rfl (fun K hK => ?_) AllReadyH.nil
            · refine step_copy (S := shO) _ rfl _ _ 24 rfl 57 _ 32 Tryd.underlying24 infoO rfl wb.heap.size g8 rfl HM.out _ os rfl (HVO.out _ HG.out) hbO HG.out.size ?_
              intro a11 c11 W2 ho hgw
              have T := hide (type_own HM.out)
              have N1 := hide (grown_spoil HG.out (HM.out.lt g8 rfl).1 hgw)
              have NHW := hide (own_type HW.out hgw T.out (by decide))
              have NHO := hide ho
              have NHB := hide (box_type HB.out hgw T.out (by decide))
              have NHBn := HBn
              clear hHeld
              refine hK.out _ _ (SK.out _ N1.out) (fun hHeld => ?_)
              clear hK K ho hgw T HG HW HM HB HBn
              clear W
              (try dsimp only [Act.put])
              rename World => W
              have HG := N1
              have HW := NHW
              have HO := NHO
              have HB := NHB
              have HBn := NHBn
              clear N1 NHW NHO NHB NHBn
              refine take_put (i := 12) (v := .agg #[.int .i64 fr, .int .i64 qt, .slice none 0 0, .slice a7 ws.length c7, .slice a11 os.length c11]) 17 rfl rfl (by kernel_rfl) (by kernel_rfl) (by kernel_rfl) (fun _ _ _ h => h) (Or.inl ⟨by rfl, by intro V hSV; go_simp⟩) (by assumption) ?_
              (try dsimp only [Act.put])
              have k0 : W.cell? ⟨B, 0, none⟩ = some (.int .i64 0) := blk_cell HB.out 0
              have k1 : W.cell? ⟨B, 1, none⟩ = some (.int .i64 0) := blk_cell HB.out 1
              have k2 : W.cell? ⟨B, 2, none⟩ = some (.slice none 0 0) := blk_cell HB.out 2
              have k3 : W.cell? ⟨B, 3, none⟩ = some (.slice none 0 0) := blk_cell HB.out 3
              have k4 : W.cell? ⟨B, 4, none⟩ = some (.slice none 0 0) := blk_cell HB.out 4
              have kf := blk_free HB.out
              have N0 := hide (type_box HB.out)
              refine wpAnyH_ready (rs := [14]) (by kernel_rfl) (by simp) ?_
              refine AllReadyH.cons rfl (fun K hK => ?_) AllReadyH.nil
              go_simp
              refine hK.out _ _ ?hs (fun hHeld => ?_)
              case hs => exact SK.out _ (set5_grown HG.out HBn.out _ _ _ _ _)
              clear hK K
              refine wpAnyH_done (by kernel_rfl) ?_ _
              refine NoPanic.normal ?_
              go_wp2_with fail
              go_meet
              case rel => exact ⟨B, a7, c7, a11, c11, rfl, HBn, hide (set5_box HB.out), hide (set5_own HW.out N0.out (by decide)), hide (set5_own HO.out N0.out (by decide)), hide (set5_grown HG.out HBn.out _ _ _ _ _)⟩
        · go_simp
          have N1 := hide (grownBy_trans HG.out (World.grownBy_alloc W (.cells #[.int .i64 0, .int .i64 0, .slice none 0 0, .slice none 0 0, .slice none 0 0] 26) none))
          have NHW := hide (own_kept HW.out (World.grownBy_alloc W (.cells #[.int .i64 0, .int .i64 0, .slice none 0 0, .slice none 0 0, .slice none 0 0] 26) none))
          have NHB := hide (heap_alloc_new W (.cells #[.int .i64 0, .int .i64 0, .slice none 0 0, .slice none 0 0, .slice none 0 0] 26))
          have NHBn := hide HG.out.size
          clear hHeld
          refine hK.out _ _ (SK.out _ N1.out) (fun hHeld => ?_)
          clear hK K HG HW
          generalize W.alloc (.cells #[.int .i64 0, .int .i64 0, .slice none 0 0, .slice none 0 0, .slice none 0 0] 26) = W2 at *
          generalize W.heap.size = B at *
          clear W
          rename World => W
          have HG := N1
          have HW := NHW
          have HB := NHB
          have HBn := NHBn
          clear N1 NHW NHB NHBn
          refine wpAnyH_ready (rs := [8]) (by kernel_rfl) (by simp) ?_
          refine AllReadyH.cons rfl (fun K hK => ?_) AllReadyH.nil
          · go_simp
            have N1 := hide (grownBy_trans HG.out (World.grownBy_alloc W (.cells #[] 57) none))
            have NHW := hide (own_kept HW.out (World.grownBy_alloc W (.cells #[] 57) none))
            have NHB := hide (hp_up HB.out (.cells #[] 57))
            have NHBn := HBn
            have NHM := hide (own_mono (lit_own W 57 4) HG.out.size)
            clear hHeld
            refine hK.out _ _ (SK.out _ N1.out) (fun hHeld => ?_)
            clear hK K HG HW HB HBn
            generalize W.alloc (.cells #[] 57) = W2 at *
            generalize W.heap.size = g8 at *
            clear W
            rename World => W
            have HG := N1
            have HW := NHW
            have HM := NHM
            have HB := NHB
            have HBn := NHBn
            clear N1 NHW NHM NHB NHBn
            refine wpAnyH_ready (rs := [11]) (by kernel_rfl) (by simp) ?_
            refine AllReadyH.cons rfl (fun K hK => ?_) AllReadyH.nil
            · refine step_copy (S := shO) _ rfl _ _ 24 rfl 57 _ 32 Tryd.underlying24 infoO rfl wb.heap.size g8 rfl HM.out _ os rfl (HVO.out _ HG.out) hbO HG.out.size ?_
              intro a11 c11 W2 ho hgw
              have T := hide (type_own HM.out)
              have N1 := hide (grown_spoil HG.out (HM.out.lt g8 rfl).1 hgw)
              have NHW := hide (own_type HW.out hgw T.out (by decide))
              have NHO := hide ho
              have NHB := hide (box_type HB.out hgw T.out (by decide))
              have NHBn := HBn
              clear hHeld
              refine hK.out _ _ (SK.out _ N1.out) (fun hHeld => ?_)
              clear hK K ho hgw T HG HW HM HB HBn
              clear W
              (try dsimp only [Act.put])
              rename World => W
              have HG := N1
              have HW := NHW
              have HO := NHO
              have HB := NHB
              have HBn := NHBn
              clear N1 NHW NHO NHB NHBn
              refine take_put (i := 12) (v := .agg #[.int .i64 fr, .int .i64 qt, .slice none 0 0, .slice a7 ws.length c7, .slice a11 os.length c11]) 17 rfl rfl (by kernel_rfl) (by kernel_rfl) (by kernel_rfl) (fun _ _ _ h => h) (Or.inl ⟨by rfl, by intro V hSV; go_simp⟩) (by assumption) ?_
              (try dsimp only [Act.put])
              have k0 : W.cell? ⟨B, 0, none⟩ = some (.int .i64 0) := blk_cell HB.out 0
              have k1 : W.cell? ⟨B, 1, none⟩ = some (.int .i64 0) := blk_cell HB.out 1
              have k2 : W.cell? ⟨B, 2, none⟩ = some (.slice none 0 0) := blk_cell HB.out 2
              have k3 : W.cell? ⟨B, 3, none⟩ = some (.slice none 0 0) := blk_cell HB.out 3
              have k4 : W.cell? ⟨B, 4, none⟩ = some (.slice none 0 0) := blk_cell HB.out 4
              have kf := blk_free HB.out
              have N0 := hide (type_box HB.out)
              refine wpAnyH_ready (rs := [14]) (by kernel_rfl) (by simp) ?_
              refine AllReadyH.cons rfl (fun K hK => ?_) AllReadyH.nil
              go_simp
              refine hK.out _ _ ?hs (fun hHeld => ?_)
              case hs => exact SK.out _ (set5_grown HG.out HBn.out _ _ _ _ _)
              clear hK K
              refine wpAnyH_done (by kernel_rfl) ?_ _
              refine NoPanic.normal ?_
              go_wp2_with fail
              go_meet
              case rel => exact ⟨B, a7, c7, a11, c11, rfl, HBn, hide (set5_box HB.out), hide (set5_own HW.out N0.out (by decide)), hide (set5_own HO.out N0.out (by decide)), hide (set5_grown HG.out HBn.out _ _ _ _ _)⟩
      · go_simp
        have N1 := hide (grownBy_trans HG.out (World.grownBy_alloc W (.cells #[] 57) none))
        have NHL := hide (own_kept HL.out (World.grownBy_alloc W (.cells #[] 57) none))
        have NHM := hide (own_mono (lit_own W 57 4) HG.out.size)
        clear hHeld
        refine hK.out _ _ (SK.out _ N1.out) (fun hHeld => ?_)
        clear hK K HG HL
        generalize W.alloc (.cells #[] 57) = W2 at *
        generalize W.heap.size = g8 at *
        clear W
        rename World => W
        have HG := N1
        have HL := NHL
        have HM := NHM
        clear N1 NHL NHM
        refine wpAnyH_ready (rs := [7, 13]) (by kernel_rfl) (by simp) ?_
        refine AllReadyH.cons rfl (fun K hK => ?_) (AllReadyH.cons rfl (fun K hK => ?_) AllReadyH.nil)
        · refine step_copy (S := shW) _ rfl _ _ 23 rfl 59 _ 24 Tryd.underlying23 infoW rfl wb.heap.size g4 rfl HL.out _ ws rfl (HVW.out _ HG.out) hbW HG.out.size ?_
          intro a7 c7 W2 ho hgw
          have T := hide (type_own HL.out)
          have N1 := hide (grown_spoil HG.out (HL.out.lt g4 rfl).1 hgw)
          have NHM := hide (own_type HM.out hgw T.out (by decide))
          have NHW := hide ho
          clear hHeld
          refine hK.out _ _ (SK.out _ N1.out) (fun hHeld => ?_)
          clear hK K ho hgw T HG HL HM
          clear W
          (try dsimp only [Act.put])
          rename World => W
          have HG := N1
          have HM := NHM
          have HW := NHW
          clear N1 NHM NHW
          refine wpAnyH_ready (rs := [11, 13]) (by kernel_rfl) (by simp) ?_
          refine AllReadyH.cons rfl (fun K hK => ?_) (AllReadyH.cons rfl (fun K hK => ?_) AllReadyH.nil)
          · refine step_copy (S := shO) _ rfl _ _ 24 rfl 57 _ 32 Tryd.underlying24 infoO rfl wb.heap.size g8 rfl HM.out _ os rfl (HVO.out _ HG.out) hbO HG.out.size ?_
            intro a11 c11 W2 ho hgw
            have T := hide (type_own HM.out)
            have N1 := hide (grown_spoil HG.out (HM.out.lt g8 rfl).1 hgw)
            have NHW := hide (own_type HW.out hgw T.out (by decide))
            have NHO := hide ho
            clear hHeld
            refine hK.out _ _ (SK.out _ N1.out) (fun hHeld => ?_)
            clear hK K ho hgw T HG HW HM
            clear W
            (try dsimp only [Act.put])
            rename World => W
            have HG := N1
            have HW := NHW
            have HO := NHO
            clear N1 NHW NHO
            refine take_put (i := 12) (v := .agg #[.int .i64 fr, .int .i64 qt, .slice none 0 0, .slice a7 ws.length c7, .slice a11 os.length c11]) 17 rfl rfl (by kernel_rfl) (by kernel_rfl) (by kernel_rfl) (fun _ _ _ h => h) (Or.inl ⟨by rfl, by intro V hSV; go_simp⟩) (by assumption) ?_
            (try dsimp only [Act.put])
            refine wpAnyH_ready (rs := [13]) (by kernel_rfl) (by simp) ?_
            refine AllReadyH.cons rfl (fun K hK => ?_) AllReadyH.nil
            · go_simp
              have N1 := hide (grownBy_trans HG.out (World.grownBy_alloc W (.cells #[.int .i64 0, .int .i64 0, .slice none 0 0, .slice none 0 0, .slice none 0 0] 26) none))
              have NHW := hide (own_kept HW.out (World.grownBy_alloc W (.cells #[.int .i64 0, .int .i64 0, .slice none 0 0, .slice none 0 0, .slice none 0 0] 26) none))
              have NHO := hide (own_kept HO.out (World.grownBy_alloc W (.cells #[.int .i64 0, .int .i64 0, .slice none 0 0, .slice none 0 0, .slice none 0 0] 26) none))
              have NHB := hide (heap_alloc_new W (.cells #[.int .i64 0, .int .i64 0, .slice none 0 0, .slice none 0 0, .slice none 0 0] 26))
              have NHBn := hide HG.out.size
              clear hHeld
              refine hK.out _ _ (SK.out _ N1.out) (fun hHeld => ?_)
              clear hK K HG HW HO
              generalize W.alloc (.cells #[.int .i64 0, .int .i64 0, .slice none 0 0, .slice none 0 0, .slice none 0 0] 26) = W2 at *
              generalize W.heap.size = B at *
              clear W
              rename World => W
              have HG := N1
              have HW := NHW
              have HO := NHO
              have HB := NHB
              have HBn := NHBn
              clear N1 NHW NHO NHB NHBn
              have k0 : W.cell? ⟨B, 0, none⟩ = some (.int .i64 0) := blk_cell HB.out 0
              have k1 : W.cell? ⟨B, 1, none⟩ = some (.int .i64 0) := blk_cell HB.out 1
              have k2 : W.cell? ⟨B, 2, none⟩ = some (.slice none 0 0) := blk_cell HB.out 2
              have k3 : W.cell? ⟨B, 3, none⟩ = some (.slice none 0 0) := blk_cell HB.out 3
              have k4 : W.cell? ⟨B, 4, none⟩ = some (.slice none 0 0) := blk_cell HB.out 4
              have kf := blk_free HB.out
              have N0 := hide (type_box HB.out)
              refine wpAnyH_ready (rs := [14]) (by kernel_rfl) (by simp) ?_
              refine AllReadyH.cons rfl (fun K hK => ?_) AllReadyH.nil
              go_simp
              refine hK.out _ _ ?hs (fun hHeld => ?_)
              case hs => exact SK.out _ (set5_grown HG.out HBn.out _ _ _ _ _)
              clear hK K
              refine wpAnyH_done (by kernel_rfl) ?_ _
              refine NoPanic.normal ?_
              go_wp2_with fail
              go_meet
              case rel => exact ⟨B, a7, c7, a11, c11, rfl, HBn, hide (set5_box HB.out), hide (set5_own HW.out N0.out (by decide)), hide (set5_own HO.out N0.out (by decide)), hide (set5_grown HG.out HBn.out _ _ _ _ _)⟩
          · go_simp
            have N1 := hide (grownBy_trans HG.out (World.grownBy_alloc W (.cells #[.int .i64 0, .int .i64 0, .slice none 0 0, .slice none 0 0, .slice none 0 0] 26) none))
            have NHW := hide (own_kept HW.out (World.grownBy_alloc W (.cells #[.int .i64 0, .int .i64 0, .slice none 0 0, .slice none 0 0, .slice none 0 0] 26) none))
            have NHM := hide (own_kept HM.out (World.grownBy_alloc W (.cells #[.int .i64 0, .int .i64 0, .slice none 0 0, .slice none 0 0, .slice none 0 0] 26) none))
            have NHB := hide (heap_alloc_new W (.cells #[.int .i64 0, .int .i64 0, .slice none 0 0, .slice none 0 0, .slice none 0 0] 26))
            have NHBn := hide HG.out.size
            clear hHeld
            refine hK.out _ _ (SK.out _ N1.out) (fun hHeld => ?_)
            clear hK K HG HW HM
            generalize W.alloc (.cells #[.int .i64 0, .int .i64 0, .slice none 0 0, .slice none 0 0, .slice none 0 0] 26) = W2 at *
            generalize W.heap.size = B at *
            clear W
            rename World => W
            have HG := N1
            have HW := NHW
            have HM := NHM
            have HB := NHB
            have HBn := NHBn
            clear N1 NHW NHM NHB NHBn
            refine wpAnyH_ready (rs := [11]) (by kernel_rfl) (by simp) ?_
            refine AllReadyH.cons rfl (fun K hK => ?_) AllReadyH.nil
            · refine step_copy (S := shO) _ rfl _ _ 24 rfl 57 _ 32 Tryd.underlying24 infoO rfl wb.heap.size g8 rfl HM.out _ os rfl (HVO.out _ HG.out) hbO HG.out.size ?_
              intro a11 c11 W2 ho hgw
              have T := hide (type_own HM.out)
              have N1 := hide (grown_spoil HG.out (HM.out.lt g8 rfl).1 hgw)
              have NHW := hide (own_type HW.out hgw T.out (by decide))
              have NHO := hide ho
              have NHB := hide (box_type HB.out hgw T.out (by decide))
              have NHBn := HBn
              clear hHeld
              refine hK.out _ _ (SK.out _ N1.out) (fun hHeld => ?_)
              clear hK K ho hgw T HG HW HM HB HBn
              clear W
              (try dsimp only [Act.put])
              rename World => W
              have HG := N1
              have HW := NHW
              have HO := NHO
              have HB := NHB
              have HBn := NHBn
              clear N1 NHW NHO NHB NHBn
              refine take_put (i := 12) (v := .agg #[.int .i64 fr, .int .i64 qt, .slice none 0 0, .slice a7 ws.length c7, .slice a11 os.length c11]) 17 rfl rfl (by kernel_rfl) (by kernel_rfl) (by kernel_rfl) (fun _ _ _ h => h) (Or.inl ⟨by rfl, by intro V hSV; go_simp⟩) (by assumption) ?_
              (try dsimp only [Act.put])
              have k0 : W.cell? ⟨B, 0, none⟩ = some (.int .i64 0) := blk_cell HB.out 0
              have k1 : W.cell? ⟨B, 1, none⟩ = some (.int .i64 0) := blk_cell HB.out 1
              have k2 : W.cell? ⟨B, 2, none⟩ = some (.slice none 0 0) := blk_cell HB.out 2
              have k3 : W.cell? ⟨B, 3, none⟩ = some (.slice none 0 0) := blk_cell HB.out 3
              have k4 : W.cell? ⟨B, 4, none⟩ = some (.slice none 0 0) := blk_cell HB.out 4
              have kf := blk_free HB.out
              have N0 := hide (type_box HB.out)
              refine wpAnyH_ready (rs := [14]) (by kernel_rfl) (by simp) ?_
              refine AllReadyH.cons rfl (fun K hK => ?_) AllReadyH.nil
              go_simp
              refine hK.out _ _ ?hs (fun hHeld => ?_)
              case hs => exact SK.out _ (set5_grown HG.out HBn.out _ _ _ _ _)
              clear hK K
              refine wpAnyH_done (by kernel_rfl) ?_ _
              refine NoPanic.normal ?_
              go_wp2_with fail
              go_meet
              case rel => exact ⟨B, a7, c7, a11, c11, rfl, HBn, hide (set5_box HB.out), hide (set5_own HW.out N0.out (by decide)), hide (set5_own HO.out N0.out (by decide)), hide (set5_grown HG.out HBn.out _ _ _ _ _)⟩
        · go_simp
          have N1 := hide (grownBy_trans HG.out (World.grownBy_alloc W (.cells #[.int .i64 0, .int .i64 0, .slice none 0 0, .slice none 0 0, .slice none 0 0] 26) none))
          have NHL := hide (own_kept HL.out (World.grownBy_alloc W (.cells #[.int .i64 0, .int .i64 0, .slice none 0 0, .slice none 0 0, .slice none 0 0] 26) none))
          have NHM := hide (own_kept HM.out (World.grownBy_alloc W (.cells #[.int .i64 0, .int .i64 0, .slice none 0 0, .slice none 0 0, .slice none 0 0] 26) none))
          have NHB := hide (heap_alloc_new W (.cells #[.int .i64 0, .int .i64 0, .slice none 0 0, .slice none 0 0, .slice none 0 0] 26))
          have NHBn := hide HG.out.size
          clear hHeld
          refine hK.out _ _ (SK.out _ N1.out) (fun hHeld => ?_)
          clear hK K HG HL HM
          generalize W.alloc (.cells #[.int .i64 0, .int .i64 0, .slice none 0 0, .slice none 0 0, .slice none 0 0] 26) = W2 at *
          generalize W.heap.size = B at *
          clear W
          rename World => W
          have HG := N1
          have HL := NHL
          have HM := NHM
          have HB := NHB
          have HBn := NHBn
          clear N1 NHL NHM NHB NHBn
          refine wpAnyH_ready (rs := [7]) (by kernel_rfl) (by simp) ?_
          refine AllReadyH.cons rfl (fun K hK => ?_) AllReadyH.nil
          · refine step_copy (S := shW) _ rfl _ _ 23 rfl 59 _ 24 Tryd.underlying23 infoW rfl wb.heap.size g4 rfl HL.out _ ws rfl (HVW.out _ HG.out) hbW HG.out.size ?_
            intro a7 c7 W2 ho hgw
            have T := hide (type_own HL.out)
            have N1 := hide (grown_spoil HG.out (HL.out.lt g4 rfl).1 hgw)
            have NHM := hide (own_type HM.out hgw T.out (by decide))
            have NHW := hide ho
            have NHB := hide (box_type HB.out hgw T.out (by decide))
            have NHBn := HBn
            clear hHeld
            refine hK.out _ _ (SK.out _ N1.out) (fun hHeld => ?_)
            clear hK K ho hgw T HG HL HM HB HBn
            clear W
            (try dsimp only [Act.put])
            rename World => W
            have HG := N1
            have HM := NHM
            have HW := NHW
            have HB := NHB
            have HBn := NHBn
            clear N1 NHM NHW NHB NHBn
            refine wpAnyH_ready (rs := [11]) (by kernel_rfl) (by simp) ?_
            refine AllReadyH.cons rfl (fun K hK => ?_) AllReadyH.nil
            · refine step_copy (S := shO) _ rfl _ _ 24 rfl 57 _ 32 Tryd.underlying24 infoO rfl wb.heap.size g8 rfl HM.out _ os rfl (HVO.out _ HG.out) hbO HG.out.size ?_
              intro a11 c11 W2 ho hgw
              have T := hide (type_own HM.out)
              have N1 := hide (grown_spoil HG.out (HM.out.lt g8 rfl).1 hgw)
              have NHW := hide (own_type HW.out hgw T.out (by decide))
              have NHO := hide ho
              have NHB := hide (box_type HB.out hgw T.out (by decide))
              have NHBn := HBn
              clear hHeld
              refine hK.out _ _ (SK.out _ N1.out) (fun hHeld => ?_)
              clear hK K ho hgw T HG HW HM HB HBn
              clear W
              (try dsimp only [Act.put])
              rename World => W
              have HG := N1
              have HW := NHW
              have HO := NHO
              have HB := NHB
              have HBn := NHBn
              clear N1 NHW NHO NHB NHBn
              refine take_put (i := 12) (v := .agg #[.int .i64 fr, .int .i64 qt, .slice none 0 0, .slice a7 ws.length c7, .slice a11 os.length c11]) 17 rfl rfl (by kernel_rfl) (by kernel_rfl) (by kernel_rfl) (fun _ _ _ h => h) (Or.inl ⟨by rfl, by intro V hSV; go_simp⟩) (by assumption) ?_
              (try dsimp only [Act.put])
              have k0 : W.cell? ⟨B, 0, none⟩ = some (.int .i64 0) := blk_cell HB.out 0
              have k1 : W.cell? ⟨B, 1, none⟩ = some (.int .i64 0) := blk_cell HB.out 1
              have k2 : W.cell? ⟨B, 2, none⟩ = some (.slice none 0 0) := blk_cell HB.out 2
              have k3 : W.cell? ⟨B, 3, none⟩ = some (.slice none 0 0) := blk_cell HB.out 3
              have k4 : W.cell? ⟨B, 4, none⟩ = some (.slice none 0 0) := blk_cell HB.out 4
              have kf := blk_free HB.out
              have N0 := hide (type_box HB.out)
              refine wpAnyH_ready (rs := [14]) (by kernel_rfl) (by simp) ?_
              refine AllReadyH.cons rfl (fun K hK => ?_) AllReadyH.nil
              go_simp
              refine hK.out _ _ ?hs (fun hHeld => ?_)
              case hs => exact SK.out _ (set5_grown HG.out HBn.out _ _ _ _ _)
              clear hK K
              refine wpAnyH_done (by kernel_rfl) ?_ _
              refine NoPanic.normal ?_
              go_wp2_with fail
              go_meet
              case rel => exact ⟨B, a7, c7, a11, c11, rfl, HBn, hide (set5_box HB.out), hide (set5_own HW.out N0.out (by decide)), hide (set5_own HO.out N0.out (by decide)), hide (set5_grown HG.out HBn.out _ _ _ _ _)⟩
      · go_simp
        have N1 := hide (grownBy_trans HG.out (World.grownBy_alloc W (.cells #[.int .i64 0, .int .i64 0, .slice none 0 0, .slice none 0 0, .slice none 0 0] 26) none))
        have NHL := hide (own_kept HL.out (World.grownBy_alloc W (.cells #[.int .i64 0, .int .i64 0, .slice none 0 0, .slice none 0 0, .slice none 0 0] 26) none))
        have NHB := hide (heap_alloc_new W (.cells #[.int .i64 0, .int .i64 0, .slice none 0 0, .slice none 0 0, .slice none 0 0] 26))
        have NHBn := hide HG.out.size
        clear hHeld
        refine hK.out _ _ (SK.out _ N1.out) (fun hHeld => ?_)
        clear hK K HG HL
        generalize W.alloc (.cells #[.int .i64 0, .int .i64 0, .slice none 0 0, .slice none 0 0, .slice none 0 0] 26) = W2 at *
        generalize W.heap.size = B at *
        clear W
        rename World => W
        have HG := N1
        have HL := NHL
        have HB := NHB
        have HBn := NHBn
        clear N1 NHL NHB NHBn
        refine wpAnyH_ready (rs := [7, 8]) (by kernel_rfl) (by simp) ?_
        refine AllReadyH.cons rfl (fun K hK => ?_) (AllReadyH.cons rfl (fun K hK => ?_) AllReadyH.nil)
        · refine step_copy (S := shW) _ rfl _ _ 23 rfl 59 _ 24 Tryd.underlying23 infoW rfl wb.heap.size g4 rfl HL.out _ ws rfl (HVW.out _ HG.out) hbW HG.out.size ?_
          intro a7 c7 W2 ho hgw
          have T := hide (type_own HL.out)
          have N1 := hide (grown_spoil HG.out (HL.out.lt g4 rfl).1 hgw)
          have NHW := hide ho
          have NHB := hide (box_type HB.out hgw T.out (by decide))
          have NHBn := HBn
          clear hHeld
          refine hK.out _ _ (SK.out _ N1.out) (fun hHeld => ?_)
          clear hK K ho hgw T HG HL HB HBn
          clear W
          (try dsimp only [Act.put])
          rename World => W
          have HG := N1
          have HW := NHW
          have HB := NHB
          have HBn := NHBn
          clear N1 NHW NHB NHBn
          refine wpAnyH_ready (rs := [8]) (by kernel_rfl) (by simp) ?_
          refine AllReadyH.cons rfl (fun K hK => ?_) AllReadyH.nil
          · go_simp
            have N1 := hide (grownBy_trans HG.out (World.grownBy_alloc W (.cells #[] 57) none))
            have NHW := hide (own_kept HW.out (World.grownBy_alloc W (.cells #[] 57) none))
            have NHB := hide (hp_up HB.out (.cells #[] 57))
            have NHBn := HBn
            have NHM := hide (own_mono (lit_own W 57 4) HG.out.size)
            clear hHeld
            refine hK.out _ _ (SK.out _ N1.out) (fun hHeld => ?_)
            clear hK K HG HW HB HBn
            generalize W.alloc (.cells #[] 57) = W2 at *
            generalize W.heap.size = g8 at *
            clear W
            rename World => W
            have HG := N1
            have HW := NHW
            have HM := NHM
            have HB := NHB
            have HBn := NHBn
            clear N1 NHW NHM NHB NHBn
            refine wpAnyH_ready (rs := [11]) (by kernel_rfl) (by simp) ?_
            refine AllReadyH.cons rfl (fun K hK => ?_) AllReadyH.nil
            · refine step_copy (S := shO) _ rfl _ _ 24 rfl 57 _ 32 Tryd.underlying24 infoO rfl wb.heap.size g8 rfl HM.out _ os rfl (HVO.out _ HG.out) hbO HG.out.size ?_
              intro a11 c11 W2 ho hgw
              have T := hide (type_own HM.out)
              have N1 := hide (grown_spoil HG.out (HM.out.lt g8 rfl).1 hgw)
              have NHW := hide (own_type HW.out hgw T.out (by decide))
              have NHO := hide ho
              have NHB := hide (box_type HB.out hgw T.out (by decide))
              have NHBn := HBn
              clear hHeld
              refine hK.out _ _ (SK.out _ N1.out) (fun hHeld => ?_)
              clear hK K ho hgw T HG HW HM HB HBn
              clear W
              (try dsimp only [Act.put])
              rename World => W
              have HG := N1
              have HW := NHW
              have HO := NHO
              have HB := NHB
              have HBn := NHBn
              clear N1 NHW NHO NHB NHBn
              refine take_put (i := 12) (v := .agg #[.int .i64 fr, .int .i64 qt, .slice none 0 0, .slice a7 ws.length c7, .slice a11 os.length c11]) 17 rfl rfl (by kernel_rfl) (by kernel_rfl) (by kernel_rfl) (fun _ _ _ h => h) (Or.inl ⟨by rfl, by intro V hSV; go_simp⟩) (by assumption) ?_
              (try dsimp only [Act.put])
              have k0 : W.cell? ⟨B, 0, none⟩ = some (.int .i64 0) := blk_cell HB.out 0
              have k1 : W.cell? ⟨B, 1, none⟩ = some (.int .i64 0) := blk_cell HB.out 1
              have k2 : W.cell? ⟨B, 2, none⟩ = some (.slice none 0 0) := blk_cell HB.out 2
              have k3 : W.cell? ⟨B, 3, none⟩ = some (.slice none 0 0) := blk_cell HB.out 3
              have k4 : W.cell? ⟨B, 4, none⟩ = some (.slice none 0 0) := blk_cell HB.out 4
              have kf := blk_free HB.out
              have N0 := hide (type_box HB.out)
              refine wpAnyH_ready (rs := [14]) (by kernel_rfl) (by simp) ?_
              refine AllReadyH.cons rfl (fun K hK => ?_) AllReadyH.nil
              go_simp
              refine hK.out _ _ ?hs (fun hHeld => ?_)
              case hs => exact SK.out _ (set5_grown HG.out HBn.out _ _ _ _ _)
              clear hK K
              refine wpAnyH_done (by kernel_rfl) ?_ _
              refine NoPanic.normal ?_
              go_wp2_with fail
              go_meet
              case rel => exact ⟨B, a7, c7, a11, c11, rfl, HBn, hide (set5_box HB.out), hide (set5_own HW.out N0.out (by decide)), hide (set5_own HO.out N0.out (by decide)), hide (set5_grown HG.out HBn.out _ _ _ _ _)⟩
        · go_simp
          have N1 := hide (grownBy_trans HG.out (World.grownBy_alloc W (.cells #[] 57) none))
          have NHL := hide (own_kept HL.out (World.grownBy_alloc W (.cells #[] 57) none))
          have NHB := hide (hp_up HB.out (.cells #[] 57))
          have NHBn := HBn
          have NHM := hide (own_mono (lit_own W 57 4) HG.out.size)
          clear hHeld
          refine hK.out _ _ (SK.out _ N1.out) (fun hHeld => ?_)
          clear hK K HG HL HB HBn
          generalize W.alloc (.cells #[] 57) = W2 at *
          generalize W.heap.size = g8 at *
          clear W
          rename World => W
          have HG := N1
          have HL := NHL
          have HM := NHM
          have HB := NHB
          have HBn := NHBn
          clear N1 NHL NHM NHB NHBn
          refine wpAnyH_ready (rs := [7]) (by kernel_rfl) (by simp) ?_
          refine AllReadyH.cons rfl (fun K hK => ?_) AllReadyH.nil
          · refine step_copy (S := shW) _ rfl _ _ 23 rfl 59 _ 24 Tryd.underlying23 infoW rfl wb.heap.size g4 rfl HL.out _ ws rfl (HVW.out _ HG.out) hbW HG.out.size ?_
            intro a7 c7 W2 ho hgw
            have T := hide (type_own HL.out)
            have N1 := hide (grown_spoil HG.out (HL.out.lt g4 rfl).1 hgw)
            have NHM := hide (own_type HM.out hgw T.out (by decide))
            have NHW := hide ho
            have NHB := hide (box_type HB.out hgw T.out (by decide))
            have NHBn := HBn
            clear hHeld
            refine hK.out _ _ (SK.out _ N1.out) (fun hHeld => ?_)
            clear hK K ho hgw T HG HL HM HB HBn
            clear W
            (try dsimp only [Act.put])
            rename World => W
            have HG := N1
            have HM := NHM
            have HW := NHW
            have HB := NHB
            have HBn := NHBn
            clear N1 NHM NHW NHB NHBn
            refine wpAnyH_ready (rs := [11]) (by kernel_rfl) (by simp) ?_
            refine AllReadyH.cons rfl (fun K hK => ?_) AllReadyH.nil
            · refine step_copy (S := shO) _ rfl _ _ 24 rfl 57 _ 32 Tryd.underlying24 infoO rfl wb.heap.size g8 rfl HM.out _ os rfl (HVO.out _ HG.out) hbO HG.out.size ?_
              intro a11 c11 W2 ho hgw
              have T := hide (type_own HM.out)
              have N1 := hide (grown_spoil HG.out (HM.out.lt g8 rfl).1 hgw)
              have NHW := hide (own_type HW.out hgw T.out (by decide))
              have NHO := hide ho
              have NHB := hide (box_type HB.out hgw T.out (by decide))
              have NHBn := HBn
              clear hHeld
              refine hK.out _ _ (SK.out _ N1.out) (fun hHeld => ?_)
              clear hK K ho hgw T HG HW HM HB HBn
              clear W
              (try dsimp only [Act.put])
              rename World => W
              have HG := N1
              have HW := NHW
              have HO := NHO
              have HB := NHB
              have HBn := NHBn
              clear N1 NHW NHO NHB NHBn
              refine take_put (i := 12) (v := .agg #[.int .i64 fr, .int .i64 qt, .slice none 0 0, .slice a7 ws.length c7, .slice a11 os.length c11]) 17 rfl rfl (by kernel_rfl) (by kernel_rfl) (by kernel_rfl) (fun _ _ _ h => h) (Or.inl ⟨by rfl, by intro V hSV; go_simp⟩) (by assumption) ?_
              (try dsimp only [Act.put])
              have k0 : W.cell? ⟨B, 0, none⟩ = some (.int .i64 0) := blk_cell HB.out 0
              have k1 : W.cell? ⟨B, 1, none⟩ = some (.int .i64 0) := blk_cell HB.out 1
              have k2 : W.cell? ⟨B, 2, none⟩ = some (.slice none 0 0) := blk_cell HB.out 2
              have k3 : W.cell? ⟨B, 3, none⟩ = some (.slice none 0 0) := blk_cell HB.out 3
              have k4 : W.cell? ⟨B, 4, none⟩ = some (.slice none 0 0) := blk_cell HB.out 4
              have kf := blk_free HB.out
              have N0 := hide (type_box HB.out)
              refine wpAnyH_ready (rs := [14]) (by kernel_rfl) (by simp) ?_
              refine AllReadyH.cons rfl (fun K hK => ?_) AllReadyH.nil
              go_simp
              refine hK.out _ _ ?hs (fun hHeld => ?_)
              case hs => exact SK.out _ (set5_grown HG.out HBn.out _ _ _ _ _)
              clear hK K
              refine wpAnyH_done (by kernel_rfl) ?_ _
              refine NoPanic.normal ?_
              go_wp2_with fail
              go_meet
              case rel => exact ⟨B, a7, c7, a11, c11, rfl, HBn, hide (set5_box HB.out), hide (set5_own HW.out N0.out (by decide)), hide (set5_own HO.out N0.out (by decide)), hide (set5_grown HG.out HBn.out _ _ _ _ _)⟩
    · go_simp
      have N1 := hide (grownBy_trans HG.out (World.grownBy_alloc W (.cells #[] 57) none))
      have NHM := hide (own_mono (lit_own W 57 4) HG.out.size)
      clear hHeld
      refine hK.out _ _ (SK.out _ N1.out) (fun hHeld => ?_)
      clear hK K HG
      generalize W.alloc (.cells #[] 57) = W2 at *
      generalize W.heap.size = g8 at *
      clear W
      rename World => W
      have HG := N1
      have HM := NHM
      clear N1 NHM
      refine wpAnyH_ready (rs := [4, 13]) (by kernel_rfl) (by simp) ?_
      refine AllReadyH.cons rfl (fun K hK => ?_) (AllReadyH.cons rfl (fun K hK => ?_) AllReadyH.nil)
      · go_simp
        have N1 := hide (grownBy_trans HG.out (World.grownBy_alloc W (.cells #[] 59) none))
        have NHM := hide (own_kept HM.out (World.grownBy_alloc W (.cells #[] 59) none))
        have NHL := hide (own_mono (lit_own W 59 3) HG.out.size)
        clear hHeld
        refine hK.out _ _ (SK.out _ N1.out) (fun hHeld => ?_)
        clear hK K HG HM
        generalize W.alloc (.cells #[] 59) = W2 at *
        generalize W.heap.size = g4 at *
        clear W
        rename World => W
        have HG := N1
        have HM := NHM
        have HL := NHL
        clear N1 NHM NHL
        refine wpAnyH_ready (rs := [7, 13]) (by kernel_rfl) (by simp) ?_
        refine AllReadyH.cons rfl (fun K hK => ?_) (AllReadyH.cons rfl (fun K hK => ?_) AllReadyH.nil)
        · refine step_copy (S := shW) _ rfl _ _ 23 rfl 59 _ 24 Tryd.underlying23 infoW rfl wb.heap.size g4 rfl HL.out _ ws rfl (HVW.out _ HG.out) hbW HG.out.size ?_
          intro a7 c7 W2 ho hgw
          have T := hide (type_own HL.out)
          have N1 := hide (grown_spoil HG.out (HL.out.lt g4 rfl).1 hgw)
          have NHM := hide (own_type HM.out hgw T.out (by decide))
          have NHW := hide ho
          clear hHeld
          refine hK.out _ _ (SK.out _ N1.out) (fun hHeld => ?_)
          clear hK K ho hgw T HG HL HM
          clear W
          (try dsimp only [Act.put])
          rename World => W
          have HG := N1
          have HM := NHM
          have HW := NHW
          clear N1 NHM NHW
          refine wpAnyH_ready (rs := [11, 13]) (by kernel_rfl) (by simp) ?_
          refine AllReadyH.cons rfl (fun K hK => ?_) (AllReadyH.cons rfl (fun K hK => ?_) AllReadyH.nil)
          · refine step_copy (S := shO) _ rfl _ _ 24 rfl 57 _ 32 Tryd.underlying24 infoO rfl wb.heap.size g8 rfl HM.out _ os rfl (HVO.out _ HG.out) hbO HG.out.size ?_
            intro a11 c11 W2 ho hgw
            have T := hide (type_own HM.out)
            have N1 := hide (grown_spoil HG.out (HM.out.lt g8 rfl).1 hgw)
            have NHW := hide (own_type HW.out hgw T.out (by decide))
            have NHO := hide ho
            clear hHeld
            refine hK.out _ _ (SK.out _ N1.out) (fun hHeld => ?_)
            clear hK K ho hgw T HG HW HM
            clear W
            (try dsimp only [Act.put])
            rename World => W
            have HG := N1
            have HW := NHW
            have HO := NHO
            clear N1 NHW NHO
            refine take_put (i := 12) (v := .agg #[.int .i64 fr, .int .i64 qt, .slice none 0 0, .slice a7 ws.length c7, .slice a11 os.length c11]) 17 rfl rfl (by kernel_rfl) (by kernel_rfl) (by kernel_rfl) (fun _ _ _ h => h) (Or.inl ⟨by rfl, by intro V hSV; go_simp⟩) (by assumption) ?_
            (try dsimp only [Act.put])
            refine wpAnyH_ready (rs := [13]) (by kernel_rfl) (by simp) ?_
            refine AllReadyH.cons rfl (fun K hK => ?_) AllReadyH.nil
            · go_simp
              have N1 := hide (grownBy_trans HG.out (World.grownBy_alloc W (.cells #[.int .i64 0, .int .i64 0, .slice none 0 0, .slice none 0 0, .slice none 0 0] 26) none))
              have NHW := hide (own_kept HW.out (World.grownBy_alloc W (.cells #[.int .i64 0, .int .i64 0, .slice none 0 0, .slice none 0 0, .slice none 0 0] 26) none))
              have NHO := hide (own_kept HO.out (World.grownBy_alloc W (.cells #[.int .i64 0, .int .i64 0, .slice none 0 0, .slice none 0 0, .slice none 0 0] 26) none))
              have NHB := hide (heap_alloc_new W (.cells #[.int .i64 0, .int .i64 0, .slice none 0 0, .slice none 0 0, .slice none 0 0] 26))
              have NHBn := hide HG.out.size
              clear hHeld
              refine hK.out _ _ (SK.out _ N1.out) (fun hHeld => ?_)
              clear hK K HG HW HO
              generalize W.alloc (.cells #[.int .i64 0, .int .i64 0, .slice none 0 0, .slice none 0 0, .slice none 0 0] 26) = W2 at *
              generalize W.heap.size = B at *
              clear W
              rename World => W
              have HG := N1
              have HW := NHW
              have HO := NHO
              have HB := NHB
              have HBn := NHBn
              clear N1 NHW NHO NHB NHBn
              have k0 : W.cell? ⟨B, 0, none⟩ = some (.int .i64 0) := blk_cell HB.out 0
              have k1 : W.cell? ⟨B, 1, none⟩ = some (.int .i64 0) := blk_cell HB.out 1
              have k2 : W.cell? ⟨B, 2, none⟩ = some (.slice none 0 0) := blk_cell HB.out 2
              have k3 : W.cell? ⟨B, 3, none⟩ = some (.slice none 0 0) := blk_cell HB.out 3
              have k4 : W.cell? ⟨B, 4, none⟩ = some (.slice none 0 0) := blk_cell HB.out 4
              have kf := blk_free HB.out
              have N0 := hide (type_box HB.out)
              refine wpAnyH_ready (rs := [14]) (by kernel_rfl) (by simp) ?_
              refine AllReadyH.cons rfl (fun K hK => ?_) AllReadyH.nil
              go_simp
              refine hK.out _ _ ?hs (fun hHeld => ?_)
              case hs => exact SK.out _ (set5_grown HG.out HBn.out _ _ _ _ _)
              clear hK K
              refine wpAnyH_done (by kernel_rfl) ?_ _
              refine NoPanic.normal ?_
              go_wp2_with fail
              go_meet
              case rel => exact ⟨B, a7, c7, a11, c11, rfl, HBn, hide (set5_box HB.out), hide (set5_own HW.out N0.out (by decide)), hide (set5_own HO.out N0.out (by decide)), hide (set5_grown HG.out HBn.out _ _ _ _ _)⟩
          · go_simp
            have N1 := hide (grownBy_trans HG.out (World.grownBy_alloc W (.cells #[.int .i64 0, .int .i64 0, .slice none 0 0, .slice none 0 0, .slice none 0 0] 26) none))
            have NHW := hide (own_kept HW.out (World.grownBy_alloc W (.cells #[.int .i64 0, .int .i64 0, .slice none 0 0, .slice none 0 0, .slice none 0 0] 26) none))
            have NHM := hide (own_kept HM.out (World.grownBy_alloc W (.cells #[.int .i64 0, .int .i64 0, .slice none 0 0, .slice none 0 0, .slice none 0 0] 26) none))
            have NHB := hide (heap_alloc_new W (.cells #[.int .i64 0, .int .i64 0, .slice none 0 0, .slice none 0 0, .slice none 0 0] 26))
            have NHBn := hide HG.out.size
            clear hHeld
            refine hK.out _ _ (SK.out _ N1.out) (fun hHeld => ?_)
            clear hK K HG HW HM
            generalize W.alloc (.cells #[.int .i64 0, .int .i64 0, .slice none 0 0, .slice none 0 0, .slice none 0 0] 26) = W2 at *
            generalize W.heap.size = B at *
            clear W
            rename World => W
            have HG := N1
            have HW := NHW
            have HM := NHM
            have HB := NHB
            have HBn := NHBn
            clear N1 NHW NHM NHB NHBn
            refine wpAnyH_ready (rs := [11]) (by kernel_rfl) (by simp) ?_
            refine AllReadyH.cons rfl (fun K hK => ?_) AllReadyH.nil
            · refine step_copy (S := shO) _ rfl _ _ 24 rfl 57 _ 32 Tryd.underlying24 infoO rfl wb.heap.size g8 rfl HM.out _ os rfl (HVO.out _ HG.out) hbO HG.out.size ?_
              intro a11 c11 W2 ho hgw
              have T := hide (type_own HM.out)
              have N1 := hide (grown_spoil HG.out (HM.out.lt g8 rfl).1 hgw)
              have NHW := hide (own_type HW.out hgw T.out (by decide))
              have NHO := hide ho
              have NHB := hide (box_type HB.out hgw T.out (by decide))
              have NHBn := HBn
              clear hHeld
              refine hK.out _ _ (SK.out _ N1.out) (fun hHeld => ?_)
              clear hK K ho hgw T HG HW HM HB HBn
              clear W
              (try dsimp only [Act.put])
              rename World => W
              have HG := N1
              have HW := NHW
              have HO := NHO
              have HB := NHB
              have HBn := NHBn
              clear N1 NHW NHO NHB NHBn
              refine take_put (i := 12) (v := .agg #[.int .i64 fr, .int .i64 qt, .slice none 0 0, .slice a7 ws.length c7, .slice a11 os.length c11]) 17 rfl rfl (by kernel_rfl) (by kernel_rfl) (by kernel_rfl) (fun _ _ _ h => h) (Or.inl ⟨by rfl, by intro V hSV; go_simp⟩) (by assumption) ?_
              (try dsimp only [Act.put])
              have k0 : W.cell? ⟨B, 0, none⟩ = some (.int .i64 0) := blk_cell HB.out 0
              have k1 : W.cell? ⟨B, 1, none⟩ = some (.int .i64 0) := blk_cell HB.out 1
              have k2 : W.cell? ⟨B, 2, none⟩ = some (.slice none 0 0) := blk_cell HB.out 2
              have k3 : W.cell? ⟨B, 3, none⟩ = some (.slice none 0 0) := blk_cell HB.out 3
              have k4 : W.cell? ⟨B, 4, none⟩ = some (.slice none 0 0) := blk_cell HB.out 4
              have kf := blk_free HB.out
              have N0 := hide (type_box HB.out)
              refine wpAnyH_ready (rs := [14]) (by kernel_rfl) (by simp) ?_
              refine AllReadyH.cons rfl (fun K hK => ?_) AllReadyH.nil
              go_simp
              refine hK.out _ _ ?hs (fun hHeld => ?_)
              case hs => exact SK.out _ (set5_grown HG.out HBn.out _ _ _ _ _)
              clear hK K
              refine wpAnyH_done (by kernel_rfl) ?_ _
              refine NoPanic.normal ?_
              go_wp2_with fail
              go_meet
              case rel => exact ⟨B, a7, c7, a11, c11, rfl, HBn, hide (set5_box HB.out), hide (set5_own HW.out N0.out (by decide)), hide (set5_own HO.out N0.out (by decide)), hide (set5_grown HG.out HBn.out _ _ _ _ _)⟩
        · go_simp
          have N1 := hide (grownBy_trans HG.out (World.grownBy_alloc W (.cells #[.int .i64 0, .int .i64 0, .slice none 0 0, .slice none 0 0, .slice none 0 0] 26) none))
          have NHL := hide (own_kept HL.out (World.grownBy_alloc W (.cells #[.int .i64 0, .int .i64 0, .slice none 0 0, .slice none 0 0, .slice none 0 0] 26) none))
          have NHM := hide (own_kept HM.out (World.grownBy_alloc W (.cells #[.int .i64 0, .int .i64 0, .slice none 0 0, .slice none 0 0, .slice none 0 0] 26) none))
          have NHB := hide (heap_alloc_new W (.cells #[.int .i64 0, .int .i64 0, .slice none 0 0, .slice none 0 0, .slice none 0 0] 26))
          have NHBn := hide HG.out.size
          clear hHeld
          refine hK.out _ _ (SK.out _ N1.out) (fun hHeld => ?_)
          clear hK K HG HL HM
          generalize W.alloc (.cells #[.int .i64 0, .int .i64 0, .slice none 0 0, .slice none 0 0, .slice none 0 0] 26) = W2 at *
          generalize W.heap.size = B at *
          clear W
          rename World => W
          have HG := N1
          have HL := NHL
          have HM := NHM
          have HB := NHB
          have HBn := NHBn
          clear N1 NHL NHM NHB NHBn
          refine wpAnyH_ready (rs := [7]) (by kernel_rfl) (by simp) ?_
          refine AllReadyH.cons rfl (fun K hK => ?_) AllReadyH.nil
          · refine step_copy (S := shW) _ rfl _ _ 23 rfl 59 _ 24 Tryd.underlying23 infoW rfl wb.heap.size g4 rfl HL.out _ ws rfl (HVW.out _ HG.out) hbW HG.out.size ?_
            intro a7 c7 W2 ho hgw
            have T := hide (type_own HL.out)
            have N1 := hide (grown_spoil HG.out (HL.out.lt g4 rfl).1 hgw)
            have NHM := hide (own_type HM.out hgw T.out (by decide))
            have NHW := hide ho
            have NHB := hide (box_type HB.out hgw T.out (by decide))
            have NHBn := HBn
            clear hHeld
            refine hK.out _ _ (SK.out _ N1.out) (fun hHeld => ?_)
            clear hK K ho hgw T HG HL HM HB HBn
            clear W
            (try dsimp only [Act.put])
            rename World => W
            have HG := N1
            have HM := NHM
            have HW := NHW
            have HB := NHB
            have HBn := NHBn
            clear N1 NHM NHW NHB NHBn
            refine wpAnyH_ready (rs := [11]) (by kernel_rfl) (by simp) ?_
            refine AllReadyH.cons rfl (fun K hK => ?_) AllReadyH.nil
            · refine step_copy (S := shO) _ rfl _ _ 24 rfl 57 _ 32 Tryd.underlying24 infoO rfl wb.heap.size g8 rfl HM.out _ os rfl (HVO.out _ HG.out) hbO HG.out.size ?_
              intro a11 c11 W2 ho hgw
              have T := hide (type_own HM.out)
              have N1 := hide (grown_spoil HG.out (HM.out.lt g8 rfl).1 hgw)
              have NHW := hide (own_type HW.out hgw T.out (by decide))
              have NHO := hide ho
              have NHB := hide (box_type HB.out hgw T.out (by decide))
              have NHBn := HBn
              clear hHeld
              refine hK.out _ _ (SK.out _ N1.out) (fun hHeld => ?_)
              clear hK K ho hgw T HG HW HM HB HBn
              clear W
              (try dsimp only [Act.put])
              rename World => W
              have HG := N1
              have HW := NHW
              have HO := NHO
              have HB := NHB
              have HBn := NHBn
              clear N1 NHW NHO NHB NHBn
              refine take_put (i := 12) (v := .agg #[.int .i64 fr, .int .i64 qt, .slice none 0 0, .slice a7 ws.length c7, .slice a11 os.length c11]) 17 rfl rfl (by kernel_rfl) (by kernel_rfl) (by kernel_rfl) (fun _ _ _ h => h) (Or.inl ⟨by rfl, by intro V hSV; go_simp⟩) (by assumption) ?_
              (try dsimp only [Act.put])
              have k0 : W.cell? ⟨B, 0, none⟩ = some (.int .i64 0) := blk_cell HB.out 0
              have k1 : W.cell? ⟨B, 1, none⟩ = some (.int .i64 0) := blk_cell HB.out 1
              have k2 : W.cell? ⟨B, 2, none⟩ = some (.slice none 0 0) := blk_cell HB.out 2
              have k3 : W.cell? ⟨B, 3, none⟩ = some (.slice none 0 0) := blk_cell HB.out 3
              have k4 : W.cell? ⟨B, 4, none⟩ = some (.slice none 0 0) := blk_cell HB.out 4
              have kf := blk_free HB.out
              have N0 := hide (type_box HB.out)
              refine wpAnyH_ready (rs := [14]) (by kernel_rfl) (by simp) ?_
              refine AllReadyH.cons rfl (fun K hK => ?_) AllReadyH.nil
              go_simp
              refine hK.out _ _ ?hs (fun hHeld => ?_)
              case hs => exact SK.out _ (set5_grown HG.out HBn.out _ _ _ _ _)
              clear hK K
              refine wpAnyH_done (by kernel_rfl) ?_ _
              refine NoPanic.normal ?_
              go_wp2_with fail
              go_meet
              case rel => exact ⟨B, a7, c7, a11, c11, rfl, HBn, hide (set5_box HB.out), hide (set5_own HW.out N0.out (by decide)), hide (set5_own HO.out N0.out (by decide)), hide (set5_grown HG.out HBn.out _ _ _ _ _)⟩
      · go_simp
        have N1 := hide (grownBy_trans HG.out (World.grownBy_alloc W (.cells #[.int .i64 0, .int .i64 0, .slice none 0 0, .slice none 0 0, .slice none 0 0] 26) none))
        have NHM := hide (own_kept HM.out (World.grownBy_alloc W (.cells #[.int .i64 0, .int .i64 0, .slice none 0 0, .slice none 0 0, .slice none 0 0] 26) none))
        have NHB := hide (heap_alloc_new W (.cells #[.int .i64 0, .int .i64 0, .slice none 0 0, .slice none 0 0, .slice none 0 0] 26))
        have NHBn := hide HG.out.size
        clear hHeld
        refine hK.out _ _ (SK.out _ N1.out) (fun hHeld => ?_)
        clear hK K HG HM
        generalize W.alloc (.cells #[.int .i64 0, .int .i64 0, .slice none 0 0, .slice none 0 0, .slice none 0 0] 26) = W2 at *
        generalize W.heap.size = B at *
        clear W
        rename World => W
        have HG := N1
        have HM := NHM
        have HB := NHB
        have HBn := NHBn
        clear N1 NHM NHB NHBn
        refine wpAnyH_ready (rs := [4]) (by kernel_rfl) (by simp) ?_
        refine AllReadyH.cons rfl (fun K hK => ?_) AllReadyH.nil
        · go_simp
          have N1 := hide (grownBy_trans HG.out (World.grownBy_alloc W (.cells #[] 59) none))
          have NHM := hide (own_kept HM.out (World.grownBy_alloc W (.cells #[] 59) none))
          have NHB := hide (hp_up HB.out (.cells #[] 59))
          have NHBn := HBn
          have NHL := hide (own_mono (lit_own W 59 3) HG.out.size)
          clear hHeld
          refine hK.out _ _ (SK.out _ N1.out) (fun hHeld => ?_)
          clear hK K HG HM HB HBn
          generalize W.alloc (.cells #[] 59) = W2 at *
          generalize W.heap.size = g4 at *
          clear W
          rename World => W
          have HG := N1
          have HM := NHM
          have HL := NHL
          have HB := NHB
          have HBn := NHBn
          clear N1 NHM NHL NHB NHBn
          refine wpAnyH_ready (rs := [7]) (by kernel_rfl) (by simp) ?_
          refine AllReadyH.cons rfl (fun K hK => ?_) AllReadyH.nil
          · refine step_copy (S := shW) _ rfl _ _ 23 rfl 59 _ 24 Tryd.underlying23 infoW rfl wb.heap.size g4 rfl HL.out _ ws rfl (HVW.out _ HG.out) hbW HG.out.size ?_
            intro a7 c7 W2 ho hgw
            have T := hide (type_own HL.out)
            have N1 := hide (grown_spoil HG.out (HL.out.lt g4 rfl).1 hgw)
            have NHM := hide (own_type HM.out hgw T.out (by decide))
            have NHW := hide ho
            have NHB := hide (box_type HB.out hgw T.out (by decide))
            have NHBn := HBn
            clear hHeld
            refine hK.out _ _ (SK.out _ N1.out) (fun hHeld => ?_)
            clear hK K ho hgw T HG HL HM HB HBn
            clear W
            (try dsimp only [Act.put])
            rename World => W
            have HG := N1
            have HM := NHM
            have HW := NHW
            have HB := NHB
            have HBn := NHBn
            clear N1 NHM NHW NHB NHBn
            refine wpAnyH_ready (rs := [11]) (by kernel_rfl) (by simp) ?_
            refine AllReadyH.cons rfl (fun K hK => ?_) AllReadyH.nil
            · refine step_copy (S := shO) _ rfl _ _ 24 rfl 57 _ 32 Tryd.underlying24 infoO rfl wb.heap.size g8 rfl HM.out _ os rfl (HVO.out _ HG.out) hbO HG.out.size ?_
              intro a11 c11 W2 ho hgw
              have T := hide (type_own HM.out)
              have N1 := hide (grown_spoil HG.out (HM.out.lt g8 rfl).1 hgw)
              have NHW := hide (own_type HW.out hgw T.out (by decide))
              have NHO := hide ho
              have NHB := hide (box_type HB.out hgw T.out (by decide))
              have NHBn := HBn
              clear hHeld
              refine hK.out _ _ (SK.out _ N1.out) (fun hHeld => ?_)
              clear hK K ho hgw T HG HW HM HB HBn
              clear W
              (try dsimp only [Act.put])
              rename World => W
              have HG := N1
              have HW := NHW
              have HO := NHO
              have HB := NHB
              have HBn := NHBn
              clear N1 NHW NHO NHB NHBn
              refine take_put (i := 12) (v := .agg #[.int .i64 fr, .int .i64 qt, .slice none 0 0, .slice a7 ws.length c7, .slice a11 os.length c11]) 17 rfl rfl (by kernel_rfl) (by kernel_rfl) (by kernel_rfl) (fun _ _ _ h => h) (Or.inl ⟨by rfl, by intro V hSV; go_simp⟩) (by assumption) ?_
              (try dsimp only [Act.put])
              have k0 : W.cell? ⟨B, 0, none⟩ = some (.int .i64 0) := blk_cell HB.out 0
              have k1 : W.cell? ⟨B, 1, none⟩ = some (.int .i64 0) := blk_cell HB.out 1
              have k2 : W.cell? ⟨B, 2, none⟩ = some (.slice none 0 0) := blk_cell HB.out 2
              have k3 : W.cell? ⟨B, 3, none⟩ = some (.slice none 0 0) := blk_cell HB.out 3
              have k4 : W.cell? ⟨B, 4, none⟩ = some (.slice none 0 0) := blk_cell HB.out 4
              have kf := blk_free HB.out
              have N0 := hide (type_box HB.out)
              refine wpAnyH_ready (rs := [14]) (by kernel_rfl) (by simp) ?_
              refine AllReadyH.cons rfl (fun K hK => ?_) AllReadyH.nil
              go_simp
              refine hK.out _ _ ?hs (fun hHeld => ?_)
              case hs => exact SK.out _ (set5_grown HG.out HBn.out _ _ _ _ _)
              clear hK K
              refine wpAnyH_done (by kernel_rfl) ?_ _
              refine NoPanic.normal ?_
              go_wp2_with fail
              go_meet
              case rel => exact ⟨B, a7, c7, a11, c11, rfl, HBn, hide (set5_box HB.out), hide (set5_own HW.out N0.out (by decide)), hide (set5_own HO.out N0.out (by decide)), hide (set5_grown HG.out HBn.out _ _ _ _ _)⟩
    · go_simp
      have N1 := hide (grownBy_trans HG.out (World.grownBy_alloc W (.cells #[.int .i64 0, .int .i64 0, .slice none 0 0, .slice none 0 0, .slice none 0 0] 26) none))
      have NHB := hide (heap_alloc_new W (.cells #[.int .i64 0, .int .i64 0, .slice none 0 0, .slice none 0 0, .slice none 0 0] 26))
      have NHBn := hide HG.out.size
      clear hHeld
      refine hK.out _ _ (SK.out _ N1.out) (fun hHeld => ?_)
      clear hK K HG
      generalize W.alloc (.cells #[.int .i64 0, .int .i64 0, .slice none 0 0, .slice none 0 0, .slice none 0 0] 26) = W2 at *
      generalize W.heap.size = B at *
      clear W
      rename World => W
      have HG := N1
      have HB := NHB
      have HBn := NHBn
      clear N1 NHB NHBn
      refine wpAnyH_ready (rs := [4, 8]) (by kernel_rfl) (by simp) ?_
      refine AllReadyH.cons rfl (fun K hK => ?_) (AllReadyH.cons rfl (fun K hK => ?_) AllReadyH.nil)
      · go_simp
        have N1 := hide (grownBy_trans HG.out (World.grownBy_alloc W (.cells #[] 59) none))
        have NHB := hide (hp_up HB.out (.cells #[] 59))
        have NHBn := HBn
        have NHL := hide (own_mono (lit_own W 59 3) HG.out.size)
        clear hHeld
        refine hK.out _ _ (SK.out _ N1.out) (fun hHeld => ?_)
        clear hK K HG HB HBn
        generalize W.alloc (.cells #[] 59) = W2 at *
        generalize W.heap.size = g4 at *
        clear W
        rename World => W
        have HG := N1
        have HL := NHL
        have HB := NHB
        have HBn := NHBn
        clear N1 NHL NHB NHBn
        refine wpAnyH_ready (rs := [7, 8]) (by kernel_rfl) (by simp) ?_
        refine AllReadyH.cons rfl (fun K hK => ?_) (AllReadyH.cons rfl (fun K hK => ?_) AllReadyH.nil)
        · refine step_copy (S := shW) _ rfl _ _ 23 rfl 59 _ 24 Tryd.underlying23 infoW rfl wb.heap.size g4 rfl HL.out _ ws rfl (HVW.out _ HG.out) hbW HG.out.size ?_
          intro a7 c7 W2 ho hgw
          have T := hide (type_own HL.out)
          have N1 := hide (grown_spoil HG.out (HL.out.lt g4 rfl).1 hgw)
          have NHW := hide ho
          have NHB := hide (box_type HB.out hgw T.out (by decide))
          have NHBn := HBn
          clear hHeld
          refine hK.out _ _ (SK.out _ N1.out) (fun hHeld => ?_)
          clear hK K ho hgw T HG HL HB HBn
          clear W
          (try dsimp only [Act.put])
          rename World => W
          have HG := N1
          have HW := NHW
          have HB := NHB
          have HBn := NHBn
          clear N1 NHW NHB NHBn
          refine wpAnyH_ready (rs := [8]) (by kernel_rfl) (by simp) ?_
          refine AllReadyH.cons rfl (fun K hK => ?_) AllReadyH.nil
          · go_simp
            have N1 := hide (grownBy_trans HG.out (World.grownBy_alloc W (.cells #[] 57) none))
            have NHW := hide (own_kept HW.out (World.grownBy_alloc W (.cells #[] 57) none))
            have NHB := hide (hp_up HB.out (.cells #[] 57))
            have NHBn := HBn
            have NHM := hide (own_mono (lit_own W 57 4) HG.out.size)
            clear hHeld
            refine hK.out _ _ (SK.out _ N1.out) (fun hHeld => ?_)
            clear hK K HG HW HB HBn
            generalize W.alloc (.cells #[] 57) = W2 at *
            generalize W.heap.size = g8 at *
            clear W
            rename World => W
            have HG := N1
            have HW := NHW
            have HM := NHM
            have HB := NHB
            have HBn := NHBn
            clear N1 NHW NHM NHB NHBn
            refine wpAnyH_ready (rs := [11]) (by kernel_rfl) (by simp) ?_
            refine AllReadyH.cons rfl (fun K hK => ?_) AllReadyH.nil
            · refine step_copy (S := shO) _ rfl _ _ 24 rfl 57 _ 32 Tryd.underlying24 infoO rfl wb.heap.size g8 rfl HM.out _ os rfl (HVO.out _ HG.out) hbO HG.out.size ?_
              intro a11 c11 W2 ho hgw
              have T := hide (type_own HM.out)
              have N1 := hide (grown_spoil HG.out (HM.out.lt g8 rfl).1 hgw)
              have NHW := hide (own_type HW.out hgw T.out (by decide))
              have NHO := hide ho
              have NHB := hide (box_type HB.out hgw T.out (by decide))
              have NHBn := HBn
              clear hHeld
              refine hK.out _ _ (SK.out _ N1.out) (fun hHeld => ?_)
              clear hK K ho hgw T HG HW HM HB HBn
              clear W
              (try dsimp only [Act.put])
              rename World => W
              have HG := N1
              have HW := NHW
              have HO := NHO
              have HB := NHB
              have HBn := NHBn
              clear N1 NHW NHO NHB NHBn
              refine take_put (i := 12) (v := .agg #[.int .i64 fr, .int .i64 qt, .slice none 0 0, .slice a7 ws.length c7, .slice a11 os.length c11]) 17 rfl rfl (by kernel_rfl) (by kernel_rfl) (by kernel_rfl) (fun _ _ _ h => h) (Or.inl ⟨by rfl, by intro V hSV; go_simp⟩) (by assumption) ?_
              (try dsimp only [Act.put])
              have k0 : W.cell? ⟨B, 0, none⟩ = some (.int .i64 0) := blk_cell HB.out 0
              have k1 : W.cell? ⟨B, 1, none⟩ = some (.int .i64 0) := blk_cell HB.out 1
              have k2 : W.cell? ⟨B, 2, none⟩ = some (.slice none 0 0) := blk_cell HB.out 2
              have k3 : W.cell? ⟨B, 3, none⟩ = some (.slice none 0 0) := blk_cell HB.out 3
              have k4 : W.cell? ⟨B, 4, none⟩ = some (.slice none 0 0) := blk_cell HB.out 4
              have kf := blk_free HB.out
              have N0 := hide (type_box HB.out)
              refine wpAnyH_ready (rs := [14]) (by kernel_rfl) (by simp) ?_
              refine AllReadyH.cons rfl (fun K hK => ?_) AllReadyH.nil
              go_simp
              refine hK.out _ _ ?hs (fun hHeld => ?_)
              case hs => exact SK.out _ (set5_grown HG.out HBn.out _ _ _ _ _)
              clear hK K
              refine wpAnyH_done (by kernel_rfl) ?_ _
              refine NoPanic.normal ?_
              go_wp2_with fail
              go_meet
              case rel => exact ⟨B, a7, c7, a11, c11, rfl, HBn, hide (set5_box HB.out), hide (set5_own HW.out N0.out (by decide)), hide (set5_own HO.out N0.out (by decide)), hide (set5_grown HG.out HBn.out _ _ _ _ _)⟩
        · go_simp
          have N1 := hide (grownBy_trans HG.out (World.grownBy_alloc W (.cells #[] 57) none))
          have NHL := hide (own_kept HL.out (World.grownBy_alloc W (.cells #[] 57) none))
          have NHB := hide (hp_up HB.out (.cells #[] 57))
          have NHBn := HBn
          have NHM := hide (own_mono (lit_own W 57 4) HG.out.size)
          clear hHeld
          refine hK.out _ _ (SK.out _ N1.out) (fun hHeld => ?_)
          clear hK K HG HL HB HBn
          generalize W.alloc (.cells #[] 57) = W2 at *
          generalize W.heap.size = g8 at *
          clear W
          rename World => W
          have HG := N1
          have HL := NHL
          have HM := NHM
          have HB := NHB
          have HBn := NHBn
          clear N1 NHL NHM NHB NHBn
          refine wpAnyH_ready (rs := [7]) (by kernel_rfl) (by simp) ?_
          refine AllReadyH.cons rfl (fun K hK => ?_) AllReadyH.nil
          · refine step_copy (S := shW) _ rfl _ _ 23 rfl 59 _ 24 Tryd.underlying23 infoW rfl wb.heap.size g4 rfl HL.out _ ws rfl (HVW.out _ HG.out) hbW HG.out.size ?_
            intro a7 c7 W2 ho hgw
            have T := hide (type_own HL.out)
            have N1 := hide (grown_spoil HG.out (HL.out.lt g4 rfl).1 hgw)
            have NHM := hide (own_type HM.out hgw T.out (by decide))
            have NHW := hide ho
            have NHB := hide (box_type HB.out hgw T.out (by decide))
            have NHBn := HBn
            clear hHeld
            refine hK.out _ _ (SK.out _ N1.out) (fun hHeld => ?_)
            clear hK K ho hgw T HG HL HM HB HBn
            clear W
            (try dsimp only [Act.put])
            rename World => W
            have HG := N1
            have HM := NHM
            have HW := NHW
            have HB := NHB
            have HBn := NHBn
            clear N1 NHM NHW NHB NHBn
            refine wpAnyH_ready (rs := [11]) (by kernel_rfl) (by simp) ?_
            refine AllReadyH.cons rfl (fun K hK => ?_) AllReadyH.nil
            · refine step_copy (S := shO) _ rfl _ _ 24 rfl 57 _ 32 Tryd.underlying24 infoO rfl wb.heap.size g8 rfl HM.out _ os rfl (HVO.out _ HG.out) hbO HG.out.size ?_
              intro a11 c11 W2 ho hgw
              have T := hide (type_own HM.out)
              have N1 := hide (grown_spoil HG.out (HM.out.lt g8 rfl).1 hgw)
              have NHW := hide (own_type HW.out hgw T.out (by decide))
              have NHO := hide ho
              have NHB := hide (box_type HB.out hgw T.out (by decide))
              have NHBn := HBn
              clear hHeld
              refine hK.out _ _ (SK.out _ N1.out) (fun hHeld => ?_)
              clear hK K ho hgw T HG HW HM HB HBn
              clear W
              (try dsimp only [Act.put])
              rename World => W
              have HG := N1
              have HW := NHW
              have HO := NHO
              have HB := NHB
              have HBn := NHBn
              clear N1 NHW NHO NHB NHBn
              refine take_put (i := 12) (v := .agg #[.int .i64 fr, .int .i64 qt, .slice none 0 0, .slice a7 ws.length c7, .slice a11 os.length c11]) 17 rfl rfl (by kernel_rfl) (by kernel_rfl) (by kernel_rfl) (fun _ _ _ h => h) (Or.inl ⟨by rfl, by intro V hSV; go_simp⟩) (by assumption) ?_
              (try dsimp only [Act.put])
              have k0 : W.cell? ⟨B, 0, none⟩ = some (.int .i64 0) := blk_cell HB.out 0
              have k1 : W.cell? ⟨B, 1, none⟩ = some (.int .i64 0) := blk_cell HB.out 1
              have k2 : W.cell? ⟨B, 2, none⟩ = some (.slice none 0 0) := blk_cell HB.out 2
              have k3 : W.cell? ⟨B, 3, none⟩ = some (.slice none 0 0) := blk_cell HB.out 3
              have k4 : W.cell? ⟨B, 4, none⟩ = some (.slice none 0 0) := blk_cell HB.out 4
              have kf := blk_free HB.out
              have N0 := hide (type_box HB.out)
              refine wpAnyH_ready (rs := [14]) (by kernel_rfl) (by simp) ?_
              refine AllReadyH.cons rfl (fun K hK => ?_) AllReadyH.nil
              go_simp
              refine hK.out _ _ ?hs (fun hHeld => ?_)
              case hs => exact SK.out _ (set5_grown HG.out HBn.out _ _ _ _ _)
              clear hK K
              refine wpAnyH_done (by kernel_rfl) ?_ _
              refine NoPanic.normal ?_
              go_wp2_with fail
              go_meet
              case rel => exact ⟨B, a7, c7, a11, c11, rfl, HBn, hide (set5_box HB.out), hide (set5_own HW.out N0.out (by decide)), hide (set5_own HO.out N0.out (by decide)), hide (set5_grown HG.out HBn.out _ _ _ _ _)⟩
      · go_simp
        have N1 := hide (grownBy_trans HG.out (World.grownBy_alloc W (.cells #[] 57) none))
        have NHB := hide (hp_up HB.out (.cells #[] 57))
        have NHBn := HBn
        have NHM := hide (own_mono (lit_own W 57 4) HG.out.size)
        clear hHeld
        refine hK.out _ _ (SK.out _ N1.out) (fun hHeld => ?_)
        clear hK K HG HB HBn
        generalize W.alloc (.cells #[] 57) = W2 at *
        generalize W.heap.size = g8 at *
        clear W
        rename World => W
        have HG := N1
        have HM := NHM
        have HB := NHB
        have HBn := NHBn
        clear N1 NHM NHB NHBn
        refine wpAnyH_ready (rs := [4]) (by kernel_rfl) (by simp) ?_
        refine AllReadyH.cons rfl (fun K hK => ?_) AllReadyH.nil
        · go_simp
          have N1 := hide (grownBy_trans HG.out (World.grownBy_alloc W (.cells #[] 59) none))
          have NHM := hide (own_kept HM.out (World.grownBy_alloc W (.cells #[] 59) none))
          have NHB := hide (hp_up HB.out (.cells #[] 59))
          have NHBn := HBn
          have NHL := hide (own_mono (lit_own W 59 3) HG.out.size)
          clear hHeld
          refine hK.out _ _ (SK.out _ N1.out) (fun hHeld => ?_)
          clear hK K HG HM HB HBn
          generalize W.alloc (.cells #[] 59) = W2 at *
          generalize W.heap.size = g4 at *
          clear W
          rename World => W
          have HG := N1
          have HM := NHM
          have HL := NHL
          have HB := NHB
          have HBn := NHBn
          clear N1 NHM NHL NHB NHBn
          refine wpAnyH_ready (rs := [7]) (by kernel_rfl) (by simp) ?_
          refine AllReadyH.cons rfl (fun K hK => ?_) AllReadyH.nil
          · refine step_copy (S := shW) _ rfl _ _ 23 rfl 59 _ 24 Tryd.underlying23 infoW rfl wb.heap.size g4 rfl HL.out _ ws rfl (HVW.out _ HG.out) hbW HG.out.size ?_
            intro a7 c7 W2 ho hgw
            have T := hide (type_own HL.out)
            have N1 := hide (grown_spoil HG.out (HL.out.lt g4 rfl).1 hgw)
            have NHM := hide (own_type HM.out hgw T.out (by decide))
            have NHW := hide ho
            have NHB := hide (box_type HB.out hgw T.out (by decide))
            have NHBn := HBn
            clear hHeld
            refine hK.out _ _ (SK.out _ N1.out) (fun hHeld => ?_)
            clear hK K ho hgw T HG HL HM HB HBn
            clear W
            (try dsimp only [Act.put])
            rename World => W
            have HG := N1
            have HM := NHM
            have HW := NHW
            have HB := NHB
            have HBn := NHBn
            clear N1 NHM NHW NHB NHBn
            refine wpAnyH_ready (rs := [11]) (by kernel_rfl) (by simp) ?_
            refine AllReadyH.cons rfl (fun K hK => ?_) AllReadyH.nil
            · refine step_copy (S := shO) _ rfl _ _ 24 rfl 57 _ 32 Tryd.underlying24 infoO rfl wb.heap.size g8 rfl HM.out _ os rfl (HVO.out _ HG.out) hbO HG.out.size ?_
              intro a11 c11 W2 ho hgw
              have T := hide (type_own HM.out)
              have N1 := hide (grown_spoil HG.out (HM.out.lt g8 rfl).1 hgw)
              have NHW := hide (own_type HW.out hgw T.out (by decide))
              have NHO := hide ho
              have NHB := hide (box_type HB.out hgw T.out (by decide))
              have NHBn := HBn
              clear hHeld
              refine hK.out _ _ (SK.out _ N1.out) (fun hHeld => ?_)
              clear hK K ho hgw T HG HW HM HB HBn
              clear W
              (try dsimp only [Act.put])
              rename World => W
              have HG := N1
              have HW := NHW
              have HO := NHO
              have HB := NHB
              have HBn := NHBn
              clear N1 NHW NHO NHB NHBn
              refine take_put (i := 12) (v := .agg #[.int .i64 fr, .int .i64 qt, .slice none 0 0, .slice a7 ws.length c7, .slice a11 os.length c11]) 17 rfl rfl (by kernel_rfl) (by kernel_rfl) (by kernel_rfl) (fun _ _ _ h => h) (Or.inl ⟨by rfl, by intro V hSV; go_simp⟩) (by assumption) ?_
              (try dsimp only [Act.put])
              have k0 : W.cell? ⟨B, 0, none⟩ = some (.int .i64 0) := blk_cell HB.out 0
              have k1 : W.cell? ⟨B, 1, none⟩ = some (.int .i64 0) := blk_cell HB.out 1
              have k2 : W.cell? ⟨B, 2, none⟩ = some (.slice none 0 0) := blk_cell HB.out 2
              have k3 : W.cell? ⟨B, 3, none⟩ = some (.slice none 0 0) := blk_cell HB.out 3
              have k4 : W.cell? ⟨B, 4, none⟩ = some (.slice none 0 0) := blk_cell HB.out 4
              have kf := blk_free HB.out
              have N0 := hide (type_box HB.out)
              refine wpAnyH_ready (rs := [14]) (by kernel_rfl) (by simp) ?_
              refine AllReadyH.cons rfl (fun K hK => ?_) AllReadyH.nil
              go_simp
              refine hK.out _ _ ?hs (fun hHeld => ?_)
              case hs => exact SK.out _ (set5_grown HG.out HBn.out _ _ _ _ _)
              clear hK K
              refine wpAnyH_done (by kernel_rfl) ?_ _
              refine NoPanic.normal ?_
              go_wp2_with fail
              go_meet
              case rel => exact ⟨B, a7, c7, a11, c11, rfl, HBn, hide (set5_box HB.out), hide (set5_own HW.out N0.out (by decide)), hide (set5_own HO.out N0.out (by decide)), hide (set5_grown HG.out HBn.out _ _ _ _ _)⟩
  case rest =>
    obtain ⟨B, a7, c7, a11, c11, rfl, HBn, HB, HW, HO, HG⟩ := hcut
    obtain ⟨k0, k1, k2, k3, k4⟩ := KEEP.out wc HG.out
    go_wp2
    go_loopw [4] (fun i V => ∃ (j : Nat) (ap : Option Addr) (cp : Nat), j ≤ n0 ∧ i = .int .i64 j ∧ Hid (V.heap[B]? = some (.cells #[.int .i64 fr, .int .i64 qt, .slice ap j cp, .slice a7 ws.length c7, .slice a11 os.length c11] 26 (0, 0))) ∧ Hid (POwn wb.heap.size V (.slice ap j cp) (ps.take j)) ∧ Hid (V.ownsRow wb.heap.size 59 3 (.slice a7 ws.length c7) ws.length (shW.cells ws)) ∧ Hid (V.ownsRow wb.heap.size 57 4 (.slice a11 os.length c11) os.length (shO.cells os)) ∧ Hid (wb.grownBy V none)) (fun i _ => n0 - (intOf i).toNat)
    case atStart => exact ⟨0, none, 0, by omega, rfl, HB, ⟨[], rfl, ⟨rfl, .inl ⟨rfl, rfl⟩⟩, fun i q p hq _ => by simp at hq⟩, HW, HO, HG⟩
    case round =>
      clear HB HW HO HG k0 k1 k2 k3 k4
      obtain ⟨j, ap, cp, hj, rfl, HB, HP, HW, HO, HG⟩ := hrel
      obtain ⟨k0, k1, k2, k3, k4⟩ := KEEP.out wr HG.out
      by_cases hlt : j < n0
      · obtain ⟨q, hq⟩ : ∃ q, qs[j]? = some q := ⟨_, List.getElem?_eq_getElem (by rw [HN0.out]; exact hlt)⟩
        obtain ⟨p, hp⟩ : ∃ p, ps[j]? = some p := ⟨_, List.getElem?_eq_getElem (by have := HLEN.out; have := HN0.out; omega)⟩
        have hpm := HBP.out p (List.mem_of_getElem? hp)
        obtain ⟨hbt, hbc⟩ := hpm
        have HPI := hide (fun V (h : wb.grownBy V none) => HEL.out V h j q p hq hp)
        have HQL := hide (HPI.out wr HG.out).1
        have HTK := hide (show ps.take (j + 1) = ps.take j ++ [p] by rw [List.take_add_one, hp]; rfl)
        have hra := HRP.out wr HG.out
        obtain ⟨-, a2, cap2, e2, hc⟩ := hra
        simp only [Value.slice.injEq] at e2
        obtain ⟨rfl, -, rfl⟩ := e2
        obtain ⟨g, o, rfl, -, -⟩ := hc (by rw [HN0.out]; omega)
        clear hc
        have SK5 : Hid (∀ V, wb.grownBy V none → S5 w.heap.size g o j n0 pc q V) := fun V hV => by
          obtain ⟨-, a2, cap2, e2, hc⟩ := HRP.out V hV
          simp only [Value.slice.injEq] at e2
          obtain ⟨rfl, -, rfl⟩ := e2
          obtain ⟨g', o', h', -, hc2⟩ := hc (by rw [HN0.out]; omega)
          cases h'
          exact ⟨(KEEP.out V hV).2.2.1, hc2 j q hq 0 _ rfl, hc2 j q hq 1 _ rfl, hc2 j q hq 2 _ rfl⟩
        clear hq hp
        have hn63 : n0 ≤ 9223372036854775807 := by omega
        go_wp2
        refine wp_region_noPanic ?_
        refine wp_region_held_drew (S := S5 w.heap.size g o j n0 pc q) (by kernel_rfl) (SK5.out _ (grownBy_trans HG.out (drew_grown _))) (fun hHeld => ?_)
        have hgx := drew_grown wr
        have NHG := hide (grownBy_trans HG.out hgx)
        have NHB := hide (hp_keep HB.out hgx)
        have NHP := hide (HP.out.grown hgx)
        have NHW := hide (own_kept HW.out hgx)
        have NHO := hide (own_kept HO.out hgx)
        clear hgx HG HB HP HW HO k0 k1 k2 k3 k4
        change wpAnyH _ _ _ _ _ _ _ _ wr.drew
        have e : ({ wr with drawn := wr.drawn + 1 } : World) = wr.drew := rfl
        rw [e] at NHG NHB NHP NHW NHO
        clear e
        generalize wr.drew = W at *
        clear wr
        have HG := NHG
        have HB := NHB
        have HP := NHP
        have HW := NHW
        have HO := NHO
        clear NHG NHB NHP NHW NHO
        refine take_put (i := 0) (v := .pointer (some ⟨B, 2, none⟩)) 25 rfl rfl (by kernel_rfl) (by kernel_rfl) (by kernel_rfl) (fun _ _ _ h => h) (Or.inl ⟨by rfl, by intro V hSV; go_simp⟩) (by assumption) ?_
        (try simp only [Act.put, List.setIfInBounds_toArray, List.set_cons_zero, List.set_cons_succ])
        refine take_put (i := 2) (v := .pointer (some ⟨w.heap.size, 2, none⟩)) 27 rfl rfl (by kernel_rfl) (by kernel_rfl) (by kernel_rfl) (fun _ _ _ h => h) (Or.inl ⟨by rfl, by intro V hSV; go_simp⟩) (by assumption) ?_
        (try simp only [Act.put, List.setIfInBounds_toArray, List.set_cons_zero, List.set_cons_succ])
        refine take_put (i := 3) (v := .slice (some ⟨g, o, none⟩) n0 pc) 28 rfl rfl (by kernel_rfl) (by kernel_rfl) (by kernel_rfl) (fun _ _ _ h => h) (Or.inl ⟨by rfl, by intro V hSV; obtain ⟨s0, s1, s2, s3⟩ := hSV; go_simp⟩) (by assumption) ?_
        (try simp only [Act.put, List.setIfInBounds_toArray, List.set_cons_zero, List.set_cons_succ])
        refine take_put (i := 4) (v := .int .i64 j) 29 rfl rfl (by kernel_rfl) (by kernel_rfl) (by kernel_rfl) (fun _ _ _ h => h) (Or.inl ⟨by rfl, by intro V hSV; go_simp⟩) (by assumption) ?_
        (try simp only [Act.put, List.setIfInBounds_toArray, List.set_cons_zero, List.set_cons_succ])
        refine take_put (i := 5) (v := .pointer (some ⟨g, o + j * 3, none⟩)) 30 rfl rfl (by kernel_rfl) (by kernel_rfl) (by kernel_rfl) (fun _ _ _ h => h) (Or.inl ⟨by rfl, by intro V hSV; go_simp⟩) (by assumption) ?_
        (try simp only [Act.put, List.setIfInBounds_toArray, List.set_cons_zero, List.set_cons_succ])
        refine take_put (i := 6) (v := .pointer (some ⟨g, o + j * 3, none⟩)) 31 rfl rfl (by kernel_rfl) (by kernel_rfl) (by kernel_rfl) (fun _ _ _ h => h) (Or.inl ⟨by rfl, by intro V hSV; go_simp⟩) (by assumption) ?_
        (try simp only [Act.put, List.setIfInBounds_toArray, List.set_cons_zero, List.set_cons_succ])
        refine take_put (i := 7) (v := .int .i64 q.level) 32 rfl rfl (by kernel_rfl) (by kernel_rfl) (by kernel_rfl) (fun _ _ _ h => h) (Or.inl ⟨by rfl, by intro V hSV; obtain ⟨s0, s1, s2, s3⟩ := hSV; go_simp⟩) (by assumption) ?_
        (try simp only [Act.put, List.setIfInBounds_toArray, List.set_cons_zero, List.set_cons_succ])
        refine take_put (i := 8) (v := .pointer (some ⟨w.heap.size, 2, none⟩)) 33 rfl rfl (by kernel_rfl) (by kernel_rfl) (by kernel_rfl) (fun _ _ _ h => h) (Or.inl ⟨by rfl, by intro V hSV; go_simp⟩) (by assumption) ?_
        (try simp only [Act.put, List.setIfInBounds_toArray, List.set_cons_zero, List.set_cons_succ])
        refine take_put (i := 9) (v := .slice (some ⟨g, o, none⟩) n0 pc) 34 rfl rfl (by kernel_rfl) (by kernel_rfl) (by kernel_rfl) (fun _ _ _ h => h) (Or.inl ⟨by rfl, by intro V hSV; obtain ⟨s0, s1, s2, s3⟩ := hSV; go_simp⟩) (by assumption) ?_
        (try simp only [Act.put, List.setIfInBounds_toArray, List.set_cons_zero, List.set_cons_succ])
        refine take_put (i := 10) (v := .int .i64 j) 35 rfl rfl (by kernel_rfl) (by kernel_rfl) (by kernel_rfl) (fun _ _ _ h => h) (Or.inl ⟨by rfl, by intro V hSV; go_simp⟩) (by assumption) ?_
        (try simp only [Act.put, List.setIfInBounds_toArray, List.set_cons_zero, List.set_cons_succ])
        refine take_put (i := 11) (v := .pointer (some ⟨g, o + j * 3, none⟩)) 36 rfl rfl (by kernel_rfl) (by kernel_rfl) (by kernel_rfl) (fun _ _ _ h => h) (Or.inl ⟨by rfl, by intro V hSV; go_simp⟩) (by assumption) ?_
        (try simp only [Act.put, List.setIfInBounds_toArray, List.set_cons_zero, List.set_cons_succ])
        refine take_put (i := 12) (v := .pointer (some ⟨g, o + j * 3 + 1, none⟩)) 37 rfl rfl (by kernel_rfl) (by kernel_rfl) (by kernel_rfl) (fun _ _ _ h => h) (Or.inl ⟨by rfl, by intro V hSV; go_simp⟩) (by assumption) ?_
        (try simp only [Act.put, List.setIfInBounds_toArray, List.set_cons_zero, List.set_cons_succ])
        refine take_put (i := 13) (v := .slice q.ta q.tn q.tc) 38 rfl rfl (by kernel_rfl) (by kernel_rfl) (by kernel_rfl) (fun _ _ _ h => h) (Or.inl ⟨by rfl, by intro V hSV; obtain ⟨s0, s1, s2, s3⟩ := hSV; go_simp⟩) (by assumption) ?_
        (try simp only [Act.put, List.setIfInBounds_toArray, List.set_cons_zero, List.set_cons_succ])
        refine take_put (i := 15) (v := .pointer (some ⟨w.heap.size, 2, none⟩)) 40 rfl rfl (by kernel_rfl) (by kernel_rfl) (by kernel_rfl) (fun _ _ _ h => h) (Or.inl ⟨by rfl, by intro V hSV; go_simp⟩) (by assumption) ?_
        (try simp only [Act.put, List.setIfInBounds_toArray, List.set_cons_zero, List.set_cons_succ])
        refine take_put (i := 16) (v := .slice (some ⟨g, o, none⟩) n0 pc) 41 rfl rfl (by kernel_rfl) (by kernel_rfl) (by kernel_rfl) (fun _ _ _ h => h) (Or.inl ⟨by rfl, by intro V hSV; obtain ⟨s0, s1, s2, s3⟩ := hSV; go_simp⟩) (by assumption) ?_
        (try simp only [Act.put, List.setIfInBounds_toArray, List.set_cons_zero, List.set_cons_succ])
        refine take_put (i := 17) (v := .int .i64 j) 42 rfl rfl (by kernel_rfl) (by kernel_rfl) (by kernel_rfl) (fun _ _ _ h => h) (Or.inl ⟨by rfl, by intro V hSV; go_simp⟩) (by assumption) ?_
        (try simp only [Act.put, List.setIfInBounds_toArray, List.set_cons_zero, List.set_cons_succ])
        refine take_put (i := 18) (v := .pointer (some ⟨g, o + j * 3, none⟩)) 43 rfl rfl (by kernel_rfl) (by kernel_rfl) (by kernel_rfl) (fun _ _ _ h => h) (Or.inl ⟨by rfl, by intro V hSV; go_simp⟩) (by assumption) ?_
        (try simp only [Act.put, List.setIfInBounds_toArray, List.set_cons_zero, List.set_cons_succ])
        refine take_put (i := 19) (v := .pointer (some ⟨g, o + j * 3 + 2, none⟩)) 44 rfl rfl (by kernel_rfl) (by kernel_rfl) (by kernel_rfl) (fun _ _ _ h => h) (Or.inl ⟨by rfl, by intro V hSV; go_simp⟩) (by assumption) ?_
        (try simp only [Act.put, List.setIfInBounds_toArray, List.set_cons_zero, List.set_cons_succ])
        refine take_put (i := 20) (v := .slice q.ca q.cn q.cc) 45 rfl rfl (by kernel_rfl) (by kernel_rfl) (by kernel_rfl) (fun _ _ _ h => h) (Or.inl ⟨by rfl, by intro V hSV; obtain ⟨s0, s1, s2, s3⟩ := hSV; go_simp⟩) (by assumption) ?_
        (try simp only [Act.put, List.setIfInBounds_toArray, List.set_cons_zero, List.set_cons_succ])
        refine wpAnyH_ready (rs := [1, 14]) (by kernel_rfl) (by simp) ?_
        refine AllReadyH.cons rfl (fun K hK => ?_) (AllReadyH.cons rfl (fun K hK => ?_) AllReadyH.nil)
        · have k2 : W.cell? ⟨B, 2, none⟩ = some (.slice ap j cp) := blk_cell HB.out 2
          go_simp
          clear hHeld
          refine hK.out _ _ (SK5.out _ HG.out) (fun hHeld => ?_)
          clear hK K k2
          refine wpAnyH_ready (rs := [14]) (by kernel_rfl) (by simp) ?_
          refine AllReadyH.cons rfl (fun K hK => ?_) AllReadyH.nil
          · go_simp
            refine (copyT_any _ p.tasks W (HPI.out W HG.out).2.1 hbt).mono ?_; rintro e W2 ⟨a14, c14, rfl, ho, hgx⟩
            have NHG := hide (grownBy_trans HG.out hgx)
            have NHB := hide (hp_keep HB.out hgx)
            have NHP := hide (HP.out.grown hgx)
            have NHW := hide (own_kept HW.out hgx)
            have NHO := hide (own_kept HO.out hgx)
            have NHT := hide (own_mono ho HG.out.size)
            clear hHeld
            refine hK.out _ _ (SK5.out _ NHG.out) (fun hHeld => ?_)
            clear hK K ho hgx HG HB HP HW HO
            clear W
            rename World => W
            have HG := NHG
            have HB := NHB
            have HP := NHP
            have HW := NHW
            have HO := NHO
            have HT := NHT
            clear NHG NHB NHP NHW NHO NHT
            refine wpAnyH_ready (rs := [21]) (by kernel_rfl) (by simp) ?_
            refine AllReadyH.cons rfl (fun K hK => ?_) AllReadyH.nil
            · go_simp
              refine (copyI_any _ p.code W (HPI.out W HG.out).2.2 hbc).mono ?_; rintro e W2 ⟨a21, c21, rfl, ho, hgx⟩
              have NHG := hide (grownBy_trans HG.out hgx)
              have NHB := hide (hp_keep HB.out hgx)
              have NHP := hide (HP.out.grown hgx)
              have NHW := hide (own_kept HW.out hgx)
              have NHO := hide (own_kept HO.out hgx)
              have NHT := hide (own_kept HT.out hgx)
              have NHI := hide (own_mono ho HG.out.size)
              clear hHeld
              refine hK.out _ _ (SK5.out _ NHG.out) (fun hHeld => ?_)
              clear hK K ho hgx HG HB HP HW HO HT
              clear W
              rename World => W
              have HG := NHG
              have HB := NHB
              have HP := NHP
              have HW := NHW
              have HO := NHO
              have HT := NHT
              have HI := NHI
              clear NHG NHB NHP NHW NHO NHT NHI
              refine take_put (i := 22) (v := .agg #[.int .i64 q.level, .slice a14 p.tasks.length c14, .slice a21 p.code.length c21]) 47 rfl rfl (by kernel_rfl) (by kernel_rfl) (by kernel_rfl) (fun _ _ _ h => h) (Or.inl ⟨by rfl, by intro V hSV; go_simp⟩) (by assumption) ?_
              (try dsimp only [Act.put])
              refine wpAnyH_ready (rs := [23]) (by kernel_rfl) (by simp) ?_
              refine AllReadyH.cons rfl (fun K hK => ?_) AllReadyH.nil
              · go_simp
                have hgx := World.grownBy_alloc W (.cells #[.int .i64 q.level, .slice a14 p.tasks.length c14, .slice a21 p.code.length c21] 50) none
                have NHG := hide (grownBy_trans HG.out hgx)
                have NHB := hide (hp_keep HB.out hgx)
                have NHP := hide (HP.out.grown hgx)
                have NHW := hide (own_kept HW.out hgx)
                have NHO := hide (own_kept HO.out hgx)
                have NHT := hide (own_kept HT.out hgx)
                have NHI := hide (own_kept HI.out hgx)
                have NHX := hide (heap_alloc_new W (.cells #[.int .i64 q.level, .slice a14 p.tasks.length c14, .slice a21 p.code.length c21] 50))
                clear hHeld
                refine hK.out _ _ (SK5.out _ NHG.out) (fun hHeld => ?_)
                clear hK K hgx HG HB HP HW HO HT HI
                generalize W.alloc (.cells #[.int .i64 q.level, .slice a14 p.tasks.length c14, .slice a21 p.code.length c21] 50) = W2 at *
                generalize W.heap.size = g23 at *
                clear W
                rename World => W
                have HG := NHG
                have HB := NHB
                have HP := NHP
                have HW := NHW
                have HO := NHO
                have HT := NHT
                have HI := NHI
                have HX := NHX
                clear NHG NHB NHP NHW NHO NHT NHI NHX
                obtain ⟨qs2, y1, y2, y3⟩ := HP.out
                have Y1 := hide y1
                have hyl : qs2.length = j := by rw [y1, List.length_take]; have := HLEN.out; have := HN0.out; omega
                have Y2 := hide (show W.ownsRow wb.heap.size 50 3 (.slice ap j cp) j (shP.cells qs2) by rw [hyl] at y2; exact y2)
                have Y3 := hide y3
                have HYL := hide hyl
                clear y1 y2 y3 hyl HP
                refine wpAnyH_ready (rs := [24]) (by kernel_rfl) (by simp) ?_
                refine AllReadyH.cons rfl (fun K hK => ?_) AllReadyH.nil
                refine step_app (S := shP) _ rfl _ _ 22 rfl 50 _ 56 Tryd.underlying22 infoP rfl wb.heap.size (.slice ap j cp) j qs2 rfl Y2.out ⟨g23, 0, none⟩ 1 1 [⟨q.level, a14, p.tasks.length, c14, a21, p.code.length, c21⟩] rfl rfl (one_at shP _ HX.out) ?c1 ?c2 HG.out.size ?_
                case c1 => omega
                case c2 => omega
                intro a24 c24 W2 ho hgw
                have NHG := hide (grown_app HG.out Y2.out (Nat.le_refl _) hgw)
                have NHP := hide (POwn.snoc Y1.out Y2.out Y3.out (show PartOwn wb.heap.size W ⟨q.level, a14, p.tasks.length, c14, a21, p.code.length, c21⟩ p from ⟨HQL.out, HT.out, HI.out⟩) ho HYL.out hgw)
                have NHB := hide (box_app HB.out Y2.out hgw (by decide))
                have NHW := hide (own_app HW.out Y2.out hgw (by decide))
                have NHO := hide (own_app HO.out Y2.out hgw (by decide))
                clear hHeld
                refine hK.out _ _ (SK5.out _ NHG.out) (fun hHeld => ?_)
                clear hK K ho hgw Y1 Y2 Y3 HYL HG HB HW HO HT HI HX
                clear W
                (try dsimp only [Act.put])
                rename World => W
                have HG := NHG
                have HP := NHP
                have HB := NHB
                have HW := NHW
                have HO := NHO
                clear NHG NHP NHB NHW NHO
                refine take_put (i := 25) (v := .pointer (some ⟨B, 2, none⟩)) 50 rfl rfl (by kernel_rfl) (by kernel_rfl) (by kernel_rfl) (fun _ _ _ h => h) (Or.inl ⟨by rfl, by intro V hSV; go_simp⟩) (by assumption) ?_
                (try dsimp only [Act.put])
                have k2 : W.cell? ⟨B, 2, none⟩ = some (.slice ap j cp) := blk_cell HB.out 2
                have kf := blk_free HB.out
                have T := hide (type_box HB.out)
                have hgs := grownBy_set W B 2 (.slice a24 (j + 1) c24)
                have NHG := hide (grown_spoil HG.out HBn.out hgs)
                have NHP := hide (HP.out.type hgs T.out (by decide) (by decide) (by decide))
                have NHW := hide (own_type HW.out hgs T.out (by decide))
                have NHO := hide (own_type HO.out hgs T.out (by decide))
                have NHB := hide (blk_set2 HB.out (j := 2) (u := .slice a24 (j + 1) c24) (cs' := #[.int .i64 fr, .int .i64 qt, .slice a24 (j + 1) c24, .slice a7 ws.length c7, .slice a11 os.length c11]) rfl)
                clear hgs
                refine wpAnyH_ready (rs := [26]) (by kernel_rfl) (by simp) ?_
                refine AllReadyH.cons rfl (fun K hK => ?_) AllReadyH.nil
                go_simp
                refine hK.out _ _ (SK5.out _ NHG.out) (fun hHeld2 => ?_)
                clear hK K
                refine wpAnyH_done (by kernel_rfl) ?_ _
                refine NoPanic.normal ?_
                go_wp2
                go_roundw
                case rel => exact ⟨j + 1, a24, c24, by omega, by go_num, NHB, by rw [HTK.out]; exact NHP, NHW, NHO, NHG⟩
                case measure => simp [intOf]; omega
        · go_simp
          refine (copyT_any _ p.tasks W (HPI.out W HG.out).2.1 hbt).mono ?_; rintro e W2 ⟨a14, c14, rfl, ho, hgx⟩
          have NHG := hide (grownBy_trans HG.out hgx)
          have NHB := hide (hp_keep HB.out hgx)
          have NHP := hide (HP.out.grown hgx)
          have NHW := hide (own_kept HW.out hgx)
          have NHO := hide (own_kept HO.out hgx)
          have NHT := hide (own_mono ho HG.out.size)
          clear hHeld
          refine hK.out _ _ (SK5.out _ NHG.out) (fun hHeld => ?_)
          clear hK K ho hgx HG HB HP HW HO
          clear W
          rename World => W
          have HG := NHG
          have HB := NHB
          have HP := NHP
          have HW := NHW
          have HO := NHO
          have HT := NHT
          clear NHG NHB NHP NHW NHO NHT
          refine wpAnyH_ready (rs := [1, 21]) (by kernel_rfl) (by simp) ?_
          refine AllReadyH.cons rfl (fun K hK => ?_) (AllReadyH.cons rfl (fun K hK => ?_) AllReadyH.nil)
          · have k2 : W.cell? ⟨B, 2, none⟩ = some (.slice ap j cp) := blk_cell HB.out 2
            go_simp
            clear hHeld
            refine hK.out _ _ (SK5.out _ HG.out) (fun hHeld => ?_)
            clear hK K k2
            refine wpAnyH_ready (rs := [21]) (by kernel_rfl) (by simp) ?_
            refine AllReadyH.cons rfl (fun K hK => ?_) AllReadyH.nil
            · go_simp
              refine (copyI_any _ p.code W (HPI.out W HG.out).2.2 hbc).mono ?_; rintro e W2 ⟨a21, c21, rfl, ho, hgx⟩
              have NHG := hide (grownBy_trans HG.out hgx)
              have NHB := hide (hp_keep HB.out hgx)
              have NHP := hide (HP.out.grown hgx)
              have NHW := hide (own_kept HW.out hgx)
              have NHO := hide (own_kept HO.out hgx)
              have NHT := hide (own_kept HT.out hgx)
              have NHI := hide (own_mono ho HG.out.size)
              clear hHeld
              refine hK.out _ _ (SK5.out _ NHG.out) (fun hHeld => ?_)
              clear hK K ho hgx HG HB HP HW HO HT
              clear W
              rename World => W
              have HG := NHG
              have HB := NHB
              have HP := NHP
              have HW := NHW
              have HO := NHO
              have HT := NHT
              have HI := NHI
              clear NHG NHB NHP NHW NHO NHT NHI
              refine take_put (i := 22) (v := .agg #[.int .i64 q.level, .slice a14 p.tasks.length c14, .slice a21 p.code.length c21]) 47 rfl rfl (by kernel_rfl) (by kernel_rfl) (by kernel_rfl) (fun _ _ _ h => h) (Or.inl ⟨by rfl, by intro V hSV; go_simp⟩) (by assumption) ?_
              (try dsimp only [Act.put])
              refine wpAnyH_ready (rs := [23]) (by kernel_rfl) (by simp) ?_
              refine AllReadyH.cons rfl (fun K hK => ?_) AllReadyH.nil
              · go_simp
                have hgx := World.grownBy_alloc W (.cells #[.int .i64 q.level, .slice a14 p.tasks.length c14, .slice a21 p.code.length c21] 50) none
                have NHG := hide (grownBy_trans HG.out hgx)
                have NHB := hide (hp_keep HB.out hgx)
                have NHP := hide (HP.out.grown hgx)
                have NHW := hide (own_kept HW.out hgx)
                have NHO := hide (own_kept HO.out hgx)
                have NHT := hide (own_kept HT.out hgx)
                have NHI := hide (own_kept HI.out hgx)
                have NHX := hide (heap_alloc_new W (.cells #[.int .i64 q.level, .slice a14 p.tasks.length c14, .slice a21 p.code.length c21] 50))
                clear hHeld
                refine hK.out _ _ (SK5.out _ NHG.out) (fun hHeld => ?_)
                clear hK K hgx HG HB HP HW HO HT HI
                generalize W.alloc (.cells #[.int .i64 q.level, .slice a14 p.tasks.length c14, .slice a21 p.code.length c21] 50) = W2 at *
                generalize W.heap.size = g23 at *
                clear W
                rename World => W
                have HG := NHG
                have HB := NHB
                have HP := NHP
                have HW := NHW
                have HO := NHO
                have HT := NHT
                have HI := NHI
                have HX := NHX
                clear NHG NHB NHP NHW NHO NHT NHI NHX
                obtain ⟨qs2, y1, y2, y3⟩ := HP.out
                have Y1 := hide y1
                have hyl : qs2.length = j := by rw [y1, List.length_take]; have := HLEN.out; have := HN0.out; omega
                have Y2 := hide (show W.ownsRow wb.heap.size 50 3 (.slice ap j cp) j (shP.cells qs2) by rw [hyl] at y2; exact y2)
                have Y3 := hide y3
                have HYL := hide hyl
                clear y1 y2 y3 hyl HP
                refine wpAnyH_ready (rs := [24]) (by kernel_rfl) (by simp) ?_
                refine AllReadyH.cons rfl (fun K hK => ?_) AllReadyH.nil
                refine step_app (S := shP) _ rfl _ _ 22 rfl 50 _ 56 Tryd.underlying22 infoP rfl wb.heap.size (.slice ap j cp) j qs2 rfl Y2.out ⟨g23, 0, none⟩ 1 1 [⟨q.level, a14, p.tasks.length, c14, a21, p.code.length, c21⟩] rfl rfl (one_at shP _ HX.out) ?c1 ?c2 HG.out.size ?_
                case c1 => omega
                case c2 => omega
                intro a24 c24 W2 ho hgw
                have NHG := hide (grown_app HG.out Y2.out (Nat.le_refl _) hgw)
                have NHP := hide (POwn.snoc Y1.out Y2.out Y3.out (show PartOwn wb.heap.size W ⟨q.level, a14, p.tasks.length, c14, a21, p.code.length, c21⟩ p from ⟨HQL.out, HT.out, HI.out⟩) ho HYL.out hgw)
                have NHB := hide (box_app HB.out Y2.out hgw (by decide))
                have NHW := hide (own_app HW.out Y2.out hgw (by decide))
                have NHO := hide (own_app HO.out Y2.out hgw (by decide))
                clear hHeld
                refine hK.out _ _ (SK5.out _ NHG.out) (fun hHeld => ?_)
                clear hK K ho hgw Y1 Y2 Y3 HYL HG HB HW HO HT HI HX
                clear W
                (try dsimp only [Act.put])
                rename World => W
                have HG := NHG
                have HP := NHP
                have HB := NHB
                have HW := NHW
                have HO := NHO
                clear NHG NHP NHB NHW NHO
                refine take_put (i := 25) (v := .pointer (some ⟨B, 2, none⟩)) 50 rfl rfl (by kernel_rfl) (by kernel_rfl) (by kernel_rfl) (fun _ _ _ h => h) (Or.inl ⟨by rfl, by intro V hSV; go_simp⟩) (by assumption) ?_
                (try dsimp only [Act.put])
                have k2 : W.cell? ⟨B, 2, none⟩ = some (.slice ap j cp) := blk_cell HB.out 2
                have kf := blk_free HB.out
                have T := hide (type_box HB.out)
                have hgs := grownBy_set W B 2 (.slice a24 (j + 1) c24)
                have NHG := hide (grown_spoil HG.out HBn.out hgs)
                have NHP := hide (HP.out.type hgs T.out (by decide) (by decide) (by decide))
                have NHW := hide (own_type HW.out hgs T.out (by decide))
                have NHO := hide (own_type HO.out hgs T.out (by decide))
                have NHB := hide (blk_set2 HB.out (j := 2) (u := .slice a24 (j + 1) c24) (cs' := #[.int .i64 fr, .int .i64 qt, .slice a24 (j + 1) c24, .slice a7 ws.length c7, .slice a11 os.length c11]) rfl)
                clear hgs
                refine wpAnyH_ready (rs := [26]) (by kernel_rfl) (by simp) ?_
                refine AllReadyH.cons rfl (fun K hK => ?_) AllReadyH.nil
                go_simp
                refine hK.out _ _ (SK5.out _ NHG.out) (fun hHeld2 => ?_)
                clear hK K
                refine wpAnyH_done (by kernel_rfl) ?_ _
                refine NoPanic.normal ?_
                go_wp2
                go_roundw
                case rel => exact ⟨j + 1, a24, c24, by omega, by go_num, NHB, by rw [HTK.out]; exact NHP, NHW, NHO, NHG⟩
                case measure => simp [intOf]; omega
          · go_simp
            refine (copyI_any _ p.code W (HPI.out W HG.out).2.2 hbc).mono ?_; rintro e W2 ⟨a21, c21, rfl, ho, hgx⟩
            have NHG := hide (grownBy_trans HG.out hgx)
            have NHB := hide (hp_keep HB.out hgx)
            have NHP := hide (HP.out.grown hgx)
            have NHW := hide (own_kept HW.out hgx)
            have NHO := hide (own_kept HO.out hgx)
            have NHT := hide (own_kept HT.out hgx)
            have NHI := hide (own_mono ho HG.out.size)
            clear hHeld
            refine hK.out _ _ (SK5.out _ NHG.out) (fun hHeld => ?_)
            clear hK K ho hgx HG HB HP HW HO HT
            clear W
            rename World => W
            have HG := NHG
            have HB := NHB
            have HP := NHP
            have HW := NHW
            have HO := NHO
            have HT := NHT
            have HI := NHI
            clear NHG NHB NHP NHW NHO NHT NHI
            refine take_put (i := 22) (v := .agg #[.int .i64 q.level, .slice a14 p.tasks.length c14, .slice a21 p.code.length c21]) 47 rfl rfl (by kernel_rfl) (by kernel_rfl) (by kernel_rfl) (fun _ _ _ h => h) (Or.inl ⟨by rfl, by intro V hSV; go_simp⟩) (by assumption) ?_
            (try dsimp only [Act.put])
            refine wpAnyH_ready (rs := [1, 23]) (by kernel_rfl) (by simp) ?_
            refine AllReadyH.cons rfl (fun K hK => ?_) (AllReadyH.cons rfl (fun K hK => ?_) AllReadyH.nil)
            · have k2 : W.cell? ⟨B, 2, none⟩ = some (.slice ap j cp) := blk_cell HB.out 2
              go_simp
              clear hHeld
              refine hK.out _ _ (SK5.out _ HG.out) (fun hHeld => ?_)
              clear hK K k2
              refine wpAnyH_ready (rs := [23]) (by kernel_rfl) (by simp) ?_
              refine AllReadyH.cons rfl (fun K hK => ?_) AllReadyH.nil
              · go_simp
                have hgx := World.grownBy_alloc W (.cells #[.int .i64 q.level, .slice a14 p.tasks.length c14, .slice a21 p.code.length c21] 50) none
                have NHG := hide (grownBy_trans HG.out hgx)
                have NHB := hide (hp_keep HB.out hgx)
                have NHP := hide (HP.out.grown hgx)
                have NHW := hide (own_kept HW.out hgx)
                have NHO := hide (own_kept HO.out hgx)
                have NHT := hide (own_kept HT.out hgx)
                have NHI := hide (own_kept HI.out hgx)
                have NHX := hide (heap_alloc_new W (.cells #[.int .i64 q.level, .slice a14 p.tasks.length c14, .slice a21 p.code.length c21] 50))
                clear hHeld
                refine hK.out _ _ (SK5.out _ NHG.out) (fun hHeld => ?_)
                clear hK K hgx HG HB HP HW HO HT HI
                generalize W.alloc (.cells #[.int .i64 q.level, .slice a14 p.tasks.length c14, .slice a21 p.code.length c21] 50) = W2 at *
                generalize W.heap.size = g23 at *
                clear W
                rename World => W
                have HG := NHG
                have HB := NHB
                have HP := NHP
                have HW := NHW
                have HO := NHO
                have HT := NHT
                have HI := NHI
                have HX := NHX
                clear NHG NHB NHP NHW NHO NHT NHI NHX
                obtain ⟨qs2, y1, y2, y3⟩ := HP.out
                have Y1 := hide y1
                have hyl : qs2.length = j := by rw [y1, List.length_take]; have := HLEN.out; have := HN0.out; omega
                have Y2 := hide (show W.ownsRow wb.heap.size 50 3 (.slice ap j cp) j (shP.cells qs2) by rw [hyl] at y2; exact y2)
                have Y3 := hide y3
                have HYL := hide hyl
                clear y1 y2 y3 hyl HP
                refine wpAnyH_ready (rs := [24]) (by kernel_rfl) (by simp) ?_
                refine AllReadyH.cons rfl (fun K hK => ?_) AllReadyH.nil
                refine step_app (S := shP) _ rfl _ _ 22 rfl 50 _ 56 Tryd.underlying22 infoP rfl wb.heap.size (.slice ap j cp) j qs2 rfl Y2.out ⟨g23, 0, none⟩ 1 1 [⟨q.level, a14, p.tasks.length, c14, a21, p.code.length, c21⟩] rfl rfl (one_at shP _ HX.out) ?c1 ?c2 HG.out.size ?_
                case c1 => omega
                case c2 => omega
                intro a24 c24 W2 ho hgw
                have NHG := hide (grown_app HG.out Y2.out (Nat.le_refl _) hgw)
                have NHP := hide (POwn.snoc Y1.out Y2.out Y3.out (show PartOwn wb.heap.size W ⟨q.level, a14, p.tasks.length, c14, a21, p.code.length, c21⟩ p from ⟨HQL.out, HT.out, HI.out⟩) ho HYL.out hgw)
                have NHB := hide (box_app HB.out Y2.out hgw (by decide))
                have NHW := hide (own_app HW.out Y2.out hgw (by decide))
                have NHO := hide (own_app HO.out Y2.out hgw (by decide))
                clear hHeld
                refine hK.out _ _ (SK5.out _ NHG.out) (fun hHeld => ?_)
                clear hK K ho hgw Y1 Y2 Y3 HYL HG HB HW HO HT HI HX
                clear W
                (try dsimp only [Act.put])
                rename World => W
                have HG := NHG
                have HP := NHP
                have HB := NHB
                have HW := NHW
                have HO := NHO
                clear NHG NHP NHB NHW NHO
                refine take_put (i := 25) (v := .pointer (some ⟨B, 2, none⟩)) 50 rfl rfl (by kernel_rfl) (by kernel_rfl) (by kernel_rfl) (fun _ _ _ h => h) (Or.inl ⟨by rfl, by intro V hSV; go_simp⟩) (by assumption) ?_
                (try dsimp only [Act.put])
                have k2 : W.cell? ⟨B, 2, none⟩ = some (.slice ap j cp) := blk_cell HB.out 2
                have kf := blk_free HB.out
                have T := hide (type_box HB.out)
                have hgs := grownBy_set W B 2 (.slice a24 (j + 1) c24)
                have NHG := hide (grown_spoil HG.out HBn.out hgs)
                have NHP := hide (HP.out.type hgs T.out (by decide) (by decide) (by decide))
                have NHW := hide (own_type HW.out hgs T.out (by decide))
                have NHO := hide (own_type HO.out hgs T.out (by decide))
                have NHB := hide (blk_set2 HB.out (j := 2) (u := .slice a24 (j + 1) c24) (cs' := #[.int .i64 fr, .int .i64 qt, .slice a24 (j + 1) c24, .slice a7 ws.length c7, .slice a11 os.length c11]) rfl)
                clear hgs
                refine wpAnyH_ready (rs := [26]) (by kernel_rfl) (by simp) ?_
                refine AllReadyH.cons rfl (fun K hK => ?_) AllReadyH.nil
                go_simp
                refine hK.out _ _ (SK5.out _ NHG.out) (fun hHeld2 => ?_)
                clear hK K
                refine wpAnyH_done (by kernel_rfl) ?_ _
                refine NoPanic.normal ?_
                go_wp2
                go_roundw
                case rel => exact ⟨j + 1, a24, c24, by omega, by go_num, NHB, by rw [HTK.out]; exact NHP, NHW, NHO, NHG⟩
                case measure => simp [intOf]; omega
            · go_simp
              have hgx := World.grownBy_alloc W (.cells #[.int .i64 q.level, .slice a14 p.tasks.length c14, .slice a21 p.code.length c21] 50) none
              have NHG := hide (grownBy_trans HG.out hgx)
              have NHB := hide (hp_keep HB.out hgx)
              have NHP := hide (HP.out.grown hgx)
              have NHW := hide (own_kept HW.out hgx)
              have NHO := hide (own_kept HO.out hgx)
              have NHT := hide (own_kept HT.out hgx)
              have NHI := hide (own_kept HI.out hgx)
              have NHX := hide (heap_alloc_new W (.cells #[.int .i64 q.level, .slice a14 p.tasks.length c14, .slice a21 p.code.length c21] 50))
              clear hHeld
              refine hK.out _ _ (SK5.out _ NHG.out) (fun hHeld => ?_)
              clear hK K hgx HG HB HP HW HO HT HI
              generalize W.alloc (.cells #[.int .i64 q.level, .slice a14 p.tasks.length c14, .slice a21 p.code.length c21] 50) = W2 at *
              generalize W.heap.size = g23 at *
              clear W
              rename World => W
              have HG := NHG
              have HB := NHB
              have HP := NHP
              have HW := NHW
              have HO := NHO
              have HT := NHT
              have HI := NHI
              have HX := NHX
              clear NHG NHB NHP NHW NHO NHT NHI NHX
              refine wpAnyH_ready (rs := [1]) (by kernel_rfl) (by simp) ?_
              refine AllReadyH.cons rfl (fun K hK => ?_) AllReadyH.nil
              · have k2 : W.cell? ⟨B, 2, none⟩ = some (.slice ap j cp) := blk_cell HB.out 2
                go_simp
                clear hHeld
                refine hK.out _ _ (SK5.out _ HG.out) (fun hHeld => ?_)
                clear hK K k2
                obtain ⟨qs2, y1, y2, y3⟩ := HP.out
                have Y1 := hide y1
                have hyl : qs2.length = j := by rw [y1, List.length_take]; have := HLEN.out; have := HN0.out; omega
                have Y2 := hide (show W.ownsRow wb.heap.size 50 3 (.slice ap j cp) j (shP.cells qs2) by rw [hyl] at y2; exact y2)
                have Y3 := hide y3
                have HYL := hide hyl
                clear y1 y2 y3 hyl HP
                refine wpAnyH_ready (rs := [24]) (by kernel_rfl) (by simp) ?_
                refine AllReadyH.cons rfl (fun K hK => ?_) AllReadyH.nil
                refine step_app (S := shP) _ rfl _ _ 22 rfl 50 _ 56 Tryd.underlying22 infoP rfl wb.heap.size (.slice ap j cp) j qs2 rfl Y2.out ⟨g23, 0, none⟩ 1 1 [⟨q.level, a14, p.tasks.length, c14, a21, p.code.length, c21⟩] rfl rfl (one_at shP _ HX.out) ?c1 ?c2 HG.out.size ?_
                case c1 => omega
                case c2 => omega
                intro a24 c24 W2 ho hgw
                have NHG := hide (grown_app HG.out Y2.out (Nat.le_refl _) hgw)
                have NHP := hide (POwn.snoc Y1.out Y2.out Y3.out (show PartOwn wb.heap.size W ⟨q.level, a14, p.tasks.length, c14, a21, p.code.length, c21⟩ p from ⟨HQL.out, HT.out, HI.out⟩) ho HYL.out hgw)
                have NHB := hide (box_app HB.out Y2.out hgw (by decide))
                have NHW := hide (own_app HW.out Y2.out hgw (by decide))
                have NHO := hide (own_app HO.out Y2.out hgw (by decide))
                clear hHeld
                refine hK.out _ _ (SK5.out _ NHG.out) (fun hHeld => ?_)
                clear hK K ho hgw Y1 Y2 Y3 HYL HG HB HW HO HT HI HX
                clear W
                (try dsimp only [Act.put])
                rename World => W
                have HG := NHG
                have HP := NHP
                have HB := NHB
                have HW := NHW
                have HO := NHO
                clear NHG NHP NHB NHW NHO
                refine take_put (i := 25) (v := .pointer (some ⟨B, 2, none⟩)) 50 rfl rfl (by kernel_rfl) (by kernel_rfl) (by kernel_rfl) (fun _ _ _ h => h) (Or.inl ⟨by rfl, by intro V hSV; go_simp⟩) (by assumption) ?_
                (try dsimp only [Act.put])
                have k2 : W.cell? ⟨B, 2, none⟩ = some (.slice ap j cp) := blk_cell HB.out 2
                have kf := blk_free HB.out
                have T := hide (type_box HB.out)
                have hgs := grownBy_set W B 2 (.slice a24 (j + 1) c24)
                have NHG := hide (grown_spoil HG.out HBn.out hgs)
                have NHP := hide (HP.out.type hgs T.out (by decide) (by decide) (by decide))
                have NHW := hide (own_type HW.out hgs T.out (by decide))
                have NHO := hide (own_type HO.out hgs T.out (by decide))
                have NHB := hide (blk_set2 HB.out (j := 2) (u := .slice a24 (j + 1) c24) (cs' := #[.int .i64 fr, .int .i64 qt, .slice a24 (j + 1) c24, .slice a7 ws.length c7, .slice a11 os.length c11]) rfl)
                clear hgs
                refine wpAnyH_ready (rs := [26]) (by kernel_rfl) (by simp) ?_
                refine AllReadyH.cons rfl (fun K hK => ?_) AllReadyH.nil
                go_simp
                refine hK.out _ _ (SK5.out _ NHG.out) (fun hHeld2 => ?_)
                clear hK K
                refine wpAnyH_done (by kernel_rfl) ?_ _
                refine NoPanic.normal ?_
                go_wp2
                go_roundw
                case rel => exact ⟨j + 1, a24, c24, by omega, by go_num, NHB, by rw [HTK.out]; exact NHP, NHW, NHO, NHG⟩
                case measure => simp [intOf]; omega
      · have e : j = n0 := by omega
        subst e
        have HP2 := hide (show POwn wb.heap.size wr (.slice ap j cp) ps by have h := HP.out; rw [List.take_of_length_le (by have := HLEN.out; have := HN0.out; omega)] at h; exact h)
        have HBR := hide (hp_keep BR.out HG.out)
        have b0 : wr.cell? ⟨B, 0, none⟩ = some (.int .i64 fr) := blk_cell HB.out 0
        have b1 : wr.cell? ⟨B, 1, none⟩ = some (.int .i64 qt) := blk_cell HB.out 1
        have b2 : wr.cell? ⟨B, 2, none⟩ = some (.slice ap j cp) := blk_cell HB.out 2
        have b3 : wr.cell? ⟨B, 3, none⟩ = some (.slice a7 ws.length c7) := blk_cell HB.out 3
        have b4 : wr.cell? ⟨B, 4, none⟩ = some (.slice a11 os.length c11) := blk_cell HB.out 4
        have r0 : wr.cell? ⟨w.heap.size + 1, 0, none⟩ = some (.int .i64 0) := blk_cell HBR.out 0
        have r1 : wr.cell? ⟨w.heap.size + 1, 1, none⟩ = some (.int .i64 0) := blk_cell HBR.out 1
        have r2 : wr.cell? ⟨w.heap.size + 1, 2, none⟩ = some (.slice none 0 0) := blk_cell HBR.out 2
        have r3 : wr.cell? ⟨w.heap.size + 1, 3, none⟩ = some (.slice none 0 0) := blk_cell HBR.out 3
        have r4 : wr.cell? ⟨w.heap.size + 1, 4, none⟩ = some (.slice none 0 0) := blk_cell HBR.out 4
        have rf := blk_free HBR.out
        have T := hide (type_box HBR.out)
        go_wp2
        (try simp only [Exit.inBlock, Exit.then])
        refine bodyPost_ret (results_cell_row rfl _ _ (w.heap.size + 1) 26 #[.int .i64 fr, .int .i64 qt, .slice ap j cp, .slice a7 ws.length c7, .slice a11 os.length c11] (0, 0) _ rfl ?hg Tryd.underlying26 rfl size26') rfl ?_
        case hg => exact set5_box HBR.out
        refine ⟨_, rfl, HRET.out _ _ _ _ _ ?_ ?_ ?_, ?_⟩
        · exact (HP2.out.type (set5_by _ _ _ _ _ _ _) T.out (by decide) (by decide) (by decide)).mono (by have := HSZ.out; omega)
        · exact own_mono (set5_own HW.out T.out (by decide)) (by have := HSZ.out; omega)
        · exact own_mono (set5_own HO.out T.out (by decide)) (by have := HSZ.out; omega)
        · exact set5_grown (grownBy_trans HG0.out HG.out) (by omega) _ _ _ _ _
#print axioms copy_any
end Go.Proofs.YtgaegggiehhcpaaDoor.Cp
