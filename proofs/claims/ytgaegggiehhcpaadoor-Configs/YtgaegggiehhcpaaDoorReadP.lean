/- Contracts of the reader of a part and of readList over parts, proved over the translation. -/
import Derived.Test.YtgaegggiehhcpaaDoorReadL
namespace Go.Proofs.YtgaegggiehhcpaaDoor
open Go.RowKit
attribute [local go_sem] alloc_drewN setCell_drewN

theorem hmf2 (fn : Fn) (first cap : Array Value) (w : World) : (Instr.makeFunc fn first cap).run Tryd.prog w = .ok (.func fn first cap) w := rfl
/-- A part in new memory. -/
def PartOwn (base : Nat) (W : World) (q : PartM) (p : PartV) : Prop := q.level = p.level ∧ W.ownsRow base 52 6 q.tasks p.tasks.length (shT.cells p.tasks) ∧ W.ownsRow base 54 2 q.code p.code.length (shI.cells p.code)
theorem PartOwn.is {base : Nat} {W : World} {q : PartM} {p : PartV} (h : PartOwn base W q p) : PartIs base W q p := ⟨h.1, rowAt_own (S := shT) h.2.1, rowAt_own (S := shI) h.2.2⟩
theorem PartOwn.kept {base : Nat} {W W2 : World} {q : PartM} {p : PartV} {r : Option Nat} (h : PartOwn base W q p) (hg : W.grownBy W2 r) (h1 : q.tasks.ownBlock = none ∨ q.tasks.ownBlock ≠ r) (h2 : q.code.ownBlock = none ∨ q.code.ownBlock ≠ r) : PartOwn base W2 q p := ⟨h.1, h.2.1.kept hg h1, h.2.2.kept hg h2⟩
theorem PartOwn.off {base b : Nat} {W W2 : World} {q : PartM} {p : PartV} (h : PartOwn base W q p) (hg : W.grownBy W2 (some b)) (hb : b < base) : PartOwn base W2 q p := ⟨h.1, own_off h.2.1 hg hb, own_off h.2.2 hg hb⟩
theorem PartOwn.alloc {base : Nat} {W : World} {q : PartM} {p : PartV} (h : PartOwn base W q p) (o : Obj) : PartOwn base (W.alloc o) q p := ⟨h.1, h.2.1.alloc o, h.2.2.alloc o⟩
theorem PartOwn.mono {base base' : Nat} {W : World} {q : PartM} {p : PartV} (h : PartOwn base' W q p) (hle : base ≤ base') : PartOwn base W q p := ⟨h.1, own_mono h.2.1 hle, own_mono h.2.2 hle⟩
def partR (st : St) : PartV × St :=
  let a := numR 1 st
  let t := allR taskR a.2
  let c := allR insR t.2
  (⟨a.1, t.1, c.1⟩, c.2)
theorem size50 : (Tryd.prog.info? 50).map (·.size) = some 3 := by kernel_rfl

set_option maxRecDepth 100000 in
set_option maxHeartbeats 2000000 in
theorem read_P (b : Nat) (st : St) (w : World) (h : RAt w b st) :
    Calls Tryd.prog 65 #[.pointer (some ⟨b, 0, none⟩)] w fun e w' => ∃ q : PartM, e = .returned (.agg #[.int .i64 q.level, .slice q.ta q.tn q.tc, .slice q.ca q.cn q.cc]) ∧ PartOwn w.heap.size w' q (partR st).1 ∧ RAt w' b (partR st).2 ∧ w.grownBy w' (some b) := by
  have hmf := hmf2
  have CN := hide (fun W h => number_1 b st W h)
  have CT := hide (fun W h => readAll_T b (numR 1 st).2 W h)
  have CI := hide (fun W h => readAll_I b (allR taskR (numR 1 st).2).2 W h)
  unfold partR
  dsimp only
  generalize numR 1 st = r0 at *
  obtain ⟨l, st1⟩ := r0
  dsimp only at CN CT CI ⊢
  generalize allR taskR st1 = r1 at *
  obtain ⟨ts, st2⟩ := r1
  dsimp only at CT CI ⊢
  generalize allR insR st2 = r2 at *
  obtain ⟨cd, st3⟩ := r2
  dsimp only at CI ⊢
  have hbl := h.lt
  have hbn : w.heap.size ≠ b := by omega
  have HR0 := hide (h.grown (World.grownBy_alloc w (.cells #[.int .i64 0, .slice none 0 0, .slice none 0 0] 50) none))
  have G0 := hide (grown_alloc_some w (.cells #[.int .i64 0, .slice none 0 0, .slice none 0 0] 50) (some b))
  have B0 := hide (heap_alloc_new w (.cells #[.int .i64 0, .slice none 0 0, .slice none 0 0] 50))
  clear h
  go_enter Tryd.func65, Tryd.ntmps65
  go_wp2_with (first | fail)
  refine (CN.out _ HR0.out).mono ?_; rintro e w1 ⟨rfl, hr, hg⟩
  have HR1 := hide hr
  have G1 := hide (grownBy_trans G0.out hg)
  have B1 := hide ((hg.block w.heap.size (by simp) (by simp; omega)).trans B0.out)
  clear hr hg CN
  go_wp2_with (first | fail)
  refine (CT.out _ HR1.out).mono ?_; rintro e w2 ⟨v2, rfl, ho, hr, hg⟩
  have HR2 := hide hr
  have G2 := hide (grownBy_trans G1.out hg)
  have B2 := hide ((hg.block w.heap.size (box_lt B1.out) (by simp; omega)).trans B1.out)
  have HO2 := hide (own_mono ho (show w.heap.size + 1 ≤ w1.heap.size from box_lt B1.out))
  clear ho hr hg CT
  obtain ⟨ta, tc, rfl⟩ := own_form HO2.out
  go_wp2_with (first | fail)
  refine (CI.out _ HR2.out).mono ?_; rintro e w3 ⟨v3, rfl, ho, hr, hg⟩
  have HR3 := hide hr
  have G3 := hide (grownBy_trans G2.out hg)
  have B3 := hide ((hg.block w.heap.size (box_lt B2.out) (by simp; omega)).trans B2.out)
  have HO3 := hide (own_mono ho (show w.heap.size + 1 ≤ w2.heap.size from box_lt B2.out))
  have HT3 := hide (own_off HO2.out hg (by omega))
  clear ho hr hg CI
  obtain ⟨ca, cc, rfl⟩ := own_form HO3.out
  have k0 : w3.cell? ⟨w.heap.size, 0, none⟩ = some (.int .i64 0) := blk_cell B3.out 0
  have k1 : w3.cell? ⟨w.heap.size, 1, none⟩ = some (.slice none 0 0) := blk_cell B3.out 1
  have k2 : w3.cell? ⟨w.heap.size, 2, none⟩ = some (.slice none 0 0) := blk_cell B3.out 2
  have kf := blk_free B3.out
  generalize hn1 : ts.length = n1 at *
  generalize hn2 : cd.length = n2 at *
  have HN1 := hide hn1
  have HN2 := hide hn2
  clear hn1 hn2
  go_wp2
  (try simp only [Exit.inBlock, Exit.then])
  refine bodyPost_ret (results_cell_row rfl _ _ w.heap.size 50 #[.int .i64 l, .slice ta n1 tc, .slice ca n2 cc] (0, 0) _ rfl (by simp [World.setCell, Array.getElem?_modify, B3.out]) Tryd.underlying50 rfl size50) rfl ?_
  refine ⟨⟨l, ta, n1, tc, ca, n2, cc⟩, rfl, ⟨rfl, ?_, ?_⟩, ?_, ?_⟩
  · show World.ownsRow _ _ _ _ (.slice ta n1 tc) ts.length _
    rw [HN1.out]
    refine own_mono (base' := w.heap.size + 1) ?_ (by omega)
    repeat refine own_off ?_ (grownBy_set _ w.heap.size _ _) (by omega)
    exact HT3.out
  · show World.ownsRow _ _ _ _ (.slice ca n2 cc) cd.length _
    rw [HN2.out]
    refine own_mono (base' := w.heap.size + 1) ?_ (by omega)
    repeat refine own_off ?_ (grownBy_set _ w.heap.size _ _) (by omega)
    exact HO3.out
  · repeat refine RAt.other hbn ?_
    exact HR3.out
  · repeat refine grown_set_new (Nat.le_refl _) ?_
    exact G3.out

/-- A list of parts in new memory: its own row, and each part's two. -/
def PartsOwn (base : Nat) (W : World) (v : Value) (ps : List PartV) : Prop := ∃ qs : List PartM, qs.length = ps.length ∧ W.ownsRow base 50 3 v qs.length (shP.cells qs) ∧ ∀ (i : Nat) q p, qs[i]? = some q → ps[i]? = some p → PartOwn base W q p ∧ (q.tasks.ownBlock = none ∨ q.tasks.ownBlock ≠ v.ownBlock) ∧ (q.code.ownBlock = none ∨ q.code.ownBlock ≠ v.ownBlock)
theorem PartsOwn.at {base : Nat} {W : World} {v : Value} {ps : List PartV} (h : PartsOwn base W v ps) : PartsAt base W v ps := by
  obtain ⟨qs, h1, h2, h3⟩ := h
  exact ⟨qs, h1, rowAt_own (S := shP) h2, fun i q p hq hp => (h3 i q p hq hp).1.is⟩
theorem PartsOwn.off {base b : Nat} {W W2 : World} {v : Value} {ps : List PartV} (h : PartsOwn base W v ps) (hg : W.grownBy W2 (some b)) (hb : b < base) : PartsOwn base W2 v ps := by
  obtain ⟨qs, h1, h2, h3⟩ := h
  exact ⟨qs, h1, own_off h2 hg hb, fun i q p hq hp => ⟨(h3 i q p hq hp).1.off hg hb, (h3 i q p hq hp).2⟩⟩
theorem PartsOwn.mono {base base' : Nat} {W : World} {v : Value} {ps : List PartV} (h : PartsOwn base' W v ps) (hle : base ≤ base') : PartsOwn base W v ps := by
  obtain ⟨qs, h1, h2, h3⟩ := h
  exact ⟨qs, h1, own_mono h2 hle, fun i q p hq hp => ⟨(h3 i q p hq hp).1.mono hle, (h3 i q p hq hp).2⟩⟩
/-- One part more. -/
theorem PartsOwn.snoc {base : Nat} {W W2 W3 : World} {a : Option Addr} {n cap : Nat} {v' : Value} {ps : List PartV} {p : PartV} {q : PartM} {o : Obj} {b : Nat}
    {qs : List PartM} (h1 : qs.length = ps.length) (h2 : W.ownsRow base 50 3 (.slice a n cap) qs.length (shP.cells qs)) (h3 : ∀ (i : Nat) q p, qs[i]? = some q → ps[i]? = some p → PartOwn base W q p ∧ (q.tasks.ownBlock = none ∨ q.tasks.ownBlock ≠ (Value.slice a n cap).ownBlock) ∧ (q.code.ownBlock = none ∨ q.code.ownBlock ≠ (Value.slice a n cap).ownBlock)) (hn : ps.length = n) (hg : W.grownBy W2 (some b)) (hb : b < base) (hbase : base ≤ W.heap.size) (hp : PartOwn W.heap.size W2 q p)
    (hown : W3.ownsRow base 50 3 v' (n + 1) (shP.cells (qs ++ [q])))
    (hgrow : (W2.alloc o).grownBy W3 (Value.slice a n cap).ownBlock) (hv : v'.ownBlock = (Value.slice a n cap).ownBlock ∨ v'.ownBlock = some (W2.heap.size + 1)) : PartsOwn base W3 v' (ps ++ [p]) := by
  have hq0 := hown
  have hsz : (W2.alloc o).heap.size = W2.heap.size + 1 := by simp
  have hlen : (qs ++ [q]).length = n + 1 := by simp [h1, hn]
  -- no own block of a part that was there is the row's new one
  have key : ∀ (x : Value) (m k e : Nat) (cs : List Value), (W2.alloc o).ownsRow base e k x m cs → (x.ownBlock = none ∨ x.ownBlock ≠ (Value.slice a n cap).ownBlock) → (x.ownBlock = none ∨ x.ownBlock ≠ v'.ownBlock) := by
    intro x m k e cs hx hne
    rcases hne with hne | hne
    · exact .inl hne
    · rcases hv with hv | hv
      · right; rw [hv]; exact hne
      · cases hxo : x.ownBlock with
        | none => exact .inl rfl
        | some g =>
          right; rw [hv]
          intro e2
          have := (hx.lt g hxo).2
          simp only [Option.some.injEq] at e2
          omega
  refine ⟨qs ++ [q], by simp [h1], by rw [hlen]; exact hq0, fun i q' p' hq' hp' => ?_⟩
  rcases Nat.lt_or_ge i qs.length with hi | hi
  · rw [List.getElem?_append_left hi] at hq'
    rw [List.getElem?_append_left (by omega)] at hp'
    obtain ⟨g1, g2, g3⟩ := h3 i q' p' hq' hp'
    have g4 := (g1.off hg hb).alloc o
    exact ⟨g4.kept hgrow g2 g3, key _ _ _ _ _ g4.2.1 g2, key _ _ _ _ _ g4.2.2 g3⟩
  · have hi2 : i = qs.length := by
      rcases Nat.lt_or_ge i (qs ++ [q]).length with h | h
      · simp at h; omega
      · rw [List.getElem?_eq_none h] at hq'; cases hq'
    subst hi2
    rw [List.getElem?_append_right (Nat.le_refl _)] at hq'
    rw [List.getElem?_append_right (by omega)] at hp'
    simp [h1] at hq' hp'
    subst hq' hp'
    have g4 := (hp.mono hbase).alloc o
    -- the part's own blocks lie above the row's
    have key2 : ∀ (x : Value) (m k e : Nat) (cs : List Value), W2.ownsRow W.heap.size e k x m cs → (x.ownBlock = none ∨ x.ownBlock ≠ (Value.slice a n cap).ownBlock) := by
      intro x m k e cs hx
      cases hxo : x.ownBlock with
      | none => exact .inl rfl
      | some g =>
        right
        intro e2
        have l1 := (hx.lt g hxo).1
        have l2 := (h2.lt g e2.symm).2
        omega
    have t1 := key2 _ _ _ _ _ hp.2.1
    have t2 := key2 _ _ _ _ _ hp.2.2
    exact ⟨g4.kept hgrow t1 t2, key _ _ _ _ _ g4.2.1 t1, key _ _ _ _ _ g4.2.2 t2⟩

#print axioms PartsOwn.snoc
end Go.Proofs.YtgaegggiehhcpaaDoor
