/- The contract of package demand's tasksMay, which counts the Prios in a map, proved over the translation. -/
import Derived.Test.YtehnklpjkcofcaaDoorDmath
import Derived.Test.YtehnklpjkcofcaaDoorTaskMay
import Derived.Maps.OwnOps
import Derived.Maps.OwnSet
import Derived.Maps.Views
namespace Go.Proofs.YtehnklpjkcofcaaDoor
open Go.RowKit Go.Maps R6
attribute [local go_sem] alloc_drewN setCell_drewN

theorem law3 : Keyed Tryd.prog 3 := int_keyed Tryd.underlying3
theorem zero3 (w : World) : (zeroValue 3).run Tryd.prog w = .ok (.int .i64 0) w := by kernel_rfl

theorem anyPrio_succ {ts : List TaskV} {j : Nat} (hj : j < ts.length) (p : Int) : anyPrio (ts.take (j + 1)) p = (anyPrio (ts.take j) p || decide ((taskAt ts j).prio = p)) := by
  by_cases hp : (taskAt ts j).prio = p
  · rw [anyPrio_yes (i := j) (by omega) (by omega) hp, decide_eq_true hp, Bool.or_true]
  · rw [decide_eq_false hp, Bool.or_false]
    by_cases ha : ∀ i, i < j → (taskAt ts i).prio ≠ p
    · rw [anyPrio_no (by omega) ha, anyPrio_no (by omega)]
      intro i hi
      rcases (by omega : i < j ∨ i = j) with h | rfl
      · exact ha i h
      · exact hp
    · obtain ⟨i, h⟩ := Classical.not_forall.1 ha
      obtain ⟨hi, h2⟩ := Classical.not_imp.1 h
      rw [anyPrio_yes (i := i) (by omega) hi (Classical.not_not.1 h2), anyPrio_yes (i := i) (by omega) (by omega) (Classical.not_not.1 h2)]

/-- What the map says behind j tasks: at each Prio that was there 1, at each other one nothing. -/
def MapIs (D : DataW Unit) (ts : List TaskV) (j : Nat) : Prop := ∀ p, (Lit.int .i64 p).wf = true → D.atKey (.int .i64 p) (.lit (.int .i64 0)) = .lit (.int .i64 (if anyPrio (ts.take j) p = true then 1 else 0))
theorem mapIs_nil (ts : List TaskV) : MapIs (.map []) ts 0 := fun _ _ => rfl
theorem MapIs.put {D : DataW Unit} {ts : List TaskV} {j : Nat} (h : MapIs D ts j) (hD : IsMap D) (hj : j < ts.length) :
    MapIs (D.put (.int .i64 (taskAt ts j).prio) (.lit (.int .i64 1))) ts (j + 1) := by
  intro p hp
  rw [anyPrio_succ hj]
  by_cases e : (taskAt ts j).prio = p
  · subst e
    rw [atKey_put_same hD (by trivial), decide_eq_true rfl, Bool.or_true, if_pos rfl]
  · rw [atKey_put_other (fun e2 => e (by injection e2 with _ e3; exact e3.symm)), h p hp, decide_eq_false e, Bool.or_false]
theorem lit_one {c d : Int} {q : IntKind} (h : (DataW.lit (.int q c) : DataW Unit) = .lit (.int q d)) : c = d := by
  injection h with h
  injection h

/-- 'm[k]' where it is known what stands there. -/
theorem lookup_at {P : Program} (w : World) {ops : Array Oper} {rest : List Oper} {o : Oper} {a : Act} {Q : Exit → Act → World → Prop}
    (hg : o.guard = none) (m x : Operand) (t : TypeId) (hop : o.op = Op.lookup t m x false)
    (k e : TypeId) (q : IntKind) (K : Keyed P k) (ht : P.underlying t = some (.map k e)) (he : P.underlying e = some (.int q)) (hz : (zeroValue e).run P w = .ok (.int q 0) w) (b n : Nat) (D : DataW Unit)
    (hm : a.eval m = .map (some b)) (hown : w.ownsMap P k (plainElem P e) b n D) (key : Value) (kl : Lit) (hx : a.eval x = key) (hkey : keyOf P k key = some kl) (c0 : Int) (h0 : D.atKey kl (.lit (.int q 0)) = .lit (.int q c0))
    (hK : wpList P ops Q rest (a.put o.dst (.int q c0)) w) : wpList P ops Q (o :: rest) a w :=
  wpList_lookup_own_int w hg m x t hop k e q K ht he hz b n D hm hown key kl hx hkey (fun c hat _ => by have e := lit_one (hat.symm.trans h0); subst e; exact hK)
theorem look_run {P : Program} {w : World} {t k e : TypeId} {q : IntKind} {b n : Nat} {D : DataW Unit} (h : w.ownsMap P k (plainElem P e) b n D) (K : Keyed P k) (ht : P.underlying t = some (.map k e)) (he : P.underlying e = some (.int q)) (hz : (zeroValue e).run P w = .ok (.int q 0) w)
    {key : Value} {kl : Lit} (hkey : keyOf P k key = some kl) {c0 : Int} (h0 : D.atKey kl (.lit (.int q 0)) = .lit (.int q c0)) : (Instr.lookup t (.map (some b)) key false).run P w = .ok (.int q c0) w := by
  obtain ⟨c, hrun, hat, _⟩ := h.lookup_int K ht he hz hkey
  have e := lit_one (hat.symm.trans h0)
  subst e
  exact hrun

set_option maxRecDepth 100000 in
set_option maxHeartbeats 2000000 in
theorem dtasks_any {lo : Nat} (v : Value) (ts : List TaskV) (w : World) (hv : RowAt shT lo w v ts) (hf : Fits ts) :
    Calls Tryd.prog 66 #[v] w fun e w' => e = .returned (.bool (rtasksB ts)) ∧ w.grownBy w' none := by
  have HV := hide (fun W => hv.grown (W := W))
  have HF := hide hf
  obtain ⟨hl, ta, tc, rfl, -⟩ := hv
  clear hf
  unfold rtasksB
  generalize hN : ts.length = N at *
  have HN := hide hN
  clear hN
  have CT := hide (fun t W => task_any t W)
  have hmm := @run_makeMap Tryd.prog
  go_enter Tryd.func66, Tryd.ntmps66
  go_wp2
  go_loopw [9] (fun s W => ∃ (j : Nat), j ≤ N ∧ s = .int .i64 j ∧ Hid (w.grownBy W none) ∧ Hid (∀ i, i < j → rtaskB ts i = true) ∧ Hid (∃ D : DataW Unit, W.ownsMap Tryd.prog 3 (plainElem Tryd.prog 3) w.heap.size j D ∧ MapIs D ts j)) (fun s _ => N - (intOf s).toNat)
  case atStart => exact ⟨0, by omega, rfl, World.grownBy_alloc _ _ _, fun i hi => absurd hi (Nat.not_lt_zero _), _, World.ownsMap_made _ _ _ _, mapIs_nil _⟩
  case round =>
    obtain ⟨j, hj, rfl, HG, HALL, HMM⟩ := hrel
    by_cases hlt : j < N
    · obtain ⟨D, hown0, hmap⟩ := HMM.out
      have HOWN : Hid (∀ W, wr.grownBy W none → W.ownsMap Tryd.prog 3 (plainElem Tryd.prog 3) w.heap.size j D) := fun W hg => hown0.kept hg (by simp)
      have HLT := hide hown0.lt
      have HIM := hide hown0.isMap
      have HMAP := hide hmap
      clear hown0 hmap HMM
      obtain ⟨g, o, rfl⟩ := row_addr (HV.out wr HG.out) (by omega)
      have hq := taskAt_mem' (ws := ts) (i := j) (by rw [HN.out]; exact hlt)
      have c0 : wr.cell? ⟨g, o + j * 6, none⟩ = some (.int .i64 (taskAt ts j).kind) := row_cell (S := shT) (HV.out wr HG.out) hq (k := 0) rfl
      have c1 : wr.cell? ⟨g, o + j * 6 + 1, none⟩ = some (.int .i64 (taskAt ts j).period) := row_cell (S := shT) (HV.out wr HG.out) hq (k := 1) rfl
      have c2 : wr.cell? ⟨g, o + j * 6 + 2, none⟩ = some (.int .i64 (taskAt ts j).deadline) := row_cell (S := shT) (HV.out wr HG.out) hq (k := 2) rfl
      have c3 : wr.cell? ⟨g, o + j * 6 + 3, none⟩ = some (.int .i64 (taskAt ts j).clow) := row_cell (S := shT) (HV.out wr HG.out) hq (k := 3) rfl
      have c4 : wr.cell? ⟨g, o + j * 6 + 4, none⟩ = some (.int .i64 (taskAt ts j).chigh) := row_cell (S := shT) (HV.out wr HG.out) hq (k := 4) rfl
      have c5 : wr.cell? ⟨g, o + j * 6 + 5, none⟩ = some (.int .i64 (taskAt ts j).prio) := row_cell (S := shT) (HV.out wr HG.out) hq (k := 5) rfl
      have CX := hide (CT.out (taskAt ts j))
      have HW := hide (HF.out.prio (i := j) (by rw [HN.out]; exact hlt))
      have HK := hide (keyOf_int_mk Tryd.underlying3 HW.out)
      have HAT := hide (HMAP.out _ HW.out)
      have HPUT := hide (HMAP.out.put HIM.out (by rw [HN.out]; exact hlt))
      have HSAME := hide (fun c => atKey_put_same (D := D) (k := .int .i64 (taskAt ts j).prio) HIM.out (by trivial) (.lit (.int .i64 c)) (.lit (.int .i64 0)))
      have HB : Hid (rtaskB ts j = (taskMay (taskAt ts j) && !anyPrio (ts.take j) (taskAt ts j).prio)) := rfl
      have HNX : Hid (rtaskB ts j = true → ∀ i, i < j + 1 → rtaskB ts i = true) := fun h i hi => by
        rcases (by omega : i < j ∨ i = j) with h' | rfl
        · exact HALL.out i h'
        · exact h
      have HFA : Hid (rtaskB ts j = false → allB N (rtaskB ts) = false) := fun h => allB_false hlt h
      clear hq HMAP
      generalize taskMay (taskAt ts j) = tm at *
      generalize (taskAt ts j).kind = x0 at *
      generalize (taskAt ts j).period = x1 at *
      generalize (taskAt ts j).deadline = x2 at *
      generalize (taskAt ts j).clow = x3 at *
      generalize (taskAt ts j).chigh = x4 at *
      generalize (taskAt ts j).prio = x5 at *
      generalize anyPrio (ts.take j) x5 = ap at *
      generalize rtaskB ts j = rb at *
      cases ap with
      | false =>
        cases tm with
        | false =>
          have HFF := hide (HFA.out (by rw [HB.out]; rfl))
          clear HFA HNX HB
          go_wp2_with (first
            | (at_lookup; refine lookup_at _ rfl _ _ 93 rfl 3 3 .i64 law3 Tryd.underlying93 Tryd.underlying3 (zero3 _) w.heap.size j D rfl (HOWN.out _ (World.grownBy_alloc _ _ _)) _ _ rfl HK.out 0 HAT.out ?_)
            | (at_mapUpdate; refine wpList_mapUpdate_own _ rfl _ _ _ 93 rfl 3 3 law3 Tryd.underlying93 _ w.heap.size j D rfl (HOWN.out _ (World.grownBy_alloc _ _ _)) (by unfold maxLen; omega) _ _ _ rfl rfl HK.out (.lit (.int .i64 1)) [] (plainElem_int Tryd.underlying3 (by decide)) ?_; intro w1 hown1 hgrow1; have e5 := hgrow1.block wr.heap.size (by simp) (by have := HLT.out; simp; omega); have HO1 := hide hown1; have HG1 := hide (grown_spoil (grownBy_trans HG.out (World.grownBy_alloc _ _ _)) (Nat.le_refl _) hgrow1); clear hown1 hgrow1; have d0 : w1.cell? ⟨wr.heap.size, 0, none⟩ = some (.int .i64 x0) := (World.cell?_of_block (a := ⟨wr.heap.size, 0, none⟩) e5).trans (by simp); have d1 : w1.cell? ⟨wr.heap.size, 1, none⟩ = some (.int .i64 x1) := (World.cell?_of_block (a := ⟨wr.heap.size, 1, none⟩) e5).trans (by simp); have d2 : w1.cell? ⟨wr.heap.size, 2, none⟩ = some (.int .i64 x2) := (World.cell?_of_block (a := ⟨wr.heap.size, 2, none⟩) e5).trans (by simp); have d3 : w1.cell? ⟨wr.heap.size, 3, none⟩ = some (.int .i64 x3) := (World.cell?_of_block (a := ⟨wr.heap.size, 3, none⟩) e5).trans (by simp); have d4 : w1.cell? ⟨wr.heap.size, 4, none⟩ = some (.int .i64 x4) := (World.cell?_of_block (a := ⟨wr.heap.size, 4, none⟩) e5).trans (by simp); have d5 : w1.cell? ⟨wr.heap.size, 5, none⟩ = some (.int .i64 x5) := (World.cell?_of_block (a := ⟨wr.heap.size, 5, none⟩) e5).trans (by simp); have C5 : Hid (∀ W, w1.grownBy W none → W.cell? ⟨wr.heap.size, 5, none⟩ = some (.int .i64 x5)) := fun W hg => ((World.cell?_of_block (a := ⟨wr.heap.size, 5, none⟩) (hg.block wr.heap.size (World.block_lt_of_cell? w1 _ d5) (by simp))).trans d5); clear e5)
            | (go_at_call 56; refine (CX.out _).mono ?_; rintro e w2 ⟨rfl, hg2⟩; have G2 := hide hg2; clear hg2)
            | go_in)
          go_ret
          exact ⟨by rw [HFF.out]; rfl, grownBy_trans HG1.out G2.out⟩
        | true =>
          have HQ := hide (HNX.out (by rw [HB.out]; rfl))
          clear HFA HNX HB
          go_wp2_with (first
            | (at_lookup; refine lookup_at _ rfl _ _ 93 rfl 3 3 .i64 law3 Tryd.underlying93 Tryd.underlying3 (zero3 _) w.heap.size j D rfl (HOWN.out _ (World.grownBy_alloc _ _ _)) _ _ rfl HK.out 0 HAT.out ?_)
            | (at_mapUpdate; refine wpList_mapUpdate_own _ rfl _ _ _ 93 rfl 3 3 law3 Tryd.underlying93 _ w.heap.size j D rfl (HOWN.out _ (World.grownBy_alloc _ _ _)) (by unfold maxLen; omega) _ _ _ rfl rfl HK.out (.lit (.int .i64 1)) [] (plainElem_int Tryd.underlying3 (by decide)) ?_; intro w1 hown1 hgrow1; have e5 := hgrow1.block wr.heap.size (by simp) (by have := HLT.out; simp; omega); have HO1 := hide hown1; have HG1 := hide (grown_spoil (grownBy_trans HG.out (World.grownBy_alloc _ _ _)) (Nat.le_refl _) hgrow1); clear hown1 hgrow1; have d0 : w1.cell? ⟨wr.heap.size, 0, none⟩ = some (.int .i64 x0) := (World.cell?_of_block (a := ⟨wr.heap.size, 0, none⟩) e5).trans (by simp); have d1 : w1.cell? ⟨wr.heap.size, 1, none⟩ = some (.int .i64 x1) := (World.cell?_of_block (a := ⟨wr.heap.size, 1, none⟩) e5).trans (by simp); have d2 : w1.cell? ⟨wr.heap.size, 2, none⟩ = some (.int .i64 x2) := (World.cell?_of_block (a := ⟨wr.heap.size, 2, none⟩) e5).trans (by simp); have d3 : w1.cell? ⟨wr.heap.size, 3, none⟩ = some (.int .i64 x3) := (World.cell?_of_block (a := ⟨wr.heap.size, 3, none⟩) e5).trans (by simp); have d4 : w1.cell? ⟨wr.heap.size, 4, none⟩ = some (.int .i64 x4) := (World.cell?_of_block (a := ⟨wr.heap.size, 4, none⟩) e5).trans (by simp); have d5 : w1.cell? ⟨wr.heap.size, 5, none⟩ = some (.int .i64 x5) := (World.cell?_of_block (a := ⟨wr.heap.size, 5, none⟩) e5).trans (by simp); have C5 : Hid (∀ W, w1.grownBy W none → W.cell? ⟨wr.heap.size, 5, none⟩ = some (.int .i64 x5)) := fun W hg => ((World.cell?_of_block (a := ⟨wr.heap.size, 5, none⟩) (hg.block wr.heap.size (World.block_lt_of_cell? w1 _ d5) (by simp))).trans d5); clear e5)
            | (go_at_call 56; refine (CX.out _).mono ?_; rintro e w2 ⟨rfl, hg2⟩; have G2 := hide hg2; clear hg2; have f5 := C5.out w2 G2.out; have hlook := look_run (HO1.out.kept G2.out (by simp)) law3 Tryd.underlying93 Tryd.underlying3 (zero3 _) HK.out (HSAME.out 1))
            | go_in)
          go_roundw
          case rel => exact ⟨j + 1, by omega, by go_num, hide (grownBy_trans HG1.out G2.out), HQ, _, HO1.out.kept G2.out (by simp), HPUT.out⟩
          case measure => simp [intOf]; omega
      | true =>
        have HFF := hide (HFA.out (by rw [HB.out]; cases tm <;> rfl))
        clear HFA HNX HB
        cases tm with
        | false =>
          go_wp2_with (first
            | (at_lookup; refine lookup_at _ rfl _ _ 93 rfl 3 3 .i64 law3 Tryd.underlying93 Tryd.underlying3 (zero3 _) w.heap.size j D rfl (HOWN.out _ (World.grownBy_alloc _ _ _)) _ _ rfl HK.out 1 HAT.out ?_)
            | (at_mapUpdate; refine wpList_mapUpdate_own _ rfl _ _ _ 93 rfl 3 3 law3 Tryd.underlying93 _ w.heap.size j D rfl (HOWN.out _ (World.grownBy_alloc _ _ _)) (by unfold maxLen; omega) _ _ _ rfl rfl HK.out (.lit (.int .i64 2)) [] (plainElem_int Tryd.underlying3 (by decide)) ?_; intro w1 hown1 hgrow1; have e5 := hgrow1.block wr.heap.size (by simp) (by have := HLT.out; simp; omega); have HO1 := hide hown1; have HG1 := hide (grown_spoil (grownBy_trans HG.out (World.grownBy_alloc _ _ _)) (Nat.le_refl _) hgrow1); clear hown1 hgrow1; have d0 : w1.cell? ⟨wr.heap.size, 0, none⟩ = some (.int .i64 x0) := (World.cell?_of_block (a := ⟨wr.heap.size, 0, none⟩) e5).trans (by simp); have d1 : w1.cell? ⟨wr.heap.size, 1, none⟩ = some (.int .i64 x1) := (World.cell?_of_block (a := ⟨wr.heap.size, 1, none⟩) e5).trans (by simp); have d2 : w1.cell? ⟨wr.heap.size, 2, none⟩ = some (.int .i64 x2) := (World.cell?_of_block (a := ⟨wr.heap.size, 2, none⟩) e5).trans (by simp); have d3 : w1.cell? ⟨wr.heap.size, 3, none⟩ = some (.int .i64 x3) := (World.cell?_of_block (a := ⟨wr.heap.size, 3, none⟩) e5).trans (by simp); have d4 : w1.cell? ⟨wr.heap.size, 4, none⟩ = some (.int .i64 x4) := (World.cell?_of_block (a := ⟨wr.heap.size, 4, none⟩) e5).trans (by simp); have d5 : w1.cell? ⟨wr.heap.size, 5, none⟩ = some (.int .i64 x5) := (World.cell?_of_block (a := ⟨wr.heap.size, 5, none⟩) e5).trans (by simp); have C5 : Hid (∀ W, w1.grownBy W none → W.cell? ⟨wr.heap.size, 5, none⟩ = some (.int .i64 x5)) := fun W hg => ((World.cell?_of_block (a := ⟨wr.heap.size, 5, none⟩) (hg.block wr.heap.size (World.block_lt_of_cell? w1 _ d5) (by simp))).trans d5); clear e5)
            | (go_at_call 56; refine (CX.out _).mono ?_; rintro e w2 ⟨rfl, hg2⟩; have G2 := hide hg2; clear hg2)
            | go_in)
          go_ret
          exact ⟨by rw [HFF.out]; rfl, grownBy_trans HG1.out G2.out⟩
        | true =>
          go_wp2_with (first
            | (at_lookup; refine lookup_at _ rfl _ _ 93 rfl 3 3 .i64 law3 Tryd.underlying93 Tryd.underlying3 (zero3 _) w.heap.size j D rfl (HOWN.out _ (World.grownBy_alloc _ _ _)) _ _ rfl HK.out 1 HAT.out ?_)
            | (at_mapUpdate; refine wpList_mapUpdate_own _ rfl _ _ _ 93 rfl 3 3 law3 Tryd.underlying93 _ w.heap.size j D rfl (HOWN.out _ (World.grownBy_alloc _ _ _)) (by unfold maxLen; omega) _ _ _ rfl rfl HK.out (.lit (.int .i64 2)) [] (plainElem_int Tryd.underlying3 (by decide)) ?_; intro w1 hown1 hgrow1; have e5 := hgrow1.block wr.heap.size (by simp) (by have := HLT.out; simp; omega); have HO1 := hide hown1; have HG1 := hide (grown_spoil (grownBy_trans HG.out (World.grownBy_alloc _ _ _)) (Nat.le_refl _) hgrow1); clear hown1 hgrow1; have d0 : w1.cell? ⟨wr.heap.size, 0, none⟩ = some (.int .i64 x0) := (World.cell?_of_block (a := ⟨wr.heap.size, 0, none⟩) e5).trans (by simp); have d1 : w1.cell? ⟨wr.heap.size, 1, none⟩ = some (.int .i64 x1) := (World.cell?_of_block (a := ⟨wr.heap.size, 1, none⟩) e5).trans (by simp); have d2 : w1.cell? ⟨wr.heap.size, 2, none⟩ = some (.int .i64 x2) := (World.cell?_of_block (a := ⟨wr.heap.size, 2, none⟩) e5).trans (by simp); have d3 : w1.cell? ⟨wr.heap.size, 3, none⟩ = some (.int .i64 x3) := (World.cell?_of_block (a := ⟨wr.heap.size, 3, none⟩) e5).trans (by simp); have d4 : w1.cell? ⟨wr.heap.size, 4, none⟩ = some (.int .i64 x4) := (World.cell?_of_block (a := ⟨wr.heap.size, 4, none⟩) e5).trans (by simp); have d5 : w1.cell? ⟨wr.heap.size, 5, none⟩ = some (.int .i64 x5) := (World.cell?_of_block (a := ⟨wr.heap.size, 5, none⟩) e5).trans (by simp); have C5 : Hid (∀ W, w1.grownBy W none → W.cell? ⟨wr.heap.size, 5, none⟩ = some (.int .i64 x5)) := fun W hg => ((World.cell?_of_block (a := ⟨wr.heap.size, 5, none⟩) (hg.block wr.heap.size (World.block_lt_of_cell? w1 _ d5) (by simp))).trans d5); clear e5)
            | (go_at_call 56; refine (CX.out _).mono ?_; rintro e w2 ⟨rfl, hg2⟩; have G2 := hide hg2; clear hg2; have f5 := C5.out w2 G2.out; have hlook := look_run (HO1.out.kept G2.out (by simp)) law3 Tryd.underlying93 Tryd.underlying3 (zero3 _) HK.out (HSAME.out 2))
            | go_in)
          go_ret
          exact ⟨by rw [HFF.out]; rfl, grownBy_trans HG1.out G2.out⟩
    · go_wp2
      go_ret
      exact ⟨by rw [allB_true (fun i hi => HALL.out i (by omega))]; rfl, HG.out⟩
#print axioms dtasks_any
end Go.Proofs.YtehnklpjkcofcaaDoor
