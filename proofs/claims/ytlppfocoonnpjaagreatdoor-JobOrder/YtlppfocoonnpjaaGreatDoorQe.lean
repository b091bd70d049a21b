/- Contracts of the small functions of package config's Check, proved over the translation. A region that draws its order, whose operations only read and whose callees make new memory alone: one walk in the order of the text, over the class of the worlds that have grown from the first one. Contracts of package config's hasPrio, tasksMay and codeMay, proved over the translation. -/
import Derived.Test.YtlppfocoonnpjaaGreatDoorTaskMay

namespace Go.Proofs.YtlppfocoonnpjaaGreatDoor
open Go.RowKit
attribute [local go_sem] alloc_drewN setCell_drewN

/-- Are Frame and Quiet in their bounds? -/
def frameB (f q : Int) : Bool := decide (1 ≤ f) && (decide (f ≤ 256) && (decide (1 ≤ q) && (decide (q ≤ 16))))
set_option maxRecDepth 100000 in
set_option maxHeartbeats 1000000 in
theorem frame_any (f q : Int) (vp vw vo : Value) (h1 : ∃ a n c, vp = .slice a n c) (h2 : ∃ a n c, vw = .slice a n c) (h3 : ∃ a n c, vo = .slice a n c) (w : World) :
    Calls Tryz.prog 75 #[.agg #[.int .i64 f, .int .i64 q, vp, vw, vo]] w fun e w' => e = .returned (.bool (frameB f q)) ∧ w.grownBy w' none := by
  obtain ⟨pa, pn, pc, rfl⟩ := h1
  obtain ⟨wa, wn, wc, rfl⟩ := h2
  obtain ⟨oa, on, oc, rfl⟩ := h3
  unfold frameB
  by_cases h0 : 1 ≤ f
  · rw [decide_eq_true h0]
    simp only [Bool.true_and]
    by_cases h1 : f ≤ 256
    · rw [decide_eq_true h1]
      simp only [Bool.true_and]
      by_cases h2 : 1 ≤ q
      · rw [decide_eq_true h2]
        simp only [Bool.true_and]
        by_cases h3 : q ≤ 16
        · rw [decide_eq_true h3]
          go_enter Tryz.func75, Tryz.ntmps75; go_wp2; go_ret; exact ⟨rfl, World.grownBy_alloc _ _ _⟩
        · rw [decide_eq_false h3]
          go_enter Tryz.func75, Tryz.ntmps75; go_wp2; go_ret; exact ⟨rfl, World.grownBy_alloc _ _ _⟩
      · rw [decide_eq_false h2]
        simp only [Bool.false_and]
        go_enter Tryz.func75, Tryz.ntmps75; go_wp2; go_ret; exact ⟨rfl, World.grownBy_alloc _ _ _⟩
    · rw [decide_eq_false h1]
      simp only [Bool.false_and]
      go_enter Tryz.func75, Tryz.ntmps75; go_wp2; go_ret; exact ⟨rfl, World.grownBy_alloc _ _ _⟩
  · rw [decide_eq_false h0]
    simp only [Bool.false_and]
    go_enter Tryz.func75, Tryz.ntmps75; go_wp2; go_ret; exact ⟨rfl, World.grownBy_alloc _ _ _⟩

/-- Low or High? -/
def levelB (l : Int) : Bool := decide (l = 0) || decide (l = 1)
set_option maxRecDepth 100000 in
set_option maxHeartbeats 1000000 in
theorem level_any (q : PartM) (w : World) :
    Calls Tryz.prog 97 #[.agg #[.int .i64 q.level, .slice q.ta q.tn q.tc, .slice q.ca q.cn q.cc]] w fun e w' => e = .returned (.bool (levelB q.level)) ∧ w.grownBy w' none := by
  obtain ⟨l, ta, tn, tc, ca, cn, cc⟩ := q
  unfold levelB
  dsimp only
  by_cases h0 : l = 0
  · subst h0
    go_enter Tryz.func97, Tryz.ntmps97; go_wp2; go_ret; exact ⟨rfl, World.grownBy_alloc _ _ _⟩
  · by_cases h1 : l = 1
    · subst h1
      go_enter Tryz.func97, Tryz.ntmps97; go_wp2; go_ret; exact ⟨rfl, World.grownBy_alloc _ _ _⟩
    · go_enter Tryz.func97, Tryz.ntmps97; go_wp2; go_ret; exact ⟨by simp [h0, h1], World.grownBy_alloc _ _ _⟩

/-- Is there a part i of so many? -/
def isPartB (n : Nat) (i : Int) : Bool := decide (0 ≤ i) && decide (i < n)
set_option maxRecDepth 100000 in
set_option maxHeartbeats 1000000 in
theorem isPart_any (a : Option Addr) (n c : Nat) (_hn : n ≤ 9223372036854775807) (i : Int) (w : World) :
    Calls Tryz.prog 101 #[.slice a n c, .int .i64 i] w fun e w' => e = .returned (.bool (isPartB n i)) ∧ w' = w := by
  unfold isPartB
  by_cases h0 : 0 ≤ i
  · rw [decide_eq_true h0]
    simp only [Bool.true_and]
    by_cases h1 : i < (n : Int)
    · rw [decide_eq_true h1]
      go_enter Tryz.func101, Tryz.ntmps101; go_wp2; go_ret; exact ⟨rfl, rfl⟩
    · rw [decide_eq_false h1]
      go_enter Tryz.func101, Tryz.ntmps101; go_wp2; go_ret; exact ⟨rfl, rfl⟩
  · rw [decide_eq_false h0]
    simp only [Bool.false_and]
    go_enter Tryz.func101, Tryz.ntmps101; go_wp2; go_ret; exact ⟨rfl, rfl⟩

/-- Is there a part i, and is it of that Level? -/
def isLevelB (ls : List Int) (i l : Int) : Bool := isPartB ls.length i && decide (ls[i.toNat]?.getD 0 = l)
set_option maxRecDepth 100000 in
set_option maxHeartbeats 1000000 in
theorem isLevel_any {lo : Nat} (v : Value) (qs : List PartM) (ls : List Int) (hls : qs.map PartM.level = ls) (i l : Int) (w : World) (hv : RowAt shP lo w v qs) :
    Calls Tryz.prog 104 #[v, .int .i64 i, .int .i64 l] w fun e w' => e = .returned (.bool (isLevelB ls i l)) ∧ w' = w := by
  obtain ⟨hl, va, vcap, rfl, ha⟩ := hv
  have C := hide (isPart_any va qs.length vcap hl i w)
  unfold isLevelB
  have hlen : ls.length = qs.length := by rw [← hls]; simp
  rw [hlen]
  cases hp : isPartB qs.length i with
  | false =>
    rw [hp] at C
    clear ha hp hls hlen
    simp only [Bool.false_and]
    generalize qs.length = n at *
    go_enter Tryz.func104, Tryz.ntmps104
    go_wp2_with (go_at_call 101; refine C.out.mono ?_; rintro e w' ⟨rfl, rfl⟩)
    go_ret
    exact ⟨rfl, rfl⟩
  | true =>
    rw [hp] at C
    unfold isPartB at hp
    simp only [Bool.and_eq_true, decide_eq_true_eq] at hp
    obtain ⟨h0, h1⟩ := hp
    obtain ⟨j, rfl⟩ : ∃ j : Nat, i = j := ⟨i.toNat, by omega⟩
    have hj : j < qs.length := by omega
    obtain ⟨g, o, rfl, -, hc⟩ := ha (by omega)
    have hq : qs[j]? = some qs[j] := List.getElem?_eq_getElem hj
    have c0 : w.cell? ⟨g, o + j * 3, none⟩ = some (.int .i64 qs[j].level) := hc j _ hq 0 _ rfl
    rw [← hls]
    simp only [Bool.true_and, Int.toNat_natCast, List.getElem?_map, hq, Option.map_some, Option.getD_some]
    clear hc hls hlen hq
    generalize qs[j].level = x at *
    generalize qs.length = n at *
    by_cases hx : x = l
    · rw [decide_eq_true hx]
      subst hx
      go_enter Tryz.func104, Tryz.ntmps104
      go_wp2_with (go_at_call 101; refine C.out.mono ?_; rintro e w' ⟨rfl, rfl⟩)
      go_ret
      exact ⟨rfl, rfl⟩
    · rw [decide_eq_false hx]
      go_enter Tryz.func104, Tryz.ntmps104
      go_wp2_with (go_at_call 101; refine C.out.mono ?_; rintro e w' ⟨rfl, rfl⟩)
      go_ret
      exact ⟨by simp [hx], rfl⟩

/-- Is it a Kind, and the Size one that the Kind has? -/
def sizeB (k s : Int) : Bool := if k = 0 then decide (s = 1) else if k = 1 then decide (1 ≤ s) && decide (s ≤ 8) else false
set_option maxRecDepth 100000 in
set_option maxHeartbeats 1000000 in
theorem size_any (q : PortV) (w : World) :
    Calls Tryz.prog 105 #[.agg #[.int .i64 q.kind, .int .i64 q.fr, .int .i64 q.til, .int .i64 q.size]] w fun e w' => e = .returned (.bool (sizeB q.kind q.size)) ∧ w.grownBy w' none := by
  obtain ⟨x0, x1, x2, x3⟩ := q
  unfold sizeB
  dsimp only
  by_cases h0 : x0 = 0
  · subst h0
    rw [if_pos rfl]
    by_cases h1 : x3 = 1
    · subst h1
      go_enter Tryz.func105, Tryz.ntmps105; go_wp2; go_ret; exact ⟨rfl, World.grownBy_alloc _ _ _⟩
    · rw [decide_eq_false h1]
      go_enter Tryz.func105, Tryz.ntmps105; go_wp2; go_ret; exact ⟨by simp [h1], World.grownBy_alloc _ _ _⟩
  · rw [if_neg h0]
    by_cases h1 : x0 = 1
    · subst h1
      rw [if_pos rfl]
      clear h0
      by_cases h0 : 1 ≤ x3
      · rw [decide_eq_true h0]
        simp only [Bool.true_and]
        by_cases h1 : x3 ≤ 8
        · rw [decide_eq_true h1]
          go_enter Tryz.func105, Tryz.ntmps105; go_wp2; go_ret; exact ⟨rfl, World.grownBy_alloc _ _ _⟩
        · rw [decide_eq_false h1]
          go_enter Tryz.func105, Tryz.ntmps105; go_wp2; go_ret; exact ⟨rfl, World.grownBy_alloc _ _ _⟩
      · rw [decide_eq_false h0]
        simp only [Bool.false_and]
        go_enter Tryz.func105, Tryz.ntmps105; go_wp2; go_ret; exact ⟨rfl, World.grownBy_alloc _ _ _⟩
    · rw [if_neg h1]
      go_enter Tryz.func105, Tryz.ntmps105; go_wp2; go_ret; exact ⟨rfl, World.grownBy_alloc _ _ _⟩

end Go.Proofs.YtlppfocoonnpjaaGreatDoor

namespace Go.Proofs.YtlppfocoonnpjaaGreatDoor
open Go.RowKit

theorem class_of (w1 : World) : ∃ (U : Type) (_ : Nonempty U) (F : U → World), Hid (∀ u, w1.grownBy (F u) none) ∧ Hid (∀ W, w1.grownBy W none → ∃ u, W = F u) :=
  ⟨{ W : World // w1.grownBy W none }, ⟨⟨w1, grownBy_refl _ _⟩⟩, Subtype.val, fun u => u.2, fun W h => ⟨⟨W, h⟩, rfl⟩⟩
theorem wp_region_quiet_in {P : Program} {id : Nat} {Q : Exit → Act → World → Prop} {a : Act} {w : World} {l : List Oper} {U : Type} (F : U → World) (hm : P.follows .mixedOrders = true) (hB : Region.lexB .any l.toArray = true)
    (h0 : ∃ u, ({ w with drawn := w.drawn + 1 } : World) = F u)
    (h : wpQuiet P l.toArray (fun w' => ∃ u, w' = F u) (fun a' => ∀ w', (∃ u, w' = F u) → Q .normal a' w') l a) : (Code.region id l.toArray true).wp P Q a w :=
  wp_region_quiet (C := fun w' => ∃ u, w' = F u) hm hB h0 (by simpa using h)
theorem drew_grown (w : World) : w.grownBy ({ w with drawn := w.drawn + 1 } : World) none := ⟨rfl, rfl, rfl, Nat.le_refl _, fun _ _ _ => rfl⟩
theorem calls_in {P : Program} {f : FuncId} {args : Array Value} {w1 W : World} {v : Value} {U : Type} {F : U → World} (HR : Hid (∀ W, w1.grownBy W none → ∃ u, W = F u)) (hW : w1.grownBy W none)
    (h : Calls P f args W fun e w' => e = .returned v ∧ W.grownBy w' none) : Calls P f args W fun e w'' => e = .returned v ∧ ∃ u, w'' = F u :=
  h.mono fun _ _ ⟨he, hg⟩ => ⟨he, HR.out _ (grownBy_trans hW hg)⟩
theorem calls_in_same {P : Program} {f : FuncId} {args : Array Value} {w1 W : World} {v : Value} {U : Type} {F : U → World} (HR : Hid (∀ W, w1.grownBy W none → ∃ u, W = F u)) (hW : w1.grownBy W none)
    (h : Calls P f args W fun e w' => e = .returned v ∧ w' = W) : Calls P f args W fun e w'' => e = .returned v ∧ ∃ u, w'' = F u :=
  h.mono fun _ _ ⟨he, hg⟩ => ⟨he, HR.out _ (by rw [hg]; exact hW)⟩
end Go.Proofs.YtlppfocoonnpjaaGreatDoor

namespace Go.Proofs.YtlppfocoonnpjaaGreatDoor
open Go.RowKit
attribute [local go_sem] alloc_drewN setCell_drewN

def tz : TaskV := ⟨0, 0, 0, 0, 0, 0⟩
def taskAt (ts : List TaskV) (i : Nat) : TaskV := ts[i]?.getD tz
theorem taskAt_of {ts : List TaskV} {i : Nat} {t : TaskV} (h : ts[i]? = some t) : taskAt ts i = t := by unfold taskAt; rw [h]; rfl
/-- Has one of the tasks that Prio? -/
def anyPrio (ts : List TaskV) (p : Int) : Bool := !allB ts.length (fun i => !decide ((taskAt ts i).prio = p))

set_option maxRecDepth 100000 in
set_option maxHeartbeats 1000000 in
theorem prioIs_any (t : TaskV) (p : Int) (B : Nat) (w : World) (hB : w.cell? ⟨B, 0, none⟩ = some (.int .i64 p)) :
    Calls Tryz.prog 120 #[.agg #[.int .i64 t.kind, .int .i64 t.period, .int .i64 t.deadline, .int .i64 t.clow, .int .i64 t.chigh, .int .i64 t.prio], .pointer (some ⟨B, 0, none⟩)] w fun e w' => e = .returned (.bool (decide (t.prio = p))) ∧ w.grownBy w' none := by
  have hBl : B < w.heap.size := World.block_lt_of_cell? w ⟨B, 0, none⟩ hB
  have hne : B ≠ w.heap.size := by omega
  obtain ⟨x0, x1, x2, x3, x4, x5⟩ := t
  go_enter Tryz.func120, Tryz.ntmps120
  go_wp2
  go_ret
  refine ⟨?_, World.grownBy_alloc _ _ _⟩
  by_cases h : x5 = p
  · simp [h]
  · simp [h]

set_option maxRecDepth 100000 in
set_option maxHeartbeats 1000000 in
theorem hasPrio_any {lo : Nat} (v : Value) (ts : List TaskV) (p : Int) (w : World) (hv : RowAt shT lo w v ts) :
    Calls Tryz.prog 100 #[v, .int .i64 p] w fun e w' => e = .returned (.bool (anyPrio ts p)) ∧ w.grownBy w' none := by
  have hmf : ∀ (fn : Fn) (first cap : Array Value) (w : World), (Instr.makeFunc fn first cap).run Tryz.prog w = .ok (.func fn first cap) w := fun _ _ _ _ => rfl
  have hg0 := World.grownBy_alloc w (.cells #[.int .i64 p] 3) none
  have HC := hide (contains_T v ts (fun i => decide ((taskAt ts i).prio = p)) w.heap.size _ (hv.grown hg0) (fun W hg i q hq => by
    rw [taskAt_of hq]
    exact prioIs_any q p w.heap.size W ((World.cell?_of_block (a := ⟨w.heap.size, 0, none⟩) (hg.block w.heap.size (by simp) (by simp))).trans (by simp))))
  clear hg0
  obtain ⟨hl, va, vcap, rfl, -⟩ := hv
  change Hid (Calls _ _ _ _ fun e w' => e = .returned (.bool (anyPrio ts p)) ∧ _) at HC
  generalize anyPrio ts p = m at *
  generalize ts.length = n at *
  go_enter Tryz.func100, Tryz.ntmps100
  go_wp2_with (first | fail)
  refine HC.out.mono ?_; rintro e w2 ⟨rfl, hg⟩
  have HG := hide hg
  clear hg
  go_wp2
  go_ret
  exact ⟨rfl, grownBy_trans (World.grownBy_alloc _ _ _) HG.out⟩

theorem rowAt_take {α : Type} {S : Shape α} {lo : Nat} {W : World} {a : Option Addr} {n cap : Nat} {xs : List α} (h : RowAt S lo W (.slice a n cap) xs) (i : Nat) (hi : i ≤ xs.length) : RowAt S lo W (.slice a i cap) (xs.take i) := by
  obtain ⟨hl, a', cap', e, ha⟩ := h
  simp only [Value.slice.injEq] at e
  obtain ⟨rfl, rfl, rfl⟩ := e
  have hlen : (xs.take i).length = i := by rw [List.length_take]; omega
  refine ⟨by omega, a, cap, by rw [hlen], fun h0 => ?_⟩
  obtain ⟨g, o, rfl, hlo, hc⟩ := ha (by omega)
  refine ⟨g, o, rfl, ⟨hlo.1, by omega⟩, fun j x hx k u hu => ?_⟩
  have hj : j < i := by
    rcases Nat.lt_or_ge j (xs.take i).length with h | h
    · omega
    · rw [List.getElem?_eq_none h] at hx; cases hx
  refine hc j x ?_ k u hu
  rw [List.getElem?_take, if_pos hj] at hx
  exact hx

/-- May task i be, beside the ones ahead of it? -/
def taskOK (l : Int) (ts : List TaskV) (i : Nat) : Bool := taskMay (taskAt ts i) && (!(decide (l = 0) && !decide ((taskAt ts i).chigh = (taskAt ts i).clow)) && !anyPrio (ts.take i) (taskAt ts i).prio)
def tasksB (p : PartV) : Bool := decide (p.tasks.length ≤ 6) && allB p.tasks.length (taskOK p.level p.tasks)

set_option maxRecDepth 100000 in
set_option maxHeartbeats 2000000 in
theorem tasks_any {lo : Nat} (q : PartM) (p : PartV) (w : World) (hq : PartIs lo w q p) :
    Calls Tryz.prog 78 #[.agg #[.int .i64 q.level, .slice q.ta q.tn q.tc, .slice q.ca q.cn q.cc]] w fun e w' => e = .returned (.bool (tasksB p)) ∧ w.grownBy w' none := by
  obtain ⟨hlv, ht, -⟩ := hq
  obtain ⟨l, ta, tn, tc, ca, cn, cc⟩ := q
  obtain ⟨pl, ts, code⟩ := p
  cases hlv
  have hg0 := World.grownBy_alloc w (.cells #[.int .i64 l, .slice ta tn tc, .slice ca cn cc] 25) none
  have HV := hide (fun W => (RowAt.grown ht hg0).grown (W := W))
  obtain ⟨hl, a', cap', e, -⟩ := ht
  simp only [PartM.tasks, Value.slice.injEq] at e
  obtain ⟨rfl, rfl, rfl⟩ := e
  simp only [PartM.tasks] at HV
  unfold tasksB
  dsimp only
  by_cases h6 : ts.length ≤ 6
  · rw [decide_eq_true h6]
    simp only [Bool.true_and]
    have hc0 : (w.alloc (.cells #[.int .i64 l, .slice ta ts.length tc, .slice ca cn cc] 25)).cell? ⟨w.heap.size, 0, none⟩ = some (.int .i64 l) := by simp
    have hc1 : (w.alloc (.cells #[.int .i64 l, .slice ta ts.length tc, .slice ca cn cc] 25)).cell? ⟨w.heap.size, 1, none⟩ = some (.slice ta ts.length tc) := by simp
    have HC0 := hide hc0
    have HC1 := hide hc1
    clear hc0 hc1 hg0
    generalize hN : ts.length = N at *
    have HN := hide hN
    clear hN
    go_enter Tryz.func78, Tryz.ntmps78
    go_wp2
    go_loopw [3, 4, 12] (fun _ _ i W => ∃ (j : Nat), j ≤ N ∧ i = .int .i64 j ∧ Hid ((w.alloc (.cells #[.int .i64 l, .slice ta N tc, .slice ca cn cc] 25)).grownBy W none) ∧ Hid (∀ i, i < j → taskOK l ts i = true)) (fun _ _ i _ => N - (intOf i).toNat)
    case atStart => exact ⟨0, by omega, rfl, grownBy_refl _ _, fun i hi => absurd hi (Nat.not_lt_zero _)⟩
    case round =>
      obtain ⟨j, hj, rfl, HG, HP⟩ := hrel
      by_cases hlt : j < N
      · have hrow := HV.out wr HG.out
        have HR := hide hrow
        obtain ⟨-, a2, cap2, e2, hc⟩ := hrow
        simp only [Value.slice.injEq] at e2
        obtain ⟨rfl, -, rfl⟩ := e2
        obtain ⟨g, o, rfl, ⟨-, hcap⟩, hc2⟩ := hc (by rw [HN.out]; omega)
        have hi1 : (0 : Int) ≤ (j : Int) := by omega
        have hi2 : (j : Int) ≤ (tc : Int) := by have := HN.out; omega
        obtain ⟨q, hq⟩ : ∃ q, ts[j]? = some q := ⟨_, List.getElem?_eq_getElem (by rw [HN.out]; exact hlt)⟩
        have hc3 := hc2 j q hq
        have hB : w.heap.size < (w.alloc (.cells #[.int .i64 l, .slice (some ⟨g, o, none⟩) N tc, .slice ca cn cc] 25)).heap.size := by simp
        have d0 := (World.cell?_of_block (a := ⟨w.heap.size, 0, none⟩) (HG.out.block w.heap.size hB (by simp))).trans HC0.out
        have d1 := (World.cell?_of_block (a := ⟨w.heap.size, 1, none⟩) (HG.out.block w.heap.size hB (by simp))).trans HC1.out
        have hBr : w.heap.size < wr.heap.size := World.block_lt_of_cell? wr _ d0
        have hgr : g < wr.heap.size := World.block_lt_of_cell? wr _ (hc3 0 _ rfl)
        have hAt := taskAt_of hq
        obtain ⟨x0, x1, x2, x3, x4, x5⟩ := q
        have c0 : wr.cell? ⟨g, o + j * 6, none⟩ = some (.int .i64 x0) := hc3 0 _ rfl
        have c1 : wr.cell? ⟨g, o + j * 6 + 1, none⟩ = some (.int .i64 x1) := hc3 1 _ rfl
        have c2 : wr.cell? ⟨g, o + j * 6 + 2, none⟩ = some (.int .i64 x2) := hc3 2 _ rfl
        have c3 : wr.cell? ⟨g, o + j * 6 + 3, none⟩ = some (.int .i64 x3) := hc3 3 _ rfl
        have c4 : wr.cell? ⟨g, o + j * 6 + 4, none⟩ = some (.int .i64 x4) := hc3 4 _ rfl
        have c5 : wr.cell? ⟨g, o + j * 6 + 5, none⟩ = some (.int .i64 x5) := hc3 5 _ rfl
        have HOK0 := hide (show taskOK l ts j = (taskMay ⟨x0, x1, x2, x3, x4, x5⟩ && (!(decide (l = 0) && !decide (x4 = x3)) && !anyPrio (ts.take j) x5)) by unfold taskOK; rw [hAt])
        have CT := hide (fun W => task_any ⟨x0, x1, x2, x3, x4, x5⟩ W)
        have CP := hide (fun W (hW : wr.grownBy W none) => hasPrio_any (.slice (some ⟨g, o, none⟩) j tc) (ts.take j) x5 W ((rowAt_take HR.out j (by rw [HN.out]; omega)).grown hW))
        clear hc hc2 hc3 hq hAt HR hB
        go_wp2
        generalize hw1 : wr.alloc (Obj.cells #[Value.int IntKind.i64 x0, Value.int IntKind.i64 x1, Value.int IntKind.i64 x2, Value.int IntKind.i64 x3, Value.int IntKind.i64 x4, Value.int IntKind.i64 x5] 73) = w1
        have HW1 := hide (show wr.grownBy w1 none by rw [← hw1]; exact World.grownBy_alloc _ _ _)
        have KEEP : Hid (∀ W, w1.grownBy W none → (fun W => W.cell? ⟨w.heap.size, 0, none⟩ = some (.int .i64 l) ∧ W.cell? ⟨w.heap.size, 1, none⟩ = some (.slice (some ⟨g, o, none⟩) N tc) ∧ W.cell? ⟨wr.heap.size, 0, none⟩ = some (.int .i64 x0) ∧ W.cell? ⟨wr.heap.size, 1, none⟩ = some (.int .i64 x1) ∧ W.cell? ⟨wr.heap.size, 2, none⟩ = some (.int .i64 x2) ∧ W.cell? ⟨wr.heap.size, 3, none⟩ = some (.int .i64 x3) ∧ W.cell? ⟨wr.heap.size, 4, none⟩ = some (.int .i64 x4) ∧ W.cell? ⟨wr.heap.size, 5, none⟩ = some (.int .i64 x5)) W) := by
          intro W hW
          have b1 := fun k => World.cell?_of_block (a := ⟨w.heap.size, k, none⟩) ((grownBy_trans HW1.out hW).block w.heap.size hBr (by simp))
          have b2 := fun k => World.cell?_of_block (a := ⟨wr.heap.size, k, none⟩) (hW.block wr.heap.size (by rw [← hw1]; simp) (by simp))
          exact ⟨(b1 0).trans d0, (b1 1).trans d1, (b2 0).trans (by rw [← hw1]; simp), (b2 1).trans (by rw [← hw1]; simp), (b2 2).trans (by rw [← hw1]; simp), (b2 3).trans (by rw [← hw1]; simp), (b2 4).trans (by rw [← hw1]; simp), (b2 5).trans (by rw [← hw1]; simp)⟩
        clear hw1 c0 c1 c2 c3 c4 c5 hgr
        obtain ⟨U, hU, F, HF, HR⟩ := class_of w1
        have f0 := fun u => (KEEP.out _ (HF.out u)).1
        have f1 := fun u => (KEEP.out _ (HF.out u)).2.1
        have f2 := fun u => (KEEP.out _ (HF.out u)).2.2.1
        have f3 := fun u => (KEEP.out _ (HF.out u)).2.2.2.1
        have f4 := fun u => (KEEP.out _ (HF.out u)).2.2.2.2.1
        have f5 := fun u => (KEEP.out _ (HF.out u)).2.2.2.2.2.1
        have f6 := fun u => (KEEP.out _ (HF.out u)).2.2.2.2.2.2.1
        have f7 := fun u => (KEEP.out _ (HF.out u)).2.2.2.2.2.2.2
        cases hm : taskMay ⟨x0, x1, x2, x3, x4, x5⟩ with
        | false =>
          rw [hm] at CT
          have HOK := hide (show taskOK l ts j = false by rw [HOK0.out, hm]; rfl)
          clear HOK0 hm
          refine wp_region_quiet_in F (by kernel_rfl) (by kernel_rfl) (HR.out _ (drew_grown _)) ?_
          repeat (go_big_quiet_step (first | (go_at_call 85; exact calls_in HR (HF.out _) (CT.out _))))
          refine wpQuiet_nil ?_
          intro _ hw1
          obtain ⟨uq, hw2⟩ := hw1
          subst hw2
          go_wp2
          go_ret
          refine ⟨?_, grownBy_trans (World.grownBy_alloc _ _ _) (grownBy_trans HG.out (grownBy_trans HW1.out (HF.out uq)))⟩
          rw [allB_false hlt HOK.out]
          rfl
        | true =>
          rw [hm] at CT
          have HOK1 := hide (show taskOK l ts j = (!(decide (l = 0) && !decide (x4 = x3)) && !anyPrio (ts.take j) x5) by rw [HOK0.out, hm]; rfl)
          clear HOK0 hm
          by_cases hl0 : l = 0
          · by_cases h43 : x4 = x3
            · have HOK2 := hide (show taskOK l ts j = !anyPrio (ts.take j) x5 by rw [HOK1.out, decide_eq_true hl0, decide_eq_true h43]; rfl)
              clear HOK1
              subst hl0
              subst h43
              cases hp : anyPrio (ts.take j) x5 with
              | true =>
                rw [hp] at CP
                have HOK := hide (show taskOK 0 ts j = false by rw [HOK2.out, hp]; rfl)
                clear HOK2 hp
                refine wp_region_quiet_in F (by kernel_rfl) (by kernel_rfl) (HR.out _ (drew_grown _)) ?_
                repeat (go_big_quiet_step (first | (go_at_call 85; exact calls_in HR (HF.out _) (CT.out _)) | (go_at_call 100; exact calls_in HR (HF.out _) (CP.out _ (grownBy_trans HW1.out (HF.out _))))))
                refine wpQuiet_nil ?_
                intro _ hw1
                obtain ⟨uq, hw2⟩ := hw1
                subst hw2
                go_wp2
                go_ret
                refine ⟨?_, grownBy_trans (World.grownBy_alloc _ _ _) (grownBy_trans HG.out (grownBy_trans HW1.out (HF.out uq)))⟩
                rw [allB_false hlt HOK.out]
                rfl
              | false =>
                rw [hp] at CP
                have HOK := hide (show taskOK 0 ts j = true by rw [HOK2.out, hp]; rfl)
                clear HOK2 hp
                refine wp_region_quiet_in F (by kernel_rfl) (by kernel_rfl) (HR.out _ (drew_grown _)) ?_
                repeat (go_big_quiet_step (first | (go_at_call 85; exact calls_in HR (HF.out _) (CT.out _)) | (go_at_call 100; exact calls_in HR (HF.out _) (CP.out _ (grownBy_trans HW1.out (HF.out _))))))
                refine wpQuiet_nil ?_
                intro _ hw1
                obtain ⟨uq, hw2⟩ := hw1
                subst hw2
                go_wp2
                go_roundw
                case rel =>
                  refine ⟨j + 1, by omega, by go_num, hide (grownBy_trans HG.out (grownBy_trans HW1.out (HF.out uq))), fun i hi => ?_⟩
                  rcases (by omega : i < j ∨ i = j) with h | rfl
                  · exact HP.out i h
                  · exact HOK.out
                case measure => simp [intOf]; omega
            · have HOK := hide (show taskOK l ts j = false by rw [HOK1.out, decide_eq_true hl0, decide_eq_false h43]; rfl)
              clear HOK1
              have e1 : (x4 == x3) = false := by simp [h43]
              have e2 : (x4 != x3) = true := by simp [h43]
              have e3 : decide (x4 = x3) = false := by simp [h43]
              subst hl0
              refine wp_region_quiet_in F (by kernel_rfl) (by kernel_rfl) (HR.out _ (drew_grown _)) ?_
              repeat (go_big_quiet_step (first | (go_at_call 85; exact calls_in HR (HF.out _) (CT.out _))))
              refine wpQuiet_nil ?_
              intro _ hw1
              obtain ⟨uq, hw2⟩ := hw1
              subst hw2
              go_wp2
              go_ret
              refine ⟨?_, grownBy_trans (World.grownBy_alloc _ _ _) (grownBy_trans HG.out (grownBy_trans HW1.out (HF.out uq)))⟩
              rw [allB_false hlt HOK.out]
              rfl
          · have HOK2 := hide (show taskOK l ts j = !anyPrio (ts.take j) x5 by rw [HOK1.out, decide_eq_false hl0]; rfl)
            clear HOK1
            have e1 : (l == 0) = false := by simp [hl0]
            have e3 : decide (l = 0) = false := by simp [hl0]
            cases hp : anyPrio (ts.take j) x5 with
            | true =>
              rw [hp] at CP
              have HOK := hide (show taskOK l ts j = false by rw [HOK2.out, hp]; rfl)
              clear HOK2 hp
              refine wp_region_quiet_in F (by kernel_rfl) (by kernel_rfl) (HR.out _ (drew_grown _)) ?_
              repeat (go_big_quiet_step (first | (go_at_call 85; exact calls_in HR (HF.out _) (CT.out _)) | (go_at_call 100; exact calls_in HR (HF.out _) (CP.out _ (grownBy_trans HW1.out (HF.out _))))))
              refine wpQuiet_nil ?_
              intro _ hw1
              obtain ⟨uq, hw2⟩ := hw1
              subst hw2
              go_wp2
              go_ret
              refine ⟨?_, grownBy_trans (World.grownBy_alloc _ _ _) (grownBy_trans HG.out (grownBy_trans HW1.out (HF.out uq)))⟩
              rw [allB_false hlt HOK.out]
              rfl
            | false =>
              rw [hp] at CP
              have HOK := hide (show taskOK l ts j = true by rw [HOK2.out, hp]; rfl)
              clear HOK2 hp
              refine wp_region_quiet_in F (by kernel_rfl) (by kernel_rfl) (HR.out _ (drew_grown _)) ?_
              repeat (go_big_quiet_step (first | (go_at_call 85; exact calls_in HR (HF.out _) (CT.out _)) | (go_at_call 100; exact calls_in HR (HF.out _) (CP.out _ (grownBy_trans HW1.out (HF.out _))))))
              refine wpQuiet_nil ?_
              intro _ hw1
              obtain ⟨uq, hw2⟩ := hw1
              subst hw2
              go_wp2
              go_roundw
              case rel =>
                refine ⟨j + 1, by omega, by go_num, hide (grownBy_trans HG.out (grownBy_trans HW1.out (HF.out uq))), fun i hi => ?_⟩
                rcases (by omega : i < j ∨ i = j) with h | rfl
                · exact HP.out i h
                · exact HOK.out
              case measure => simp [intOf]; omega
      · go_wp2
        go_ret
        refine ⟨?_, grownBy_trans (World.grownBy_alloc _ _ _) HG.out⟩
        rw [allB_true (fun i hi => HP.out i (by omega))]
        rfl
  · rw [decide_eq_false h6]
    simp only [Bool.false_and]
    clear HV
    generalize ts.length = N at *
    go_enter Tryz.func78, Tryz.ntmps78
    go_wp2
    go_ret
    exact ⟨rfl, World.grownBy_alloc _ _ _⟩
#print axioms hasPrio_any
end Go.Proofs.YtlppfocoonnpjaaGreatDoor
