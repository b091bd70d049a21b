/- Contracts of the small functions of package config's Check, proved over the translation. -/
import Derived.Test.YtlppfocoonnpjaaGreatDoorTaskMay
namespace Go.Proofs.YtlppfocoonnpjaaGreatDoor
open Go.RowKit
attribute [local go_sem] alloc_drewN setCell_drewN

/-- Are Frame and Quiet in their bounds? -/
def frameB (f q : Int) : Bool := decide (1 ≤ f) && (decide (f ≤ 256) && (decide (1 ≤ q) && (decide (q ≤ 16))))
set_option maxRecDepth 100000 in
set_option maxHeartbeats 1000000 in
theorem frame_any (f q : Int) (vp vw vo : Value) (h1 : ∃ a n c, vp = .slice a n c) (h2 : ∃ a n c, vw = .slice a n c) (h3 : ∃ a n c, vo = .slice a n c) (w : World) :
    Calls Tryz.prog 75 #[.agg #[.int .i64 f, .int .i64 q, vp, vw, vo]] w fun e w' => e = .returned (.bool (frameB f q)) ∧ w.grownBy w' none := by
  obtain ⟨pa, pn, pc, rfl⟩ := h1
  obtain ⟨wa, wn, wc, rfl⟩ := h2
  obtain ⟨oa, on, oc, rfl⟩ := h3
  unfold frameB
  by_cases h0 : 1 ≤ f
  · rw [decide_eq_true h0]
    simp only [Bool.true_and]
    by_cases h1 : f ≤ 256
    · rw [decide_eq_true h1]
      simp only [Bool.true_and]
      by_cases h2 : 1 ≤ q
      · rw [decide_eq_true h2]
        simp only [Bool.true_and]
        by_cases h3 : q ≤ 16
        · rw [decide_eq_true h3]
          go_enter Tryz.func75, Tryz.ntmps75; go_wp2; go_ret; exact ⟨rfl, World.grownBy_alloc _ _ _⟩
        · rw [decide_eq_false h3]
          go_enter Tryz.func75, Tryz.ntmps75; go_wp2; go_ret; exact ⟨rfl, World.grownBy_alloc _ _ _⟩
      · rw [decide_eq_false h2]
        simp only [Bool.false_and]
        go_enter Tryz.func75, Tryz.ntmps75; go_wp2; go_ret; exact ⟨rfl, World.grownBy_alloc _ _ _⟩
    · rw [decide_eq_false h1]
      simp only [Bool.false_and]
      go_enter Tryz.func75, Tryz.ntmps75; go_wp2; go_ret; exact ⟨rfl, World.grownBy_alloc _ _ _⟩
  · rw [decide_eq_false h0]
    simp only [Bool.false_and]
    go_enter Tryz.func75, Tryz.ntmps75; go_wp2; go_ret; exact ⟨rfl, World.grownBy_alloc _ _ _⟩

/-- Low or High? -/
def levelB (l : Int) : Bool := decide (l = 0) || decide (l = 1)
set_option maxRecDepth 100000 in
set_option maxHeartbeats 1000000 in
theorem level_any (q : PartM) (w : World) :
    Calls Tryz.prog 97 #[.agg #[.int .i64 q.level, .slice q.ta q.tn q.tc, .slice q.ca q.cn q.cc]] w fun e w' => e = .returned (.bool (levelB q.level)) ∧ w.grownBy w' none := by
  obtain ⟨l, ta, tn, tc, ca, cn, cc⟩ := q
  unfold levelB
  dsimp only
  by_cases h0 : l = 0
  · subst h0
    go_enter Tryz.func97, Tryz.ntmps97; go_wp2; go_ret; exact ⟨rfl, World.grownBy_alloc _ _ _⟩
  · by_cases h1 : l = 1
    · subst h1
      go_enter Tryz.func97, Tryz.ntmps97; go_wp2; go_ret; exact ⟨rfl, World.grownBy_alloc _ _ _⟩
    · go_enter Tryz.func97, Tryz.ntmps97; go_wp2; go_ret; exact ⟨by simp [h0, h1], World.grownBy_alloc _ _ _⟩

/-- Is there a part i of so many? -/
def isPartB (n : Nat) (i : Int) : Bool := decide (0 ≤ i) && decide (i < n)
set_option maxRecDepth 100000 in
set_option maxHeartbeats 1000000 in
theorem isPart_any (a : Option Addr) (n c : Nat) (_hn : n ≤ 9223372036854775807) (i : Int) (w : World) :
    Calls Tryz.prog 101 #[.slice a n c, .int .i64 i] w fun e w' => e = .returned (.bool (isPartB n i)) ∧ w' = w := by
  unfold isPartB
  by_cases h0 : 0 ≤ i
  · rw [decide_eq_true h0]
    simp only [Bool.true_and]
    by_cases h1 : i < (n : Int)
    · rw [decide_eq_true h1]
      go_enter Tryz.func101, Tryz.ntmps101; go_wp2; go_ret; exact ⟨rfl, rfl⟩
    · rw [decide_eq_false h1]
      go_enter Tryz.func101, Tryz.ntmps101; go_wp2; go_ret; exact ⟨rfl, rfl⟩
  · rw [decide_eq_false h0]
    simp only [Bool.false_and]
    go_enter Tryz.func101, Tryz.ntmps101; go_wp2; go_ret; exact ⟨rfl, rfl⟩

/-- Is there a part i, and is it of that Level? -/
def isLevelB (ls : List Int) (i l : Int) : Bool := isPartB ls.length i && decide (ls[i.toNat]?.getD 0 = l)
set_option maxRecDepth 100000 in
set_option maxHeartbeats 1000000 in
theorem isLevel_any {lo : Nat} (v : Value) (qs : List PartM) (ls : List Int) (hls : qs.map PartM.level = ls) (i l : Int) (w : World) (hv : RowAt shP lo w v qs) :
    Calls Tryz.prog 104 #[v, .int .i64 i, .int .i64 l] w fun e w' => e = .returned (.bool (isLevelB ls i l)) ∧ w' = w := by
  obtain ⟨hl, va, vcap, rfl, ha⟩ := hv
  have C := hide (isPart_any va qs.length vcap hl i w)
  unfold isLevelB
  have hlen : ls.length = qs.length := by rw [← hls]; simp
  rw [hlen]
  cases hp : isPartB qs.length i with
  | false =>
    rw [hp] at C
    clear ha hp hls hlen
    simp only [Bool.false_and]
    generalize qs.length = n at *
    go_enter Tryz.func104, Tryz.ntmps104
    go_wp2_with (go_at_call 101; refine C.out.mono ?_; rintro e w' ⟨rfl, rfl⟩)
    go_ret
    exact ⟨rfl, rfl⟩
  | true =>
    rw [hp] at C
    unfold isPartB at hp
    simp only [Bool.and_eq_true, decide_eq_true_eq] at hp
    obtain ⟨h0, h1⟩ := hp
    obtain ⟨j, rfl⟩ : ∃ j : Nat, i = j := ⟨i.toNat, by omega⟩
    have hj : j < qs.length := by omega
    obtain ⟨g, o, rfl, -, hc⟩ := ha (by omega)
    have hq : qs[j]? = some qs[j] := List.getElem?_eq_getElem hj
    have c0 : w.cell? ⟨g, o + j * 3, none⟩ = some (.int .i64 qs[j].level) := hc j _ hq 0 _ rfl
    rw [← hls]
    simp only [Bool.true_and, Int.toNat_natCast, List.getElem?_map, hq, Option.map_some, Option.getD_some]
    clear hc hls hlen hq
    generalize qs[j].level = x at *
    generalize qs.length = n at *
    by_cases hx : x = l
    · rw [decide_eq_true hx]
      subst hx
      go_enter Tryz.func104, Tryz.ntmps104
      go_wp2_with (go_at_call 101; refine C.out.mono ?_; rintro e w' ⟨rfl, rfl⟩)
      go_ret
      exact ⟨rfl, rfl⟩
    · rw [decide_eq_false hx]
      go_enter Tryz.func104, Tryz.ntmps104
      go_wp2_with (go_at_call 101; refine C.out.mono ?_; rintro e w' ⟨rfl, rfl⟩)
      go_ret
      exact ⟨by simp [hx], rfl⟩

/-- Is it a Kind, and the Size one that the Kind has? -/
def sizeB (k s : Int) : Bool := if k = 0 then decide (s = 1) else if k = 1 then decide (1 ≤ s) && decide (s ≤ 8) else false
set_option maxRecDepth 100000 in
set_option maxHeartbeats 1000000 in
theorem size_any (q : PortV) (w : World) :
    Calls Tryz.prog 105 #[.agg #[.int .i64 q.kind, .int .i64 q.fr, .int .i64 q.til, .int .i64 q.size]] w fun e w' => e = .returned (.bool (sizeB q.kind q.size)) ∧ w.grownBy w' none := by
  obtain ⟨x0, x1, x2, x3⟩ := q
  unfold sizeB
  dsimp only
  by_cases h0 : x0 = 0
  · subst h0
    rw [if_pos rfl]
    by_cases h1 : x3 = 1
    · subst h1
      go_enter Tryz.func105, Tryz.ntmps105; go_wp2; go_ret; exact ⟨rfl, World.grownBy_alloc _ _ _⟩
    · rw [decide_eq_false h1]
      go_enter Tryz.func105, Tryz.ntmps105; go_wp2; go_ret; exact ⟨by simp [h1], World.grownBy_alloc _ _ _⟩
  · rw [if_neg h0]
    by_cases h1 : x0 = 1
    · subst h1
      rw [if_pos rfl]
      clear h0
      by_cases h0 : 1 ≤ x3
      · rw [decide_eq_true h0]
        simp only [Bool.true_and]
        by_cases h1 : x3 ≤ 8
        · rw [decide_eq_true h1]
          go_enter Tryz.func105, Tryz.ntmps105; go_wp2; go_ret; exact ⟨rfl, World.grownBy_alloc _ _ _⟩
        · rw [decide_eq_false h1]
          go_enter Tryz.func105, Tryz.ntmps105; go_wp2; go_ret; exact ⟨rfl, World.grownBy_alloc _ _ _⟩
      · rw [decide_eq_false h0]
        simp only [Bool.false_and]
        go_enter Tryz.func105, Tryz.ntmps105; go_wp2; go_ret; exact ⟨rfl, World.grownBy_alloc _ _ _⟩
    · rw [if_neg h1]
      go_enter Tryz.func105, Tryz.ntmps105; go_wp2; go_ret; exact ⟨rfl, World.grownBy_alloc _ _ _⟩

#print axioms size_any
end Go.Proofs.YtlppfocoonnpjaaGreatDoor
