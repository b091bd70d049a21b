/- Contracts of package config's all, with each function that it is handed, proved over the translation. -/
import Derived.Test.YtlppfocoonnpjaaGreatDoorAny
namespace Go.Proofs.YtlppfocoonnpjaaGreatDoor
open Go.RowKit
attribute [local go_sem] alloc_drewN setCell_drewN

set_option maxRecDepth 100000 in
set_option maxHeartbeats 1000000 in
/-- all's closure: is it not of the one that was handed in? -/
theorem notis_26 (q : PartM) (b : Bool) (B : Nat) (w : World) (hB : w.cell? ⟨B, 0, none⟩ = some (.func (.func 78) #[] #[]))
    (hF : ∀ W, w.grownBy W none → Calls Tryz.prog 78 #[.agg #[.int .i64 q.level, .slice q.ta q.tn q.tc, .slice q.ca q.cn q.cc]] W fun e w' => e = .returned (.bool b) ∧ W.grownBy w' none) :
    Calls Tryz.prog 99 #[.agg #[.int .i64 q.level, .slice q.ta q.tn q.tc, .slice q.ca q.cn q.cc], .pointer (some ⟨B, 0, none⟩)] w fun e w' => e = .returned (.bool (!b)) ∧ w.grownBy w' none := by
  have hBl : B < w.heap.size := World.block_lt_of_cell? w ⟨B, 0, none⟩ hB
  have hne : B ≠ w.heap.size := by omega
  have C := hide (fun W h => hF W h)
  clear hF
  obtain ⟨lv, ta, tn, tc, ca, cn, cc⟩ := q
  go_enter Tryz.func99, Tryz.ntmps99
  go_wp2_with (first | fail)
  refine (C.out _ (World.grownBy_alloc _ _ _)).mono ?_; rintro e w2 ⟨rfl, hg⟩
  have HG := hide hg
  clear hg
  go_wp2
  go_ret
  exact ⟨rfl, grownBy_trans (World.grownBy_alloc _ _ _) HG.out⟩

set_option maxRecDepth 100000 in
set_option maxHeartbeats 1000000 in
theorem all_26 {lo : Nat} (v : Value) (qs : List PartM) (f : Nat → Bool) (w : World) (hv : RowAt shP lo w v qs)
    (hF : ∀ W, w.grownBy W none → ∀ (i : Nat) q, qs[i]? = some q → Calls Tryz.prog 78 #[.agg #[.int .i64 q.level, .slice q.ta q.tn q.tc, .slice q.ca q.cn q.cc]] W fun e w' => e = .returned (.bool (f i)) ∧ W.grownBy w' none) :
    Calls Tryz.prog 77 #[v, .func (.func 78) #[] #[]] w fun e w' => e = .returned (.bool (allB qs.length f)) ∧ w.grownBy w' none := by
  have hmf : ∀ (fn : Fn) (first cap : Array Value) (w : World), (Instr.makeFunc fn first cap).run Tryz.prog w = .ok (.func fn first cap) w := fun _ _ _ _ => rfl
  have hg0 := World.grownBy_alloc w (.cells #[.func (.func 78) #[] #[]] 80) none
  have C := contains_P v qs (fun i => !f i) w.heap.size _ (hv.grown hg0) (fun W hg i q hq => notis_26 q (f i) w.heap.size W ((World.cell?_of_block (a := ⟨w.heap.size, 0, none⟩) (hg.block w.heap.size (by simp) (by simp))).trans (by simp)) (fun W2 hg2 => hF W2 (grownBy_trans hg0 (grownBy_trans hg hg2)) i q hq))
  simp only [Bool.not_not] at C
  have HC := hide C
  clear C hF hg0
  obtain ⟨hl, va, vcap, rfl, -⟩ := hv
  have hb : (!(!allB qs.length f)) = allB qs.length f := by simp
  change Hid (Calls _ _ _ _ fun e w' => e = .returned (.bool (!allB qs.length f)) ∧ _) at HC
  generalize allB qs.length f = m at *
  generalize qs.length = n at *
  go_enter Tryz.func77, Tryz.ntmps77
  go_wp2_with (first | fail)
  refine HC.out.mono ?_; rintro e w2 ⟨rfl, hg⟩
  have HG := hide hg
  clear hg
  go_wp2
  go_ret
  refine ⟨?_, grownBy_trans (World.grownBy_alloc _ _ _) HG.out⟩
  simp

set_option maxRecDepth 100000 in
set_option maxHeartbeats 1000000 in
/-- all's closure: is it not of the one that was handed in? -/
theorem notis_29 (q : PartM) (b : Bool) (B : Nat) (w : World) (hB : w.cell? ⟨B, 0, none⟩ = some (.func (.func 81) #[] #[]))
    (hF : ∀ W, w.grownBy W none → Calls Tryz.prog 81 #[.agg #[.int .i64 q.level, .slice q.ta q.tn q.tc, .slice q.ca q.cn q.cc]] W fun e w' => e = .returned (.bool b) ∧ W.grownBy w' none) :
    Calls Tryz.prog 99 #[.agg #[.int .i64 q.level, .slice q.ta q.tn q.tc, .slice q.ca q.cn q.cc], .pointer (some ⟨B, 0, none⟩)] w fun e w' => e = .returned (.bool (!b)) ∧ w.grownBy w' none := by
  have hBl : B < w.heap.size := World.block_lt_of_cell? w ⟨B, 0, none⟩ hB
  have hne : B ≠ w.heap.size := by omega
  have C := hide (fun W h => hF W h)
  clear hF
  obtain ⟨lv, ta, tn, tc, ca, cn, cc⟩ := q
  go_enter Tryz.func99, Tryz.ntmps99
  go_wp2_with (first | fail)
  refine (C.out _ (World.grownBy_alloc _ _ _)).mono ?_; rintro e w2 ⟨rfl, hg⟩
  have HG := hide hg
  clear hg
  go_wp2
  go_ret
  exact ⟨rfl, grownBy_trans (World.grownBy_alloc _ _ _) HG.out⟩

set_option maxRecDepth 100000 in
set_option maxHeartbeats 1000000 in
theorem all_29 {lo : Nat} (v : Value) (qs : List PartM) (f : Nat → Bool) (w : World) (hv : RowAt shP lo w v qs)
    (hF : ∀ W, w.grownBy W none → ∀ (i : Nat) q, qs[i]? = some q → Calls Tryz.prog 81 #[.agg #[.int .i64 q.level, .slice q.ta q.tn q.tc, .slice q.ca q.cn q.cc]] W fun e w' => e = .returned (.bool (f i)) ∧ W.grownBy w' none) :
    Calls Tryz.prog 77 #[v, .func (.func 81) #[] #[]] w fun e w' => e = .returned (.bool (allB qs.length f)) ∧ w.grownBy w' none := by
  have hmf : ∀ (fn : Fn) (first cap : Array Value) (w : World), (Instr.makeFunc fn first cap).run Tryz.prog w = .ok (.func fn first cap) w := fun _ _ _ _ => rfl
  have hg0 := World.grownBy_alloc w (.cells #[.func (.func 81) #[] #[]] 80) none
  have C := contains_P v qs (fun i => !f i) w.heap.size _ (hv.grown hg0) (fun W hg i q hq => notis_29 q (f i) w.heap.size W ((World.cell?_of_block (a := ⟨w.heap.size, 0, none⟩) (hg.block w.heap.size (by simp) (by simp))).trans (by simp)) (fun W2 hg2 => hF W2 (grownBy_trans hg0 (grownBy_trans hg hg2)) i q hq))
  simp only [Bool.not_not] at C
  have HC := hide C
  clear C hF hg0
  obtain ⟨hl, va, vcap, rfl, -⟩ := hv
  have hb : (!(!allB qs.length f)) = allB qs.length f := by simp
  change Hid (Calls _ _ _ _ fun e w' => e = .returned (.bool (!allB qs.length f)) ∧ _) at HC
  generalize allB qs.length f = m at *
  generalize qs.length = n at *
  go_enter Tryz.func77, Tryz.ntmps77
  go_wp2_with (first | fail)
  refine HC.out.mono ?_; rintro e w2 ⟨rfl, hg⟩
  have HG := hide hg
  clear hg
  go_wp2
  go_ret
  refine ⟨?_, grownBy_trans (World.grownBy_alloc _ _ _) HG.out⟩
  simp

set_option maxRecDepth 100000 in
set_option maxHeartbeats 1000000 in
/-- all's closure: is it not of the one that was handed in? -/
theorem notis_44 (q : PartM) (b : Bool) (B : Nat) (w : World) (hB : w.cell? ⟨B, 0, none⟩ = some (.func (.func 97) #[] #[]))
    (hF : ∀ W, w.grownBy W none → Calls Tryz.prog 97 #[.agg #[.int .i64 q.level, .slice q.ta q.tn q.tc, .slice q.ca q.cn q.cc]] W fun e w' => e = .returned (.bool b) ∧ W.grownBy w' none) :
    Calls Tryz.prog 99 #[.agg #[.int .i64 q.level, .slice q.ta q.tn q.tc, .slice q.ca q.cn q.cc], .pointer (some ⟨B, 0, none⟩)] w fun e w' => e = .returned (.bool (!b)) ∧ w.grownBy w' none := by
  have hBl : B < w.heap.size := World.block_lt_of_cell? w ⟨B, 0, none⟩ hB
  have hne : B ≠ w.heap.size := by omega
  have C := hide (fun W h => hF W h)
  clear hF
  obtain ⟨lv, ta, tn, tc, ca, cn, cc⟩ := q
  go_enter Tryz.func99, Tryz.ntmps99
  go_wp2_with (first | fail)
  refine (C.out _ (World.grownBy_alloc _ _ _)).mono ?_; rintro e w2 ⟨rfl, hg⟩
  have HG := hide hg
  clear hg
  go_wp2
  go_ret
  exact ⟨rfl, grownBy_trans (World.grownBy_alloc _ _ _) HG.out⟩

set_option maxRecDepth 100000 in
set_option maxHeartbeats 1000000 in
theorem all_44 {lo : Nat} (v : Value) (qs : List PartM) (f : Nat → Bool) (w : World) (hv : RowAt shP lo w v qs)
    (hF : ∀ W, w.grownBy W none → ∀ (i : Nat) q, qs[i]? = some q → Calls Tryz.prog 97 #[.agg #[.int .i64 q.level, .slice q.ta q.tn q.tc, .slice q.ca q.cn q.cc]] W fun e w' => e = .returned (.bool (f i)) ∧ W.grownBy w' none) :
    Calls Tryz.prog 77 #[v, .func (.func 97) #[] #[]] w fun e w' => e = .returned (.bool (allB qs.length f)) ∧ w.grownBy w' none := by
  have hmf : ∀ (fn : Fn) (first cap : Array Value) (w : World), (Instr.makeFunc fn first cap).run Tryz.prog w = .ok (.func fn first cap) w := fun _ _ _ _ => rfl
  have hg0 := World.grownBy_alloc w (.cells #[.func (.func 97) #[] #[]] 80) none
  have C := contains_P v qs (fun i => !f i) w.heap.size _ (hv.grown hg0) (fun W hg i q hq => notis_44 q (f i) w.heap.size W ((World.cell?_of_block (a := ⟨w.heap.size, 0, none⟩) (hg.block w.heap.size (by simp) (by simp))).trans (by simp)) (fun W2 hg2 => hF W2 (grownBy_trans hg0 (grownBy_trans hg hg2)) i q hq))
  simp only [Bool.not_not] at C
  have HC := hide C
  clear C hF hg0
  obtain ⟨hl, va, vcap, rfl, -⟩ := hv
  have hb : (!(!allB qs.length f)) = allB qs.length f := by simp
  change Hid (Calls _ _ _ _ fun e w' => e = .returned (.bool (!allB qs.length f)) ∧ _) at HC
  generalize allB qs.length f = m at *
  generalize qs.length = n at *
  go_enter Tryz.func77, Tryz.ntmps77
  go_wp2_with (first | fail)
  refine HC.out.mono ?_; rintro e w2 ⟨rfl, hg⟩
  have HG := hide hg
  clear hg
  go_wp2
  go_ret
  refine ⟨?_, grownBy_trans (World.grownBy_alloc _ _ _) HG.out⟩
  simp

set_option maxRecDepth 100000 in
set_option maxHeartbeats 1000000 in
/-- all's closure: is it not of the one that was handed in? -/
theorem notis_51 (q : PortV) (pc : Addr) (b : Bool) (B : Nat) (w : World) (hB : w.cell? ⟨B, 0, none⟩ = some (.func (.func 103) #[] #[.pointer (some pc)]))
    (hF : ∀ W, w.grownBy W none → Calls Tryz.prog 103 #[.agg #[.int .i64 q.kind, .int .i64 q.fr, .int .i64 q.til, .int .i64 q.size], .pointer (some pc)] W fun e w' => e = .returned (.bool b) ∧ W.grownBy w' none) :
    Calls Tryz.prog 122 #[.agg #[.int .i64 q.kind, .int .i64 q.fr, .int .i64 q.til, .int .i64 q.size], .pointer (some ⟨B, 0, none⟩)] w fun e w' => e = .returned (.bool (!b)) ∧ w.grownBy w' none := by
  have hBl : B < w.heap.size := World.block_lt_of_cell? w ⟨B, 0, none⟩ hB
  have hne : B ≠ w.heap.size := by omega
  have C := hide (fun W h => hF W h)
  clear hF
  obtain ⟨x0, x1, x2, x3⟩ := q
  go_enter Tryz.func122, Tryz.ntmps122
  go_wp2_with (first | fail)
  refine (C.out _ (World.grownBy_alloc _ _ _)).mono ?_; rintro e w2 ⟨rfl, hg⟩
  have HG := hide hg
  clear hg
  go_wp2
  go_ret
  exact ⟨rfl, grownBy_trans (World.grownBy_alloc _ _ _) HG.out⟩

set_option maxRecDepth 100000 in
set_option maxHeartbeats 1000000 in
theorem all_51 {lo : Nat} (pc : Addr) (v : Value) (qs : List PortV) (f : Nat → Bool) (w : World) (hv : RowAt shO lo w v qs)
    (hF : ∀ W, w.grownBy W none → ∀ (i : Nat) q, qs[i]? = some q → Calls Tryz.prog 103 #[.agg #[.int .i64 q.kind, .int .i64 q.fr, .int .i64 q.til, .int .i64 q.size], .pointer (some pc)] W fun e w' => e = .returned (.bool (f i)) ∧ W.grownBy w' none) :
    Calls Tryz.prog 102 #[v, .func (.func 103) #[] #[.pointer (some pc)]] w fun e w' => e = .returned (.bool (allB qs.length f)) ∧ w.grownBy w' none := by
  have hmf : ∀ (fn : Fn) (first cap : Array Value) (w : World), (Instr.makeFunc fn first cap).run Tryz.prog w = .ok (.func fn first cap) w := fun _ _ _ _ => rfl
  have hg0 := World.grownBy_alloc w (.cells #[.func (.func 103) #[] #[.pointer (some pc)]] 167) none
  have C := contains_O v qs (fun i => !f i) w.heap.size _ (hv.grown hg0) (fun W hg i q hq => notis_51 q pc (f i) w.heap.size W ((World.cell?_of_block (a := ⟨w.heap.size, 0, none⟩) (hg.block w.heap.size (by simp) (by simp))).trans (by simp)) (fun W2 hg2 => hF W2 (grownBy_trans hg0 (grownBy_trans hg hg2)) i q hq))
  simp only [Bool.not_not] at C
  have HC := hide C
  clear C hF hg0
  obtain ⟨hl, va, vcap, rfl, -⟩ := hv
  have hb : (!(!allB qs.length f)) = allB qs.length f := by simp
  change Hid (Calls _ _ _ _ fun e w' => e = .returned (.bool (!allB qs.length f)) ∧ _) at HC
  generalize allB qs.length f = m at *
  generalize qs.length = n at *
  go_enter Tryz.func102, Tryz.ntmps102
  go_wp2_with (first | fail)
  refine HC.out.mono ?_; rintro e w2 ⟨rfl, hg⟩
  have HG := hide hg
  clear hg
  go_wp2
  go_ret
  refine ⟨?_, grownBy_trans (World.grownBy_alloc _ _ _) HG.out⟩
  simp


#print axioms all_51
end Go.Proofs.YtlppfocoonnpjaaGreatDoor
