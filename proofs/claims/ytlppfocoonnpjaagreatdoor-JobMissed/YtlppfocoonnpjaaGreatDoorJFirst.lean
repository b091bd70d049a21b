/- The contract of package ready's First. -/
import Derived.Test.YtlppfocoonnpjaaGreatDoorJPut
namespace Go.Proofs.YtlppfocoonnpjaaGreatDoor.J
open Go.RowKit
attribute [local go_sem] alloc_drewN setCell_drewN

set_option maxRecDepth 100000 in
set_option maxHeartbeats 4000000 in
theorem first_none {lo : Nat} (a : Option Addr) (n cap : Nat) (js : List JobV) (w : World) (hv : RowAt shJ lo w (.slice a n cap) js) (h0 : ¬0 < n) :
    Calls Tryz.prog 50 #[.slice a n cap] w fun e w' => e = .returned (.tuple #[jobVal jz, .bool false]) ∧ w.grownBy w' none := by
  have CM := hide (fun W (hg : w.grownBy W none) => may_any (.slice a n cap) js W (hv.grown hg))
  clear hv
  go_enter Tryz.func50, Tryz.ntmps50
  go_upto_region 1 with (first | fail)
  have HR := hide (heap_alloc_new w (.cells #[.int .i64 0, .int .i64 0, .int .i64 0, .int .i64 0, .int .i64 0, .int .i64 0, .int .i64 0] 70))
  have HG := hide (World.grownBy_alloc w (.cells #[.int .i64 0, .int .i64 0, .int .i64 0, .int .i64 0, .int .i64 0, .int .i64 0, .int .i64 0] 70) none)
  have HBS := hide (Nat.le_refl w.heap.size)
  generalize w.alloc (.cells #[.int .i64 0, .int .i64 0, .int .i64 0, .int .i64 0, .int .i64 0, .int .i64 0, .int .i64 0] 70) = w1 at *
  generalize hB : w.heap.size = B at *
  have HBW := hide hB
  clear hB
  go_wp2_with (first | ((with_reducible refine list_store 70 (.tmp 2) (.tmp 12) B #[.int .i64 0, .int .i64 0, .int .i64 0, .int .i64 0, .int .i64 0, .int .i64 0, .int .i64 0] 70 #[.int .i64 0, .int .i64 0, .int .i64 0, .int .i64 0, .int .i64 0, .int .i64 0, .int .i64 0] ?hx ?hy ?hg ?hi ?ho ?h1 ?_); (case hx => rfl); (case hy => rfl); (case hg => exact HR.out); (case hi => exact sizeJ); (case ho => rfl); (case h1 => simp [Value.oneCell']); intro w8 h1 e1 g1; have HRn := hide h1; have HGn := hide (grown_spoil HG.out (by rw [HBW.out]; exact Nat.le_refl _) g1); clear h1 e1 g1 HG HR) | fail)
  refine bodyPost_ret (results_row_tmp rfl _ _ B 70 #[.int .i64 0, .int .i64 0, .int .i64 0, .int .i64 0, .int .i64 0, .int .i64 0, .int .i64 0] (0, 0) _ rfl HRn.out Tryz.underlying70 rfl sizeJ) rfl ?_
  exact ⟨rfl, HGn.out⟩
set_option maxRecDepth 100000 in
set_option maxHeartbeats 4000000 in
theorem first_bad {lo : Nat} (a : Option Addr) (n cap : Nat) (js : List JobV) (w : World) (hv : RowAt shJ lo w (.slice a n cap) js) (h0 : 0 < n) (hm : rowMay js = false) :
    Calls Tryz.prog 50 #[.slice a n cap] w fun e w' => e = .returned (.tuple #[jobVal jz, .bool false]) ∧ w.grownBy w' none := by
  have CM := hide (fun W (hg : w.grownBy W none) => may_any (.slice a n cap) js W (hv.grown hg))
  rw [hm] at CM
  clear hm
  clear hv
  go_enter Tryz.func50, Tryz.ntmps50
  go_upto_region 1 with (first | fail)
  have HR := hide (heap_alloc_new w (.cells #[.int .i64 0, .int .i64 0, .int .i64 0, .int .i64 0, .int .i64 0, .int .i64 0, .int .i64 0] 70))
  have HG := hide (World.grownBy_alloc w (.cells #[.int .i64 0, .int .i64 0, .int .i64 0, .int .i64 0, .int .i64 0, .int .i64 0, .int .i64 0] 70) none)
  have HBS := hide (Nat.le_refl w.heap.size)
  generalize w.alloc (.cells #[.int .i64 0, .int .i64 0, .int .i64 0, .int .i64 0, .int .i64 0, .int .i64 0, .int .i64 0] 70) = w1 at *
  generalize hB : w.heap.size = B at *
  have HBW := hide hB
  clear hB
  go_wp2_with (first | fail)
  refine (CM.out _ HG.out).mono ?_; rintro e w2 ⟨rfl, hg⟩
  have HGn := hide (grownBy_trans HG.out hg)
  have HRn := hide (box_grown HR.out hg (by simp))
  clear hg HG HR CM
  have HG := HGn
  have HR := HRn
  clear HGn HRn
  go_wp2_with (first | ((with_reducible refine list_store 70 (.tmp 2) (.tmp 12) B #[.int .i64 0, .int .i64 0, .int .i64 0, .int .i64 0, .int .i64 0, .int .i64 0, .int .i64 0] 70 #[.int .i64 0, .int .i64 0, .int .i64 0, .int .i64 0, .int .i64 0, .int .i64 0, .int .i64 0] ?hx ?hy ?hg ?hi ?ho ?h1 ?_); (case hx => rfl); (case hy => rfl); (case hg => exact HR.out); (case hi => exact sizeJ); (case ho => rfl); (case h1 => simp [Value.oneCell']); intro w8 h1 e1 g1; have HRn := hide h1; have HGn := hide (grown_spoil HG.out (by rw [HBW.out]; exact Nat.le_refl _) g1); clear h1 e1 g1 HG HR) | fail)
  refine bodyPost_ret (results_row_tmp rfl _ _ B 70 #[.int .i64 0, .int .i64 0, .int .i64 0, .int .i64 0, .int .i64 0, .int .i64 0, .int .i64 0] (0, 0) _ rfl HRn.out Tryz.underlying70 rfl sizeJ) rfl ?_
  exact ⟨rfl, HGn.out⟩
set_option maxRecDepth 100000 in
set_option maxHeartbeats 4000000 in
theorem first_ok {lo : Nat} (a : Option Addr) (n cap : Nat) (js : List JobV) (w : World) (hv : RowAt shJ lo w (.slice a n cap) js) (h0 : 0 < n) (hm : rowMay js = true) :
    Calls Tryz.prog 50 #[.slice a n cap] w fun e w' => e = .returned (.tuple #[jobVal (jobAt js 0), .bool true]) ∧ w.grownBy w' none := by
  have CM := hide (fun W (hg : w.grownBy W none) => may_any (.slice a n cap) js W (hv.grown hg))
  rw [hm] at CM
  clear hm
  have HV := hide (fun W (hg : w.grownBy W none) => hv.grown hg)
  obtain ⟨g, o, rfl⟩ := row_addr hv h0
  have hq := jobAt_mem (js := js) (i := 0) (by obtain ⟨-, a2, c2, e, -⟩ := hv; simp only [Value.slice.injEq] at e; omega)
  have HC := hide (fun W (hg : w.grownBy W none) => (⟨by have := row_cell (S := shJ) (hv.grown hg) hq (k := 0) rfl; simpa [shJ] using this, by have := row_cell (S := shJ) (hv.grown hg) hq (k := 1) rfl; simpa [shJ] using this, by have := row_cell (S := shJ) (hv.grown hg) hq (k := 2) rfl; simpa [shJ] using this, by have := row_cell (S := shJ) (hv.grown hg) hq (k := 3) rfl; simpa [shJ] using this, by have := row_cell (S := shJ) (hv.grown hg) hq (k := 4) rfl; simpa [shJ] using this, by have := row_cell (S := shJ) (hv.grown hg) hq (k := 5) rfl; simpa [shJ] using this, by have := row_cell (S := shJ) (hv.grown hg) hq (k := 6) rfl; simpa [shJ] using this⟩ : W.cell? ⟨g, o, none⟩ = some (.int .i64 (jobAt js 0).task) ∧ W.cell? ⟨g, o + 1, none⟩ = some (.int .i64 (jobAt js 0).seq) ∧ W.cell? ⟨g, o + 2, none⟩ = some (.int .i64 (jobAt js 0).prio) ∧ W.cell? ⟨g, o + 3, none⟩ = some (.int .i64 (jobAt js 0).rel) ∧ W.cell? ⟨g, o + 4, none⟩ = some (.int .i64 (jobAt js 0).dead) ∧ W.cell? ⟨g, o + 5, none⟩ = some (.int .i64 (jobAt js 0).dem) ∧ W.cell? ⟨g, o + 6, none⟩ = some (.int .i64 (jobAt js 0).used)))
  clear hq HV
  dsimp only [jobVal]
  generalize (jobAt js 0).task = x0 at *
  generalize (jobAt js 0).seq = x1 at *
  generalize (jobAt js 0).prio = x2 at *
  generalize (jobAt js 0).rel = x3 at *
  generalize (jobAt js 0).dead = x4 at *
  generalize (jobAt js 0).dem = x5 at *
  generalize (jobAt js 0).used = x6 at *
  clear hv
  go_enter Tryz.func50, Tryz.ntmps50
  go_upto_region 1 with (first | fail)
  have HR := hide (heap_alloc_new w (.cells #[.int .i64 0, .int .i64 0, .int .i64 0, .int .i64 0, .int .i64 0, .int .i64 0, .int .i64 0] 70))
  have HG := hide (World.grownBy_alloc w (.cells #[.int .i64 0, .int .i64 0, .int .i64 0, .int .i64 0, .int .i64 0, .int .i64 0, .int .i64 0] 70) none)
  have HBS := hide (Nat.le_refl w.heap.size)
  generalize w.alloc (.cells #[.int .i64 0, .int .i64 0, .int .i64 0, .int .i64 0, .int .i64 0, .int .i64 0, .int .i64 0] 70) = w1 at *
  generalize hB : w.heap.size = B at *
  have HBW := hide hB
  clear hB
  go_wp2_with (first | fail)
  refine (CM.out _ HG.out).mono ?_; rintro e w2 ⟨rfl, hg⟩
  have HGn := hide (grownBy_trans HG.out hg)
  have HRn := hide (box_grown HR.out hg (by simp))
  clear hg HG HR CM
  have HG := HGn
  have HR := HRn
  clear HGn HRn
  obtain ⟨c0, c1, c2, c3, c4, c5, c6⟩ := HC.out _ HG.out
  go_wp2_with (first | ((with_reducible refine list_store 70 (.tmp 2) (.tmp 15) B #[.int .i64 x0, .int .i64 x1, .int .i64 x2, .int .i64 x3, .int .i64 x4, .int .i64 x5, .int .i64 x6] 70 #[.int .i64 0, .int .i64 0, .int .i64 0, .int .i64 0, .int .i64 0, .int .i64 0, .int .i64 0] ?hx ?hy ?hg ?hi ?ho ?h1 ?_); (case hx => rfl); (case hy => rfl); (case hg => exact HR.out); (case hi => exact sizeJ); (case ho => rfl); (case h1 => simp [Value.oneCell']); intro w8 h1 e1 g1; have HRn := hide h1; have HGn := hide (grown_spoil HG.out (by rw [HBW.out]; exact Nat.le_refl _) g1); clear h1 e1 g1 HG HR) | fail)
  refine bodyPost_ret (results_row_tmp rfl _ _ B 70 #[.int .i64 x0, .int .i64 x1, .int .i64 x2, .int .i64 x3, .int .i64 x4, .int .i64 x5, .int .i64 x6] (0, 0) _ rfl HRn.out Tryz.underlying70 rfl sizeJ) rfl ?_
  exact ⟨rfl, HGn.out⟩

theorem first_any {lo : Nat} (v : Value) (js : List JobV) (w : World) (hv : RowAt shJ lo w v js) :
    Calls Tryz.prog 50 #[v] w fun e w' => e = .returned (.tuple #[jobVal (firstV js), .bool (firstB js)]) ∧ w.grownBy w' none := by
  obtain ⟨hl, a, cap, rfl, -⟩ := id hv
  unfold firstV firstB
  by_cases h0 : 0 < js.length
  · rw [decide_eq_true h0, Bool.and_true]
    cases hm : rowMay js with
    | false => rw [if_neg (by simp)]; exact first_bad a _ cap js w hv h0 hm
    | true => rw [if_pos rfl]; exact first_ok a _ cap js w hv h0 hm
  · rw [decide_eq_false h0, Bool.and_false, if_neg (by simp)]
    exact first_none a _ cap js w hv h0
#print axioms first_any
end Go.Proofs.YtlppfocoonnpjaaGreatDoor.J
