/- append of any row, also an empty one without an address, onto a row that is owned. The contract of package ready's First. -/
import Derived.Test.YtlppfocoonnpjaaGreatDoorQc
import Derived.Test.YtlppfocoonnpjaaGreatDoorJCat
import Derived.Test.YtlppfocoonnpjaaGreatDoorJPut

namespace Go.Proofs.YtlppfocoonnpjaaGreatDoor.L
open Go.RowKit
attribute [local go_sem] alloc_drewN setCell_drewN

section
variable {α : Type} {S : Shape α}
theorem run_app_gen {lo : Nat} (w : World) (t ty e : TypeId) (z : Value) (bytes : Nat) (ht : Tryz.prog.underlying t = some (.slice e)) (hinfo : (Tryz.prog.info? e).map (fun i => (i.zero, i.size, i.bytes)) = some (some z, S.k, bytes)) (hzs : z.cells.size = S.k)
    (base : Nat) (v : Value) (n : Nat) (xs ys : List α) (u : Value) (hown : w.ownsRow base e S.k v n (S.cells xs)) (hu : RowAt S lo w u ys) (hlim : (n + ys.length) * bytes ≤ 140737488355328) (h63 : n + ys.length ≤ 9223372036854775807) (hbase : base ≤ w.heap.size) :
    ∃ a' cap' w', (Builtin.append_ #[t, t] ty #[v, u]).run Tryz.prog w = .ok (.slice a' (n + ys.length) cap') w' ∧ w'.ownsRow base e S.k (.slice a' (n + ys.length) cap') (n + ys.length) (S.cells (xs ++ ys)) ∧ w.grownBy w' v.ownBlock := by
  obtain ⟨hl, a, cap, rfl, ha⟩ := hu
  cases a with
  | none =>
    have h0 : ys = [] := by
      rcases Nat.eq_zero_or_pos ys.length with e | e
      · exact List.length_eq_zero_iff.1 e
      · obtain ⟨g, o, h, _⟩ := ha e; cases h
    subst h0
    obtain ⟨b, c, rfl⟩ := own_form hown
    have hc : n ≤ c := by
      rcases hown.2 with ⟨h1, h2⟩ | ⟨g, cap', cur, h1, _, _, h4, _⟩
      · omega
      · simp only [Value.slice.injEq, true_and] at h1; omega
    exact ⟨b, c, w, J.run_append_nil2 w t ty e _ S.k bytes ht hinfo b n c cap hc, by simpa using hown, grownBy_refl _ _⟩
  | some ad =>
    obtain ⟨a', c', w', h1, h2, h3, -⟩ := J.run_append_row (S := S) w t ty e _ bytes ht hinfo hzs base v n xs hown ad ys.length cap ys rfl (fun i y hy j u hu => by
      obtain ⟨g', o, h, _, hc⟩ := ha (by have := (List.getElem?_eq_some_iff.1 hy).1; omega)
      cases h
      rw [Go.WideShapes.add_plain, ← Nat.add_assoc]
      exact hc i y hy j u hu) hlim h63 hbase
    exact ⟨a', c', w', h1, h2, h3⟩
theorem app_gen {lo : Nat} {ops : Array Oper} {rest : List Oper} {o : Oper} {a : Act} {Q : Exit → Act → World → Prop} (w : World) (hgd : o.guard = none) (s x : Operand) (t : TypeId)
    (ho : o.op = .call { callee := .builtin .append, args := #[s, x], argTypes := #[t, t] }) (e : TypeId) (z : Value) (bytes : Nat)
    (ht : Tryz.prog.underlying t = some (.slice e)) (hinfo : (Tryz.prog.info? e).map (fun i => (i.zero, i.size, i.bytes)) = some (some z, S.k, bytes)) (hzs : z.cells.size = S.k)
    (base : Nat) (v : Value) (n : Nat) (xs ys : List α) (u : Value) (hs : a.eval s = v) (hown : w.ownsRow base e S.k v n (S.cells xs)) (hx : a.eval x = u) (hu : RowAt S lo w u ys) (m : Nat) (hm : n + ys.length = m) (hlim : m * bytes ≤ 140737488355328) (h63 : m ≤ 9223372036854775807) (hbase : base ≤ w.heap.size)
    (h : ∀ a' cap' w', w'.ownsRow base e S.k (.slice a' m cap') m (S.cells (xs ++ ys)) → w.grownBy w' v.ownBlock → wpList Tryz.prog ops Q rest (a.put o.dst (.slice a' m cap')) w') : wpList Tryz.prog ops Q (o :: rest) a w :=
  wpList_plain hgd fun _ hK => by
    subst hm
    obtain ⟨a', cap', w', hr, h2, h3⟩ := run_app_gen (S := S) w t o.type e z bytes ht hinfo hzs base v n xs ys u hown hu hlim h63 hbase
    unfold Oper.wp execOp
    simp only [ho, resolve, invoke, builtin, Sem.run_bind, Sem.run_pure, Result.andThen_ok, List.map_toArray, List.map_cons, List.map_nil, hs, hx, hr]
    exact hK _ _ (h a' cap' w' h2 h3)
end
end Go.Proofs.YtlppfocoonnpjaaGreatDoor.L

namespace Go.Proofs.YtlppfocoonnpjaaGreatDoor.J
open Go.RowKit
attribute [local go_sem] alloc_drewN setCell_drewN

set_option maxRecDepth 100000 in
set_option maxHeartbeats 4000000 in
theorem first_none {lo : Nat} (a : Option Addr) (n cap : Nat) (js : List JobV) (w : World) (hv : RowAt shJ lo w (.slice a n cap) js) (h0 : ¬0 < n) :
    Calls Tryz.prog 50 #[.slice a n cap] w fun e w' => e = .returned (.tuple #[jobVal jz, .bool false]) ∧ w.grownBy w' none := by
  have CM := hide (fun W (hg : w.grownBy W none) => may_any (.slice a n cap) js W (hv.grown hg))
  clear hv
  go_enter Tryz.func50, Tryz.ntmps50
  go_upto_region 1 with (first | fail)
  have HR := hide (heap_alloc_new w (.cells #[.int .i64 0, .int .i64 0, .int .i64 0, .int .i64 0, .int .i64 0, .int .i64 0, .int .i64 0] 70))
  have HG := hide (World.grownBy_alloc w (.cells #[.int .i64 0, .int .i64 0, .int .i64 0, .int .i64 0, .int .i64 0, .int .i64 0, .int .i64 0] 70) none)
  have HBS := hide (Nat.le_refl w.heap.size)
  generalize w.alloc (.cells #[.int .i64 0, .int .i64 0, .int .i64 0, .int .i64 0, .int .i64 0, .int .i64 0, .int .i64 0] 70) = w1 at *
  generalize hB : w.heap.size = B at *
  have HBW := hide hB
  clear hB
  go_wp2_with (first | ((with_reducible refine list_store 70 (.tmp 2) (.tmp 12) B #[.int .i64 0, .int .i64 0, .int .i64 0, .int .i64 0, .int .i64 0, .int .i64 0, .int .i64 0] 70 #[.int .i64 0, .int .i64 0, .int .i64 0, .int .i64 0, .int .i64 0, .int .i64 0, .int .i64 0] ?hx ?hy ?hg ?hi ?ho ?h1 ?_); (case hx => rfl); (case hy => rfl); (case hg => exact HR.out); (case hi => exact sizeJ); (case ho => rfl); (case h1 => simp [Value.oneCell']); intro w8 h1 e1 g1; have HRn := hide h1; have HGn := hide (grown_spoil HG.out (by rw [HBW.out]; exact Nat.le_refl _) g1); clear h1 e1 g1 HG HR) | fail)
  refine bodyPost_ret (results_row_tmp rfl _ _ B 70 #[.int .i64 0, .int .i64 0, .int .i64 0, .int .i64 0, .int .i64 0, .int .i64 0, .int .i64 0] (0, 0) _ rfl HRn.out Tryz.underlying70 rfl sizeJ) rfl ?_
  exact ⟨rfl, HGn.out⟩
set_option maxRecDepth 100000 in
set_option maxHeartbeats 4000000 in
theorem first_bad {lo : Nat} (a : Option Addr) (n cap : Nat) (js : List JobV) (w : World) (hv : RowAt shJ lo w (.slice a n cap) js) (h0 : 0 < n) (hm : rowMay js = false) :
    Calls Tryz.prog 50 #[.slice a n cap] w fun e w' => e = .returned (.tuple #[jobVal jz, .bool false]) ∧ w.grownBy w' none := by
  have CM := hide (fun W (hg : w.grownBy W none) => may_any (.slice a n cap) js W (hv.grown hg))
  rw [hm] at CM
  clear hm
  clear hv
  go_enter Tryz.func50, Tryz.ntmps50
  go_upto_region 1 with (first | fail)
  have HR := hide (heap_alloc_new w (.cells #[.int .i64 0, .int .i64 0, .int .i64 0, .int .i64 0, .int .i64 0, .int .i64 0, .int .i64 0] 70))
  have HG := hide (World.grownBy_alloc w (.cells #[.int .i64 0, .int .i64 0, .int .i64 0, .int .i64 0, .int .i64 0, .int .i64 0, .int .i64 0] 70) none)
  have HBS := hide (Nat.le_refl w.heap.size)
  generalize w.alloc (.cells #[.int .i64 0, .int .i64 0, .int .i64 0, .int .i64 0, .int .i64 0, .int .i64 0, .int .i64 0] 70) = w1 at *
  generalize hB : w.heap.size = B at *
  have HBW := hide hB
  clear hB
  go_wp2_with (first | fail)
  refine (CM.out _ HG.out).mono ?_; rintro e w2 ⟨rfl, hg⟩
  have HGn := hide (grownBy_trans HG.out hg)
  have HRn := hide (box_grown HR.out hg (by simp))
  clear hg HG HR CM
  have HG := HGn
  have HR := HRn
  clear HGn HRn
  go_wp2_with (first | ((with_reducible refine list_store 70 (.tmp 2) (.tmp 12) B #[.int .i64 0, .int .i64 0, .int .i64 0, .int .i64 0, .int .i64 0, .int .i64 0, .int .i64 0] 70 #[.int .i64 0, .int .i64 0, .int .i64 0, .int .i64 0, .int .i64 0, .int .i64 0, .int .i64 0] ?hx ?hy ?hg ?hi ?ho ?h1 ?_); (case hx => rfl); (case hy => rfl); (case hg => exact HR.out); (case hi => exact sizeJ); (case ho => rfl); (case h1 => simp [Value.oneCell']); intro w8 h1 e1 g1; have HRn := hide h1; have HGn := hide (grown_spoil HG.out (by rw [HBW.out]; exact Nat.le_refl _) g1); clear h1 e1 g1 HG HR) | fail)
  refine bodyPost_ret (results_row_tmp rfl _ _ B 70 #[.int .i64 0, .int .i64 0, .int .i64 0, .int .i64 0, .int .i64 0, .int .i64 0, .int .i64 0] (0, 0) _ rfl HRn.out Tryz.underlying70 rfl sizeJ) rfl ?_
  exact ⟨rfl, HGn.out⟩
set_option maxRecDepth 100000 in
set_option maxHeartbeats 4000000 in
theorem first_ok {lo : Nat} (a : Option Addr) (n cap : Nat) (js : List JobV) (w : World) (hv : RowAt shJ lo w (.slice a n cap) js) (h0 : 0 < n) (hm : rowMay js = true) :
    Calls Tryz.prog 50 #[.slice a n cap] w fun e w' => e = .returned (.tuple #[jobVal (jobAt js 0), .bool true]) ∧ w.grownBy w' none := by
  have CM := hide (fun W (hg : w.grownBy W none) => may_any (.slice a n cap) js W (hv.grown hg))
  rw [hm] at CM
  clear hm
  have HV := hide (fun W (hg : w.grownBy W none) => hv.grown hg)
  obtain ⟨g, o, rfl⟩ := row_addr hv h0
  have hq := jobAt_mem (js := js) (i := 0) (by obtain ⟨-, a2, c2, e, -⟩ := hv; simp only [Value.slice.injEq] at e; omega)
  have HC := hide (fun W (hg : w.grownBy W none) => (⟨by have := row_cell (S := shJ) (hv.grown hg) hq (k := 0) rfl; simpa [shJ] using this, by have := row_cell (S := shJ) (hv.grown hg) hq (k := 1) rfl; simpa [shJ] using this, by have := row_cell (S := shJ) (hv.grown hg) hq (k := 2) rfl; simpa [shJ] using this, by have := row_cell (S := shJ) (hv.grown hg) hq (k := 3) rfl; simpa [shJ] using this, by have := row_cell (S := shJ) (hv.grown hg) hq (k := 4) rfl; simpa [shJ] using this, by have := row_cell (S := shJ) (hv.grown hg) hq (k := 5) rfl; simpa [shJ] using this, by have := row_cell (S := shJ) (hv.grown hg) hq (k := 6) rfl; simpa [shJ] using this⟩ : W.cell? ⟨g, o, none⟩ = some (.int .i64 (jobAt js 0).task) ∧ W.cell? ⟨g, o + 1, none⟩ = some (.int .i64 (jobAt js 0).seq) ∧ W.cell? ⟨g, o + 2, none⟩ = some (.int .i64 (jobAt js 0).prio) ∧ W.cell? ⟨g, o + 3, none⟩ = some (.int .i64 (jobAt js 0).rel) ∧ W.cell? ⟨g, o + 4, none⟩ = some (.int .i64 (jobAt js 0).dead) ∧ W.cell? ⟨g, o + 5, none⟩ = some (.int .i64 (jobAt js 0).dem) ∧ W.cell? ⟨g, o + 6, none⟩ = some (.int .i64 (jobAt js 0).used)))
  clear hq HV
  dsimp only [jobVal]
  generalize (jobAt js 0).task = x0 at *
  generalize (jobAt js 0).seq = x1 at *
  generalize (jobAt js 0).prio = x2 at *
  generalize (jobAt js 0).rel = x3 at *
  generalize (jobAt js 0).dead = x4 at *
  generalize (jobAt js 0).dem = x5 at *
  generalize (jobAt js 0).used = x6 at *
  clear hv
  go_enter Tryz.func50, Tryz.ntmps50
  go_upto_region 1 with (first | fail)
  have HR := hide (heap_alloc_new w (.cells #[.int .i64 0, .int .i64 0, .int .i64 0, .int .i64 0, .int .i64 0, .int .i64 0, .int .i64 0] 70))
  have HG := hide (World.grownBy_alloc w (.cells #[.int .i64 0, .int .i64 0, .int .i64 0, .int .i64 0, .int .i64 0, .int .i64 0, .int .i64 0] 70) none)
  have HBS := hide (Nat.le_refl w.heap.size)
  generalize w.alloc (.cells #[.int .i64 0, .int .i64 0, .int .i64 0, .int .i64 0, .int .i64 0, .int .i64 0, .int .i64 0] 70) = w1 at *
  generalize hB : w.heap.size = B at *
  have HBW := hide hB
  clear hB
  go_wp2_with (first | fail)
  refine (CM.out _ HG.out).mono ?_; rintro e w2 ⟨rfl, hg⟩
  have HGn := hide (grownBy_trans HG.out hg)
  have HRn := hide (box_grown HR.out hg (by simp))
  clear hg HG HR CM
  have HG := HGn
  have HR := HRn
  clear HGn HRn
  obtain ⟨c0, c1, c2, c3, c4, c5, c6⟩ := HC.out _ HG.out
  go_wp2_with (first | ((with_reducible refine list_store 70 (.tmp 2) (.tmp 15) B #[.int .i64 x0, .int .i64 x1, .int .i64 x2, .int .i64 x3, .int .i64 x4, .int .i64 x5, .int .i64 x6] 70 #[.int .i64 0, .int .i64 0, .int .i64 0, .int .i64 0, .int .i64 0, .int .i64 0, .int .i64 0] ?hx ?hy ?hg ?hi ?ho ?h1 ?_); (case hx => rfl); (case hy => rfl); (case hg => exact HR.out); (case hi => exact sizeJ); (case ho => rfl); (case h1 => simp [Value.oneCell']); intro w8 h1 e1 g1; have HRn := hide h1; have HGn := hide (grown_spoil HG.out (by rw [HBW.out]; exact Nat.le_refl _) g1); clear h1 e1 g1 HG HR) | fail)
  refine bodyPost_ret (results_row_tmp rfl _ _ B 70 #[.int .i64 x0, .int .i64 x1, .int .i64 x2, .int .i64 x3, .int .i64 x4, .int .i64 x5, .int .i64 x6] (0, 0) _ rfl HRn.out Tryz.underlying70 rfl sizeJ) rfl ?_
  exact ⟨rfl, HGn.out⟩

theorem first_any {lo : Nat} (v : Value) (js : List JobV) (w : World) (hv : RowAt shJ lo w v js) :
    Calls Tryz.prog 50 #[v] w fun e w' => e = .returned (.tuple #[jobVal (firstV js), .bool (firstB js)]) ∧ w.grownBy w' none := by
  obtain ⟨hl, a, cap, rfl, -⟩ := id hv
  unfold firstV firstB
  by_cases h0 : 0 < js.length
  · rw [decide_eq_true h0, Bool.and_true]
    cases hm : rowMay js with
    | false => rw [if_neg (by simp)]; exact first_bad a _ cap js w hv h0 hm
    | true => rw [if_pos rfl]; exact first_ok a _ cap js w hv h0 hm
  · rw [decide_eq_false h0, Bool.and_false, if_neg (by simp)]
    exact first_none a _ cap js w hv h0
#print axioms first_any
end Go.Proofs.YtlppfocoonnpjaaGreatDoor.J
