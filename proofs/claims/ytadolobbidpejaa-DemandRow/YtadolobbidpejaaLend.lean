/- Contracts of the statements' own CopyTasks, LendTasks, SameTasks and KeptTasks, proved over the translation: tasks in a place with two marked tasks behind them. -/
import Derived.Test.YtadolobbidpejaaAw8
namespace Go.Proofs.Ytadolobbidpejaa
open Go.RowKit
attribute [local go_sem] alloc_drewN setCell_drewN

set_option maxRecDepth 100000 in
set_option maxHeartbeats 1000000 in
theorem same_T {lo lo' : Nat} (u v : Value) (zs : List TaskV) (w : World) (hu : RowAt shT lo w u zs) (hv : RowAt shT lo' w v zs) :
    Calls Try.prog 19 #[u, v] w fun e w' => e = .returned (.bool true) ∧ ∃ n, w' = w.drewN n := by
  obtain ⟨hl, a, cap, rfl, ha⟩ := hu
  obtain ⟨-, b, cap', rfl, hb⟩ := hv
  have HA := hide ha
  have HB := hide hb
  clear ha hb
  generalize hN : zs.length = N at *
  have HN := hide hN
  clear hN
  go_enter Try.func19, Try.ntmps19
  go_wp2
  go_loopw [5] (fun i W => ∃ (j n : Nat), j ≤ N ∧ i = .int .i64 j ∧ W = w.drewN n) (fun i _ => N - (intOf i).toNat)
  case atStart => exact ⟨0, 0, by omega, rfl, rfl⟩
  case round =>
    obtain ⟨j, n, hj, rfl, rfl⟩ := hrel
    by_cases hlt : j < N
    · obtain ⟨g, o, rfl, -, hc⟩ := HA.out (by omega)
      obtain ⟨g', o', rfl, -, hc'⟩ := HB.out (by omega)
      obtain ⟨q, hq⟩ : ∃ q, zs[j]? = some q := ⟨_, List.getElem?_eq_getElem (by rw [HN.out]; exact hlt)⟩
      have e1 := hc j q hq
      have e2 := hc' j q hq
      obtain ⟨x0, x1, x2, x3, x4, x5⟩ := q
      have c0 : w.cell? ⟨g, o + j * 6, none⟩ = some (.int .i64 x0) := e1 0 _ rfl
      have c1 : w.cell? ⟨g, o + j * 6 + 1, none⟩ = some (.int .i64 x1) := e1 1 _ rfl
      have c2 : w.cell? ⟨g, o + j * 6 + 2, none⟩ = some (.int .i64 x2) := e1 2 _ rfl
      have c3 : w.cell? ⟨g, o + j * 6 + 3, none⟩ = some (.int .i64 x3) := e1 3 _ rfl
      have c4 : w.cell? ⟨g, o + j * 6 + 4, none⟩ = some (.int .i64 x4) := e1 4 _ rfl
      have c5 : w.cell? ⟨g, o + j * 6 + 5, none⟩ = some (.int .i64 x5) := e1 5 _ rfl
      have d0 : w.cell? ⟨g', o' + j * 6, none⟩ = some (.int .i64 x0) := e2 0 _ rfl
      have d1 : w.cell? ⟨g', o' + j * 6 + 1, none⟩ = some (.int .i64 x1) := e2 1 _ rfl
      have d2 : w.cell? ⟨g', o' + j * 6 + 2, none⟩ = some (.int .i64 x2) := e2 2 _ rfl
      have d3 : w.cell? ⟨g', o' + j * 6 + 3, none⟩ = some (.int .i64 x3) := e2 3 _ rfl
      have d4 : w.cell? ⟨g', o' + j * 6 + 4, none⟩ = some (.int .i64 x4) := e2 4 _ rfl
      have d5 : w.cell? ⟨g', o' + j * 6 + 5, none⟩ = some (.int .i64 x5) := e2 5 _ rfl
      clear hc hc' e1 e2 hq
      go_wp2
      go_quiet (fail)
      go_wp2
      go_roundw
      case rel => exact ⟨j + 1, _, by omega, by go_num, rfl⟩
      case measure => simp [intOf]; omega
    · go_wp2
      go_ret
      exact ⟨rfl, _, rfl⟩


theorem info34 : (Try.prog.info? 34).map (fun i => (i.zero, i.size, i.bytes)) = some (some (.agg #[.int .i64 0, .int .i64 0, .int .i64 0, .int .i64 0, .int .i64 0, .int .i64 0]), 6, 48) := by kernel_rfl

set_option maxRecDepth 100000 in
set_option maxHeartbeats 1000000 in
theorem copy_some (ad : Addr) (n cap : Nat) (zs : List TaskV) (hn : zs.length = n) (hz : n ≤ 2932031007318) (w : World) (hc : ∀ i y, zs[i]? = some y → ∀ j u, (shT.f y)[j]? = some u → w.cell? (ad.add (i * shT.k + j)) = some u) :
    Calls Try.prog 14 #[.slice (some ad) n cap] w fun e w' => ∃ a' cap', e = .returned (.slice a' n cap') ∧ w'.ownsRow w.heap.size 34 shT.k (.slice a' n cap') n (shT.cells zs) ∧ w.grownBy w' none := by
  have HC := hide hc
  have HN := hide hn
  clear hc hn
  go_enter Try.func14, Try.ntmps14
  go_wp2_with (at_builtin; refine app_row (S := shT) _ rfl _ _ 22 34 (.agg #[.int .i64 0, .int .i64 0, .int .i64 0, .int .i64 0, .int .i64 0, .int .i64 0]) 48 Try.underlying22 info34 rfl rfl w.heap.size _ 0 [] rfl ?c0 ad n cap zs rfl HN.out ?c1 ?c2 ?c3 ?c4 ?_)
  case c0 => exact World.ownsRow_lit w #[] 0 (Nat.le_refl _) (by unfold maxLen; omega) rfl
  case c1 =>
    intro i y hy j u hu
    have hc := HC.out i y hy j u hu
    have gg := World.grownBy_alloc w (.cells #[] 34) none
    exact (World.cell?_of_block (a := ad.add (i * shT.k + j)) (gg.block _ (World.block_lt_of_cell? w _ hc) (by simp))).trans hc
  case c2 => omega
  case c3 => omega
  case c4 => simp
  intro a2 cap2 w2 hown2 hgrow2 _
  have HO := hide hown2
  have HG := hide (grown_append (m := 0) (grownBy_refl w none) (v := .slice (some ⟨w.heap.size, 0, none⟩) 0 0) (fun g hg => by simp [Value.ownBlock] at hg; omega) hgrow2)
  clear hown2 hgrow2
  go_wp2
  go_ret
  exact ⟨_, _, rfl, by simpa using HO.out, HG.out⟩
set_option maxRecDepth 100000 in
set_option maxHeartbeats 1000000 in
theorem copy_none (cap : Nat) (w : World) :
    Calls Try.prog 14 #[.slice none 0 cap] w fun e w' => ∃ a' cap', e = .returned (.slice a' 0 cap') ∧ w'.ownsRow w.heap.size 34 shT.k (.slice a' 0 cap') 0 (shT.cells []) ∧ w.grownBy w' none := by
  go_enter Try.func14, Try.ntmps14
  go_wp2
  go_ret
  exact ⟨_, _, rfl, World.ownsRow_lit w #[] 0 (Nat.le_refl _) (by unfold maxLen; omega) rfl, World.grownBy_alloc _ _ _⟩
theorem copy_any {lo : Nat} (v : Value) (zs : List TaskV) (hz : zs.length ≤ 2932031007318) (w : World) (hv : RowAt shT lo w v zs) :
    Calls Try.prog 14 #[v] w fun e w' => ∃ a' cap', e = .returned (.slice a' zs.length cap') ∧ w'.ownsRow w.heap.size 34 shT.k (.slice a' zs.length cap') zs.length (shT.cells zs) ∧ w.grownBy w' none := by
  obtain ⟨-, a, cap, rfl, ha⟩ := hv
  cases a with
  | none =>
    have h0 : zs.length = 0 := by
      rcases Nat.eq_zero_or_pos zs.length with e | e
      · exact e
      · obtain ⟨g, o, h, _⟩ := ha e; cases h
    obtain rfl := List.length_eq_zero_iff.1 h0
    exact copy_none cap w
  | some ad =>
    refine copy_some ad _ cap zs rfl hz w (fun i y hy j u hu => ?_)
    obtain ⟨g, o, h, -, hc⟩ := ha (by have := (List.getElem?_eq_some_iff.1 hy).1; omega)
    cases h
    rw [Go.WideShapes.add_plain, ← Nat.add_assoc]
    exact hc i y hy j u hu

/-- The marked room. -/
def mk1 : TaskV := ⟨0, 0, 0, 0, 0, 77777⟩
def mark : List TaskV := [mk1, mk1]
set_option maxRecDepth 100000 in
set_option maxHeartbeats 1000000 in
theorem lend_any {lo : Nat} (v : Value) (zs : List TaskV) (hz : zs.length ≤ 2932031007317) (w : World) (hv : RowAt shT lo w v zs) :
    Calls Try.prog 8 #[v] w fun e w' => ∃ g cap', e = .returned (.slice (some ⟨g, 0, none⟩) zs.length cap') ∧ zs.length + 2 ≤ cap' ∧ cap' ≤ 9223372036854775807 ∧ RowAt shT w.heap.size w' (.slice (some ⟨g, 0, none⟩) (zs.length + 2) cap') (zs ++ mark) ∧ w.grownBy w' none := by
  have C := hide (copy_any v zs (by omega) w hv)
  obtain ⟨-, a, cap, rfl, -⟩ := hv
  generalize hN : zs.length = n at *
  have HN := hide hN
  clear hN
  go_enter Try.func8, Try.ntmps8
  go_wp2_with (first | fail)
  refine C.out.mono ?_; rintro e w1 ⟨a', cap', rfl, ho, hg⟩
  have HO := hide ho
  have HG := hide hg
  clear ho hg
  go_wp2_with (at_builtin; refine app_row (S := shT) _ rfl _ _ 22 34 (.agg #[.int .i64 0, .int .i64 0, .int .i64 0, .int .i64 0, .int .i64 0, .int .i64 0]) 48 Try.underlying22 info34 rfl rfl w.heap.size (.slice a' n cap') n zs rfl ?c0 ⟨w1.heap.size, 0, none⟩ 2 2 mark rfl rfl ?c1 ?c2 ?c3 ?c4 ?_)
  case c0 => exact HO.out.alloc _
  case c1 =>
    intro i y hy j u hu
    have hr := (rowAt_lit (S := shT) w1 mark 34 (by simp [mark]))
    obtain ⟨-, a9, c9, e9, h9⟩ := hr
    simp only [Value.slice.injEq] at e9
    obtain ⟨rfl, -, rfl⟩ := e9
    obtain ⟨g9, o9, e8, -, h8⟩ := h9 (by simp [mark])
    cases e8
    rw [Go.WideShapes.add_plain, ← Nat.add_assoc]
    exact h8 i y hy j u hu
  case c2 => omega
  case c3 => omega
  case c4 => have := HG.out.size; simp; omega
  intro a2 cap2 w2 hown2 hgrow2 _
  obtain ⟨g, rfl, hg1, hg2, hg3⟩ := own_cap hown2 (by omega)
  have hlen : (zs ++ mark).length = n + 2 := by simp [HN.out, mark]
  have hR : RowAt shT w.heap.size w2 (.slice (some ⟨g, 0, none⟩) (n + 2) cap2) (zs ++ mark) := by
    have h2 := hown2
    rw [← hlen] at h2 ⊢
    exact rowAt_own h2
  have HR := hide hR
  have HG2 := hide (grown_append (m := 0) HG.out (fun g hg => (HO.out.lt g hg).1) hgrow2)
  clear hown2 hgrow2 hg1 hlen hR
  go_wp2
  go_ret
  exact ⟨g, cap2, rfl, hg2, hg3, HR.out, HG2.out⟩

/-- What was lent, without its room. -/
theorem lent_reads {lo : Nat} {W : World} {g cap : Nat} {zs : List TaskV} (h : RowAt shT lo W (.slice (some ⟨g, 0, none⟩) (zs.length + 2) cap) (zs ++ mark)) : RowAt shT lo W (.slice (some ⟨g, 0, none⟩) zs.length cap) zs := by
  obtain ⟨hl, a1, cap1, e1, h1⟩ := h
  simp only [Value.slice.injEq] at e1
  obtain ⟨rfl, -, rfl⟩ := e1
  obtain ⟨g', o', e2, hlo, hcell⟩ := h1 (by simp [mark])
  cases e2
  refine ⟨by simp at hl; omega, _, cap, rfl, fun _ => ⟨g, 0, rfl, ⟨hlo.1, by have := hlo.2; simp at this; omega⟩, fun i x hx j u hu => ?_⟩⟩
  exact hcell i x (by rw [List.getElem?_append_left (List.getElem?_eq_some_iff.1 hx).1]; exact hx) j u hu

set_option maxRecDepth 100000 in
set_option maxHeartbeats 1000000 in
theorem kept_any {lo lo' : Nat} (g cap : Nat) (v : Value) (zs : List TaskV) (hz : zs.length ≤ 2932031007317) (hc : zs.length + 2 ≤ cap) (w : World) (hl : RowAt shT lo w (.slice (some ⟨g, 0, none⟩) (zs.length + 2) cap) (zs ++ mark)) (hv : RowAt shT lo' w v zs) :
    Calls Try.prog 12 #[.slice (some ⟨g, 0, none⟩) zs.length cap, v] w fun e w' => e = .returned (.bool true) ∧ ∃ n, w' = w.drewN n := by
  have hl2 := lent_reads hl
  have q1 : (zs ++ mark)[zs.length]? = some mk1 := by rw [List.getElem?_append_right (Nat.le_refl _), Nat.sub_self]; rfl
  have q2 : (zs ++ mark)[zs.length + 1]? = some mk1 := by rw [List.getElem?_append_right (by omega), show zs.length + 1 - zs.length = 1 by omega]; rfl
  have c0 : w.cell? ⟨g, zs.length * 6, none⟩ = some (.int .i64 0) := by have := row_cell (S := shT) hl q1 (k := 0) rfl; simpa [shT, mk1] using this
  have d0 : w.cell? ⟨g, (zs.length + 1) * 6, none⟩ = some (.int .i64 0) := by have := row_cell (S := shT) hl q2 (k := 0) rfl; simpa [shT, mk1] using this
  have c1 : w.cell? ⟨g, zs.length * 6 + 1, none⟩ = some (.int .i64 0) := by have := row_cell (S := shT) hl q1 (k := 1) rfl; simpa [shT, mk1] using this
  have d1 : w.cell? ⟨g, (zs.length + 1) * 6 + 1, none⟩ = some (.int .i64 0) := by have := row_cell (S := shT) hl q2 (k := 1) rfl; simpa [shT, mk1] using this
  have c2 : w.cell? ⟨g, zs.length * 6 + 2, none⟩ = some (.int .i64 0) := by have := row_cell (S := shT) hl q1 (k := 2) rfl; simpa [shT, mk1] using this
  have d2 : w.cell? ⟨g, (zs.length + 1) * 6 + 2, none⟩ = some (.int .i64 0) := by have := row_cell (S := shT) hl q2 (k := 2) rfl; simpa [shT, mk1] using this
  have c3 : w.cell? ⟨g, zs.length * 6 + 3, none⟩ = some (.int .i64 0) := by have := row_cell (S := shT) hl q1 (k := 3) rfl; simpa [shT, mk1] using this
  have d3 : w.cell? ⟨g, (zs.length + 1) * 6 + 3, none⟩ = some (.int .i64 0) := by have := row_cell (S := shT) hl q2 (k := 3) rfl; simpa [shT, mk1] using this
  have c4 : w.cell? ⟨g, zs.length * 6 + 4, none⟩ = some (.int .i64 0) := by have := row_cell (S := shT) hl q1 (k := 4) rfl; simpa [shT, mk1] using this
  have d4 : w.cell? ⟨g, (zs.length + 1) * 6 + 4, none⟩ = some (.int .i64 0) := by have := row_cell (S := shT) hl q2 (k := 4) rfl; simpa [shT, mk1] using this
  have c5 : w.cell? ⟨g, zs.length * 6 + 5, none⟩ = some (.int .i64 77777) := by have := row_cell (S := shT) hl q1 (k := 5) rfl; simpa [shT, mk1] using this
  have d5 : w.cell? ⟨g, (zs.length + 1) * 6 + 5, none⟩ = some (.int .i64 77777) := by have := row_cell (S := shT) hl q2 (k := 5) rfl; simpa [shT, mk1] using this
  have C := hide (same_T _ v zs w hl2 hv)
  obtain ⟨-, a, cap2, rfl, -⟩ := hv
  clear hl hl2 q1 q2
  generalize hN : zs.length = n at *
  clear hN
  go_enter Try.func12, Try.ntmps12
  go_wp2_with (go_at_call 19; refine C.out.mono ?_; rintro e w' ⟨rfl, n1, rfl⟩)
  go_ret
  exact ⟨rfl, _, rfl⟩
#print axioms kept_any
end Go.Proofs.Ytadolobbidpejaa
