/- Two tasks in memory, and the walk of the statements' own awake (of the layer of demands), proved over the translation. -/
import Derived.Test.YtadolobbidpejaaBound
namespace Go.Proofs.Ytadolobbidpejaa
open Go.RowKit
attribute [local go_sem] alloc_drewN setCell_drewN

theorem num_any (e : Int) (w : World) :
    Calls Try.prog 11 #[.int .i64 e] w fun r w' => r = .returned (.int .i64 e) ∧ w = w' := by
  go_enter Try.func11, Try.ntmps11
  go_wp2
  go_ret
  exact ⟨rfl, rfl⟩
theorem box_lt {W : World} {b : Nat} {o : Obj} (h : W.heap[b]? = some o) : b < W.heap.size := (Array.getElem?_eq_some_iff.1 h).1
theorem box_grown {W W2 : World} {b : Nat} {o : Obj} {r : Option Nat} (h : W.heap[b]? = some o) (hg : W.grownBy W2 r) (hr : r ≠ some b) : W2.heap[b]? = some o := (hg.block b (box_lt h) (fun e => hr e.symm)).trans h
theorem blk_cell {W : World} {b t : Nat} {cs : Array Value} (h : W.heap[b]? = some (.cells cs t (0, 0))) (j : Nat) : W.cell? ⟨b, j, none⟩ = cs[j]? := by simp [World.cell?, h]
theorem blk_free {W : World} {b t : Nat} {cs : Array Value} (h : W.heap[b]? = some (.cells cs t (0, 0))) (j : Nat) : W.frozen? ⟨b, j, none⟩ = false := by simp [World.frozen?, h]
theorem blk_set {W : World} {b t j : Nat} {u : Value} {cs cs' : Array Value} (h : W.heap[b]? = some (.cells cs t (0, 0))) (e : cs.setIfInBounds j u = cs') : (W.setCell ⟨b, j, none⟩ u).heap[b]? = some (.cells cs' t (0, 0)) := by
  subst e
  simp [World.setCell, Array.getElem?_modify, h]

/-- Two tasks in one block. -/
def Two (W : World) (b : Nat) (t0 t1 : TaskV) : Prop := W.heap[b]? = some (.cells #[.int .i64 t0.kind, .int .i64 t0.period, .int .i64 t0.deadline, .int .i64 t0.clow, .int .i64 t0.chigh, .int .i64 t0.prio, .int .i64 t1.kind, .int .i64 t1.period, .int .i64 t1.deadline, .int .i64 t1.clow, .int .i64 t1.chigh, .int .i64 t1.prio] 34 (0, 0))
theorem Two.grown {W V : World} {b : Nat} {t0 t1 : TaskV} (h : Two W b t0 t1) (hg : W.grownBy V none) : Two V b t0 t1 := box_grown h hg (by simp)
theorem Two.row {W : World} {b : Nat} {t0 t1 : TaskV} (h : Two W b t0 t1) : RowAt shT 0 W (.slice (some ⟨b, 0, none⟩) 2 2) [t0, t1] := by
  refine ⟨by simp, some ⟨b, 0, none⟩, 2, rfl, fun _ => ⟨b, 0, rfl, ⟨Nat.zero_le _, Nat.le_refl _⟩, fun i x hx j u hu => ?_⟩⟩
  rw [show (⟨b, 0 + i * shT.k + j, none⟩ : Addr) = ⟨b, i * 6 + j, none⟩ by simp [shT], blk_cell h]
  match i, hx with
  | 0, hx =>
    cases hx
    match j, hu with
    | 0, hu => exact hu
    | 1, hu => exact hu
    | 2, hu => exact hu
    | 3, hu => exact hu
    | 4, hu => exact hu
    | 5, hu => exact hu
    | j + 6, hu => exact absurd hu (by simp [shT, taskC])
  | 1, hx =>
    cases hx
    match j, hu with
    | 0, hu => exact hu
    | 1, hu => exact hu
    | 2, hu => exact hu
    | 3, hu => exact hu
    | 4, hu => exact hu
    | 5, hu => exact hu
    | j + 6, hu => exact absurd hu (by simp [shT, taskC])
  | i + 2, hx => simp at hx
/-- A task whose numbers fit. -/
def TFit (t : TaskV) : Prop := ∀ z ∈ [t.kind, t.period, t.deadline, t.clow, t.chigh, t.prio], -9223372036854775808 ≤ z ∧ z ≤ 9223372036854775807
theorem tfit_of {a b c d e f : Int} (ha : -9223372036854775808 ≤ a ∧ a ≤ 9223372036854775807) (hb : -9223372036854775808 ≤ b ∧ b ≤ 9223372036854775807) (hc : -9223372036854775808 ≤ c ∧ c ≤ 9223372036854775807) (hd : -9223372036854775808 ≤ d ∧ d ≤ 9223372036854775807) (he : -9223372036854775808 ≤ e ∧ e ≤ 9223372036854775807) (hf : -9223372036854775808 ≤ f ∧ f ≤ 9223372036854775807) : TFit ⟨a, b, c, d, e, f⟩ := by
  intro z hz
  simp only [List.mem_cons, List.not_mem_nil, or_false] at hz
  rcases hz with rfl | rfl | rfl | rfl | rfl | rfl <;> assumption
theorem fits_of {ts : List TaskV} (h : ∀ t ∈ ts, TFit t) : Fits ts := by
  intro t ht u hu
  have h1 := h t ht
  unfold taskC at hu
  simp only [List.mem_cons, List.not_mem_nil, or_false] at hu
  unfold TFit at h1
  simp only [List.mem_cons, List.not_mem_nil, or_false, forall_eq_or_imp, forall_eq] at h1
  obtain ⟨h0, h1, h2, h3, h4, h5⟩ := h1
  rcases hu with rfl | rfl | rfl | rfl | rfl | rfl
  · exact ⟨_, rfl, WalkArith.wf_i64 (by omega)⟩
  · exact ⟨_, rfl, WalkArith.wf_i64 (by omega)⟩
  · exact ⟨_, rfl, WalkArith.wf_i64 (by omega)⟩
  · exact ⟨_, rfl, WalkArith.wf_i64 (by omega)⟩
  · exact ⟨_, rfl, WalkArith.wf_i64 (by omega)⟩
  · exact ⟨_, rfl, WalkArith.wf_i64 (by omega)⟩
theorem fits_two {t0 t1 : TaskV} (h0 : TFit t0) (h1 : TFit t1) : Fits [t0, t1] := fits_of fun t ht => by
  simp only [List.mem_cons, List.not_mem_nil, or_false] at ht
  rcases ht with rfl | rfl
  · exact h0
  · exact h1
/-- Bound of two tasks in memory. -/
theorem bound_two {W : World} {b : Nat} {t0 t1 : TaskV} (h : Two W b t0 t1) (h0 : TFit t0) (h1 : TFit t1) (i len V E : Int) (hV : boundV [t0, t1] i len = V) (hE : boundE [t0, t1] i len = E) :
    Calls Try.prog 9 #[.slice (some ⟨b, 0, none⟩) 2 2, .int .i64 i, .int .i64 len] W fun e w' => e = .returned (.tuple #[.int .i64 V, .int .i64 E]) ∧ W.grownBy w' none := by
  rw [← hV, ← hE]
  exact bound_any _ [t0, t1] i len W h.row (fits_two h0 h1) (by simp)

def a0 : TaskV := ⟨0, 10, 10, 2, 3, 5⟩
def a1 : TaskV := ⟨0, 4, 4, 1, 2, 1⟩
def a2 : TaskV := ⟨0, 4, 4, 1, 2, 5⟩
theorem fa0 : TFit a0 := tfit_of (by omega) (by omega) (by omega) (by omega) (by omega) (by omega)
theorem fa1 : TFit a1 := tfit_of (by omega) (by omega) (by omega) (by omega) (by omega) (by omega)
theorem fa2 : TFit a2 := tfit_of (by omega) (by omega) (by omega) (by omega) (by omega) (by omega)
theorem zero34 (w : World) : (zeroValue 34).run Try.prog w = .ok (.agg #[.int .i64 0, .int .i64 0, .int .i64 0, .int .i64 0, .int .i64 0, .int .i64 0]) w := by kernel_rfl

set_option maxRecDepth 100000 in
set_option maxHeartbeats 2000000 in
theorem awake_any (w : World) :
    Calls Try.prog 13 #[] w fun e w' => e = .returned (.bool true) ∧ w.grownBy w' none := by
  have NUM := hide num_any
  go_enter Try.func13, Try.ntmps13
  go_upto_region 2 with fail
  generalize hw1 : w.alloc _ = w1
  have G1 := hide (show w.grownBy w1 none by rw [← hw1]; exact World.grownBy_alloc _ _ _)
  have T1 := hide (show Two w1 w.heap.size a0 a1 by rw [← hw1]; exact (MapKept.heap_alloc w _).1)
  have HB := hide (box_lt T1.out)
  generalize hb : w.heap.size = b at *
  have HW := hide hb
  clear hw1 hb
  go_wp2_with (first | fail)
  refine (bound_two T1.out fa0 fa1 0 9 9 0 (by kernel_rfl) (by kernel_rfl)).mono ?_; rintro e w2 ⟨rfl, hg⟩
  have G2 := hide hg
  have T2 := hide (T1.out.grown hg)
  clear hg
  go_wp2_with (first | fail)
  refine (bound_two T2.out fa0 fa1 1 9 2 0 (by kernel_rfl) (by kernel_rfl)).mono ?_; rintro e w3 ⟨rfl, hg⟩
  have G3 := hide (grownBy_trans G2.out hg)
  have T3 := hide (T2.out.grown hg)
  clear hg
  go_wp2_with (first | fail)
  refine (bound_two T3.out fa0 fa1 2 9 0 800 (by kernel_rfl) (by kernel_rfl)).mono ?_; rintro e w4 ⟨rfl, hg⟩
  have G4 := hide (grownBy_trans G3.out hg)
  have T4 := hide (T3.out.grown hg)
  clear hg
  have d5 : w4.cell? ⟨b, 11, none⟩ = some (.int .i64 1) := blk_cell T4.out 11
  have e5 := blk_free T4.out 11
  have T5 := hide (show Two (w4.setCell ⟨b, 11, none⟩ (.int .i64 5)) b a0 a2 from blk_set T4.out rfl)
  have G5 := hide (grown_spoil (grownBy_trans G1.out G4.out) (by rw [HW.out]; exact Nat.le_refl _) (grownBy_set w4 b 11 (.int .i64 5)))
  go_wp2_with (first | fail)
  refine (bound_two T5.out fa0 fa2 0 9 0 800 (by kernel_rfl) (by kernel_rfl)).mono ?_; rintro e w6 ⟨rfl, hg⟩
  have G6 := hide (grownBy_trans G5.out hg)
  clear hg d5 e5
  go_wp2_with (go_at_call 11; refine (NUM.out _ _).mono ?_; rintro e w' ⟨rfl, rfl⟩)
  go_ret
  exact ⟨rfl, G6.out⟩
#print axioms awake_any
end Go.Proofs.Ytadolobbidpejaa
