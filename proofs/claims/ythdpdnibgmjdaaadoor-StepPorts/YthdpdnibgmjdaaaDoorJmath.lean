/- Programs of a jump and instructions that do nothing: what a step answers, on numbers alone; a program as one block. -/
import Derived.Test.YthdpdnibgmjdaaaDoorVeq
namespace Go.Proofs.YthdpdnibgmjdaaaDoor
open Go.RowKit

def jP (x0 y0 x1 : Int) (c : Nat) : List Ins := (x0, y0) :: (x1, 0) :: List.replicate c (0, 0)
theorem jP_len (x0 y0 x1 : Int) (c : Nat) : (jP x0 y0 x1 c).length = 2 + c := by simp [jP]; omega
abbrev jC (x0 y0 x1 : Int) (c : Nat) : Array Value := (shI.cells (jP x0 y0 x1 c)).toArray
theorem jC_eq (x0 y0 x1 : Int) (c : Nat) : jC x0 y0 x1 c = (.int .i64 x0 :: .int .i64 y0 :: .int .i64 x1 :: .int .i64 0 :: shI.cells (List.replicate c (0, 0))).toArray := by
  show (shI.cells (_ :: _ :: _)).toArray = _
  rw [shI.cells_cons, shI.cells_cons]
  rfl
theorem rowAt_blk {α : Type} {S : Shape α} {W : World} {g t : Nat} {fr : Nat × Nat} {xs : List α} (h : W.heap[g]? = some (.cells (S.cells xs).toArray t fr)) (hl : xs.length ≤ 9223372036854775807) : RowAt S g W (.slice (some ⟨g, 0, none⟩) xs.length xs.length) xs := by
  refine ⟨hl, _, _, rfl, fun _ => ⟨g, 0, rfl, ⟨Nat.le_refl _, Nat.le_refl _⟩, fun i x hx j u hu => ?_⟩⟩
  have := S.cells_get xs i x hx j u hu
  rw [Nat.zero_add]
  simp only [World.cell?, h]
  simpa using this
theorem jC_at {W : World} {g t : Nat} {x0 y0 x1 : Int} {c : Nat} (h : W.heap[g]? = some (.cells (jC x0 y0 x1 c) t (0, 0))) : W.cell? ⟨g, 0, none⟩ = some (.int .i64 x0) ∧ W.cell? ⟨g, 1, none⟩ = some (.int .i64 y0) ∧ W.cell? ⟨g, 2, none⟩ = some (.int .i64 x1) := by
  rw [jC_eq] at h
  exact ⟨blk_cell h 0, blk_cell h 1, blk_cell h 2⟩
theorem jC_set0 {W : World} {g t : Nat} {x0 y0 x1 : Int} {c : Nat} (h : W.heap[g]? = some (.cells (jC x0 y0 x1 c) t (0, 0))) (x : Int) : (W.setCell ⟨g, 0, none⟩ (.int .i64 x)).heap[g]? = some (.cells (jC x y0 x1 c) t (0, 0)) := by
  rw [jC_eq] at h ⊢
  exact blk_set h (by simp)
theorem jC_set1 {W : World} {g t : Nat} {x0 y0 x1 : Int} {c : Nat} (h : W.heap[g]? = some (.cells (jC x0 y0 x1 c) t (0, 0))) (x : Int) : (W.setCell ⟨g, 1, none⟩ (.int .i64 x)).heap[g]? = some (.cells (jC x0 x x1 c) t (0, 0)) := by
  rw [jC_eq] at h ⊢
  exact blk_set h (by simp)
theorem jC_set2 {W : World} {g t : Nat} {x0 y0 x1 : Int} {c : Nat} (h : W.heap[g]? = some (.cells (jC x0 y0 x1 c) t (0, 0))) (x : Int) : (W.setCell ⟨g, 2, none⟩ (.int .i64 x)).heap[g]? = some (.cells (jC x0 y0 x c) t (0, 0)) := by
  rw [jC_eq] at h ⊢
  exact blk_set h (by simp)

theorem j_code {x0 x1 : Int} {t c : Nat} (hx0 : x0 = 6 ∨ x0 = 7) (hx1 : x1 = 0 ∨ x1 = 11) (ht : t < 2 + c) (hc : c ≤ 15) : codeMay (jP x0 t x1 c) = true := by
  unfold codeMay
  rw [jP_len, decide_eq_true (by omega), Bool.true_and, List.all_eq_true]
  intro x hx
  simp only [jP, List.mem_cons, List.mem_replicate] at hx
  rcases hx with rfl | rfl | ⟨_, rfl⟩
  · rcases hx0 with rfl | rfl <;> simp [insMay, isOpB, most, opBelow] <;> omega
  · rcases hx1 with rfl | rfl <;> simp [insMay, isOpB, most, opBelow]
  · simp [insMay, isOpB, most, opBelow]
theorem j_may {x0 x1 : Int} {t c : Nat} (hx0 : x0 = 6 ∨ x0 = 7) (hx1 : x1 = 0 ∨ x1 = 11) (ht : t < 2 + c) (hc : c ≤ 15) {pc acc : Int} (h0 : 0 ≤ pc) (h1 : pc < 2 + c) (ha : 0 ≤ acc) (ha1 : acc < 4294967296) : stepMay (jP x0 t x1 c) ⟨pc, acc, fun _ => 0⟩ 0 0 [] = true :=
  stepMay_of (j_code hx0 hx1 ht hc) (vmMay_of h0 (by rw [jP_len]; show pc < _; simp; omega) (isW_mk ha ha1) (fun _ => rfl)) rfl (by decide) (by decide) rfl
theorem j_step1 {t c : Nat} {acc : Int} (ht : t < 2 + c) (hc : c ≤ 15) (ha : 0 ≤ acc) (ha1 : acc < 4294967296) : stepAns (jP 6 t 0 c) ⟨0, acc, fun _ => 0⟩ 0 0 [] = (⟨t, acc, fun _ => 0⟩, quietE, 0) := by
  rw [step_ok 0 6 t (j_may (pc := 0) (acc := acc) (.inl rfl) (.inl rfl) ht hc (by decide) (by omega) ha ha1) rfl (by rw [jP_len]; omega) (by simp [insN, jP])]
  simp [doS]
theorem j_step2 {t c : Nat} (ht : t < 2 + c) (hc : c ≤ 15) : stepAns (jP 7 t 0 c) ⟨0, 0, fun _ => 0⟩ 0 0 [] = (⟨t, 0, fun _ => 0⟩, quietE, 0) := by
  rw [step_ok 0 7 t (j_may (pc := 0) (acc := 0) (.inr rfl) (.inl rfl) ht hc (by decide) (by omega) (by decide) (by decide)) rfl (by rw [jP_len]; omega) (by simp [insN, jP])]
  simp [doS]
theorem j_step3 {t c : Nat} (ht : t < 2 + c) (hc : c ≤ 15) : stepAns (jP 7 t 0 c) ⟨0, 1, fun _ => 0⟩ 0 0 [] = (⟨1, 1, fun _ => 0⟩, quietE, 0) := by
  rw [step_ok 0 7 t (j_may (pc := 0) (acc := 1) (.inr rfl) (.inl rfl) ht hc (by decide) (by omega) (by decide) (by decide)) rfl (by rw [jP_len]; omega) (by simp [insN, jP])]
  have h2 : (0 + 1) % (jP 7 t 0 c).length = 1 := by rw [jP_len]; exact Nat.mod_eq_of_lt (by omega)
  rw [h2]
  simp [doS]
theorem j_step4 {t c : Nat} (ht : t < 2 + c) (hc : c ≤ 15) : stepAns (jP 7 t 0 c) ⟨((1 + c : Nat) : Int), 3, fun _ => 0⟩ 0 0 [] = (⟨0, 3, fun _ => 0⟩, quietE, 0) := by
  have hi : insN (jP 7 t 0 c) (1 + c) = (0, 0) := by
    have : (jP 7 t 0 c)[1 + c]? = some (0, 0) := by
      cases c with
      | zero => rfl
      | succ c =>
        rw [show 1 + (c + 1) = c + 1 + 1 by omega]
        simp only [jP, List.getElem?_cons_succ]
        rw [List.getElem?_replicate, if_pos (by omega)]
    unfold insN
    rw [this]
    rfl
  rw [step_ok (1 + c) 0 0 (j_may (pc := ((1 + c : Nat) : Int)) (acc := 3) (.inr rfl) (.inl rfl) ht hc (Int.natCast_nonneg _) (by push_cast; omega) (by decide) (by decide)) rfl (by rw [jP_len]; omega) hi]
  have h2 : (1 + c + 1) % (jP 7 t 0 c).length = 0 := by rw [jP_len, show 1 + c + 1 = 2 + c by omega]; exact Nat.mod_self _
  rw [h2]
  simp [doS]
theorem j_step4b {t c : Nat} (ht : t < 2 + c) (hc : c ≤ 15) : stepAns (jP 7 t 0 c) ⟨1 + (c : Int), 3, fun _ => 0⟩ 0 0 [] = (⟨0, 3, fun _ => 0⟩, quietE, 0) := by
  have := j_step4 ht hc
  rw [show ((1 + c : Nat) : Int) = 1 + (c : Int) by omega] at this
  exact this
theorem j_step5 {t c : Nat} (ht : t < 2 + c) (hc : c ≤ 15) : stepAns (jP 7 t 11 c) ⟨1, 4, fun _ => 0⟩ 0 0 [] = (⟨0, 4, fun _ => 0⟩, quietE, 0) := by
  rw [step_ok 1 11 0 (j_may (pc := 1) (acc := 4) (.inr rfl) (.inr rfl) ht hc (by decide) (by omega) (by decide) (by decide)) rfl (by rw [jP_len]; omega) (by simp [insN, jP])]
  simp [doS]
#print axioms j_step5
theorem infoIns : ∃ i, Tryd.prog.info? 43 = some i ∧ i.zero = some (.agg #[.int .i64 0, .int .i64 0]) ∧ i.size = 2 ∧ i.bytes = 16 := by
  have h : (Tryd.prog.info? 43).map (fun i => (i.zero, i.size, i.bytes)) = some (some (.agg #[.int .i64 0, .int .i64 0]), 2, 16) := by kernel_rfl
  cases hq : Tryd.prog.info? 43 with
  | none => rw [hq] at h; cases h
  | some i =>
    rw [hq] at h
    simp only [Option.map_some, Option.some.injEq, Prod.mk.injEq] at h
    exact ⟨i, rfl, h.1, h.2.1, h.2.2⟩
theorem made_0 : madeCells (#[.int .i64 0, .int .i64 0] : Array Value) ((2 + 0) * 2) = jC 0 0 0 0 := by kernel_rfl
theorem made_1 : madeCells (#[.int .i64 0, .int .i64 0] : Array Value) ((2 + 1) * 2) = jC 0 0 0 1 := by kernel_rfl
theorem made_2 : madeCells (#[.int .i64 0, .int .i64 0] : Array Value) ((2 + 2) * 2) = jC 0 0 0 2 := by kernel_rfl
theorem made_3 : madeCells (#[.int .i64 0, .int .i64 0] : Array Value) ((2 + 3) * 2) = jC 0 0 0 3 := by kernel_rfl
theorem made_4 : madeCells (#[.int .i64 0, .int .i64 0] : Array Value) ((2 + 4) * 2) = jC 0 0 0 4 := by kernel_rfl
theorem made_5 : madeCells (#[.int .i64 0, .int .i64 0] : Array Value) ((2 + 5) * 2) = jC 0 0 0 5 := by kernel_rfl
theorem made_6 : madeCells (#[.int .i64 0, .int .i64 0] : Array Value) ((2 + 6) * 2) = jC 0 0 0 6 := by kernel_rfl
theorem made_7 : madeCells (#[.int .i64 0, .int .i64 0] : Array Value) ((2 + 7) * 2) = jC 0 0 0 7 := by kernel_rfl
theorem made_8 : madeCells (#[.int .i64 0, .int .i64 0] : Array Value) ((2 + 8) * 2) = jC 0 0 0 8 := by kernel_rfl
theorem made_9 : madeCells (#[.int .i64 0, .int .i64 0] : Array Value) ((2 + 9) * 2) = jC 0 0 0 9 := by kernel_rfl
theorem made_10 : madeCells (#[.int .i64 0, .int .i64 0] : Array Value) ((2 + 10) * 2) = jC 0 0 0 10 := by kernel_rfl
theorem made_11 : madeCells (#[.int .i64 0, .int .i64 0] : Array Value) ((2 + 11) * 2) = jC 0 0 0 11 := by kernel_rfl
theorem made_12 : madeCells (#[.int .i64 0, .int .i64 0] : Array Value) ((2 + 12) * 2) = jC 0 0 0 12 := by kernel_rfl
theorem made_13 : madeCells (#[.int .i64 0, .int .i64 0] : Array Value) ((2 + 13) * 2) = jC 0 0 0 13 := by kernel_rfl
theorem made_14 : madeCells (#[.int .i64 0, .int .i64 0] : Array Value) ((2 + 14) * 2) = jC 0 0 0 14 := by kernel_rfl
theorem made_15 : madeCells (#[.int .i64 0, .int .i64 0] : Array Value) ((2 + 15) * 2) = jC 0 0 0 15 := by kernel_rfl
theorem made_j (c : Nat) (hc : c ≤ 15) : madeCells (#[.int .i64 0, .int .i64 0] : Array Value) ((2 + c) * 2) = jC 0 0 0 c := by
  have : c = 0 ∨ c = 1 ∨ c = 2 ∨ c = 3 ∨ c = 4 ∨ c = 5 ∨ c = 6 ∨ c = 7 ∨ c = 8 ∨ c = 9 ∨ c = 10 ∨ c = 11 ∨ c = 12 ∨ c = 13 ∨ c = 14 ∨ c = 15 := by omega
  rcases this with rfl | rfl | rfl | rfl | rfl | rfl | rfl | rfl | rfl | rfl | rfl | rfl | rfl | rfl | rfl | rfl
  · exact made_0
  · exact made_1
  · exact made_2
  · exact made_3
  · exact made_4
  · exact made_5
  · exact made_6
  · exact made_7
  · exact made_8
  · exact made_9
  · exact made_10
  · exact made_11
  · exact made_12
  · exact made_13
  · exact made_14
  · exact made_15
theorem make_ins (c : Nat) (hc : c ≤ 15) (W : World) : (Instr.makeSlice 22 (.int .i64 (2 + (c : Int))) (.int .i64 (2 + (c : Int)))).run Tryd.prog W = .ok (.slice (some ⟨W.heap.size, 0, none⟩) (2 + c) (2 + c)) (W.alloc (.cells (jC 0 0 0 c) 43)) := by
  obtain ⟨i0, hi, hz0, hz1, hz2⟩ := infoIns
  have := run_make (P := Tryd.prog) W 22 43 i0 (.agg #[.int .i64 0, .int .i64 0]) Tryd.underlying22 hi hz0 .i64 .i64 (2 + (c : Int)) (2 + (c : Int)) (by omega) (Int.le_refl _) (by rw [hz2]; omega) (by omega)
  rw [hz1, show (2 + (c : Int)).toNat = 2 + c by omega] at this
  rw [this, show (Value.agg #[.int .i64 0, .int .i64 0]).cells = #[.int .i64 0, .int .i64 0] from rfl, made_j c hc]
#print axioms make_ins
end Go.Proofs.YthdpdnibgmjdaaaDoor
