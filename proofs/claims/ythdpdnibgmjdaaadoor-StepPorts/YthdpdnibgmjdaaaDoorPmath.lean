/- Ports: what a step answers, on numbers alone; a row of eight. -/
import Derived.Test.YthdpdnibgmjdaaaDoorFmath
namespace Go.Proofs.YthdpdnibgmjdaaaDoor
open Go.RowKit

def m5 (i : Nat) : Int := match i with | 2 => 5 | _ => 0
abbrev gC (f : Nat → Int) : Array Value := #[.int .i64 (f 0), .int .i64 (f 1), .int .i64 (f 2), .int .i64 (f 3), .int .i64 (f 4), .int .i64 (f 5), .int .i64 (f 6), .int .i64 (f 7)]
abbrev gL (f : Nat → Int) : List Int := [f 0, f 1, f 2, f 3, f 4, f 5, f 6, f 7]
theorem gL_at (f : Nat → Int) (n : Nat) (hn : n < 8) : (gL f)[n]? = some (f n) := by
  have : n = 0 ∨ n = 1 ∨ n = 2 ∨ n = 3 ∨ n = 4 ∨ n = 5 ∨ n = 6 ∨ n = 7 := by omega
  rcases this with rfl | rfl | rfl | rfl | rfl | rfl | rfl | rfl
  all_goals rfl
theorem gC_word {W : World} {g t : Nat} {f : Nat → Int} (h : W.heap[g]? = some (.cells (gC f) t (0, 0))) (n : Nat) (hn : n < 8) : W.cell? ⟨g, n, none⟩ = some (.int .i64 (f n)) := by
  have : n = 0 ∨ n = 1 ∨ n = 2 ∨ n = 3 ∨ n = 4 ∨ n = 5 ∨ n = 6 ∨ n = 7 := by omega
  rcases this with rfl | rfl | rfl | rfl | rfl | rfl | rfl | rfl
  all_goals exact blk_cell h _
theorem gC_store {W : World} {g t : Nat} {f : Nat → Int} (h : W.heap[g]? = some (.cells (gC f) t (0, 0))) (n : Nat) (hn : n < 8) (x : Int) : (W.setCell ⟨g, n, none⟩ (.int .i64 x)).heap[g]? = some (.cells (gC (upd f n x)) t (0, 0)) := by
  refine blk_set h ?_
  have : n = 0 ∨ n = 1 ∨ n = 2 ∨ n = 3 ∨ n = 4 ∨ n = 5 ∨ n = 6 ∨ n = 7 := by omega
  rcases this with rfl | rfl | rfl | rfl | rfl | rfl | rfl | rfl
  all_goals rfl
theorem gC_zero : (shN.cells (List.replicate 8 0)).toArray = gC (fun _ => 0) := rfl
theorem gC_same {f f' : Nat → Int} (h : ∀ i, i < 8 → f i = f' i) : gC f = gC f' := by
  unfold gC
  rw [h 0 (by decide), h 1 (by decide), h 2 (by decide), h 3 (by decide), h 4 (by decide), h 5 (by decide), h 6 (by decide), h 7 (by decide)]

abbrev gsF (k1 : Nat) (g : Int) : List Int := gL (upd (fun _ => -1) k1 g)
theorem gs_may {k1 : Nat} {g : Int} (hg0 : 0 ≤ g) (hg1 : g < 65536) : getsMay (gsF k1 g) = true := by
  have h : ∀ i, getMay (upd (fun _ => -1) k1 g i) = true := fun i => by
    unfold upd
    by_cases e : i = k1
    · rw [if_pos e]; unfold getMay; rw [isW_mk hg0 (by omega)]; simp
    · rw [if_neg e]; rfl
  unfold getsMay gsF gL
  simp [h]
theorem m5_in : ∀ i, isW (m5 i) = true := fun i => by
  unfold m5
  split <;> rfl
theorem p_code {k k1 : Nat} (hk : k < 8) (hk1 : k1 < 8) {op : Int} {n : Nat} (h : (op = 9 ∧ n = k) ∨ (op = 10 ∧ n = k) ∨ (op = 10 ∧ n = k1) ∨ (op = 8 ∧ n = 0)) : codeMay [(op, n), (0, 0)] = true := by
  rcases h with ⟨rfl, rfl⟩ | ⟨rfl, rfl⟩ | ⟨rfl, rfl⟩ | ⟨rfl, rfl⟩ <;> simp [codeMay, insMay, isOpB, most, opBelow] <;> omega
theorem p_may {k k1 : Nat} {o g x : Int} (hk : k < 8) (hk1 : k1 < 8) (ho0 : 0 ≤ o) (ho1 : o ≤ 255) (hg0 : 0 ≤ g) (hg1 : g < 65536) (hx0 : 0 ≤ x) (hx1 : x < 65536) {op : Int} {n : Nat} (h : (op = 9 ∧ n = k) ∨ (op = 10 ∧ n = k) ∨ (op = 10 ∧ n = k1) ∨ (op = 8 ∧ n = 0)) : stepMay [(op, (n : Int)), (0, 0)] ⟨0, 77, m5⟩ x o (gsF k1 g) = true :=
  stepMay_of (p_code hk hk1 h) (vmMay_of (by decide) (by show (0 : Int) < max ((2 : Nat) : Int) 1; decide) rfl m5_in) (isW_mk hx0 (by omega)) ho0 ho1 (gs_may hg0 hg1)
theorem p_out1 {k k1 : Nat} {o g x : Int} (hk : k < 8) (hk1 : k1 < 8) (ho0 : 0 ≤ o) (ho1 : o ≤ 255) (hg0 : 0 ≤ g) (hg1 : g < 65536) (hx0 : 0 ≤ x) (hx1 : x < 65536) (hb : o / 2 ^ k % 2 = 1) : stepAns [(9, (k : Int)), (0, 0)] ⟨0, 77, m5⟩ x o (gsF k1 g) = (⟨1, 77, m5⟩, ⟨false, k, -1, 77, false⟩, 0) := by
  rw [step_ok 0 9 k (p_may hk hk1 ho0 ho1 hg0 hg1 hx0 hx1 (.inl ⟨rfl, rfl⟩)) rfl (by simp) (by simp [insN])]
  simp [doS, bitB, hb]
theorem p_out0 {k k1 : Nat} {o g x : Int} (hk : k < 8) (hk1 : k1 < 8) (ho0 : 0 ≤ o) (ho1 : o ≤ 255) (hg0 : 0 ≤ g) (hg1 : g < 65536) (hx0 : 0 ≤ x) (hx1 : x < 65536) (hb : o / 2 ^ k % 2 = 0) : stepAns [(9, (k : Int)), (0, 0)] ⟨0, 77, m5⟩ x o (gsF k1 g) = (⟨0, 0, m5⟩, faultE, 0) := by
  rw [step_ok 0 9 k (p_may hk hk1 ho0 ho1 hg0 hg1 hx0 hx1 (.inl ⟨rfl, rfl⟩)) rfl (by simp) (by simp [insN])]
  simp [doS, bitB, hb, failS]
theorem p_get0 {k k1 : Nat} {o g x : Int} (hk : k < 8) (hk1 : k1 < 8) (hne : k1 ≠ k) (ho0 : 0 ≤ o) (ho1 : o ≤ 255) (hg0 : 0 ≤ g) (hg1 : g < 65536) (hx0 : 0 ≤ x) (hx1 : x < 65536) : stepAns [(10, (k : Int)), (0, 0)] ⟨0, 77, m5⟩ x o (gsF k1 g) = (⟨0, 0, m5⟩, faultE, 0) := by
  rw [step_ok 0 10 k (p_may hk hk1 ho0 ho1 hg0 hg1 hx0 hx1 (.inr (.inl ⟨rfl, rfl⟩))) rfl (by simp) (by simp [insN])]
  have h : gotO (gsF k1 g) k = none := by
    unfold gotO
    rw [gL_at _ k hk, upd_else _ _ (fun e => hne e.symm)]
    rfl
  simp [doS, h, failS]
theorem p_get1 {k k1 : Nat} {o g x : Int} (hk : k < 8) (hk1 : k1 < 8) (ho0 : 0 ≤ o) (ho1 : o ≤ 255) (hg0 : 0 ≤ g) (hg1 : g < 65536) (hx0 : 0 ≤ x) (hx1 : x < 65536) : stepAns [(10, (k1 : Int)), (0, 0)] ⟨0, 77, m5⟩ x o (gsF k1 g) = (⟨1, g, m5⟩, ⟨false, -1, k1, 0, false⟩, 0) := by
  rw [step_ok 0 10 k1 (p_may hk hk1 ho0 ho1 hg0 hg1 hx0 hx1 (.inr (.inr (.inl ⟨rfl, rfl⟩)))) rfl (by simp) (by simp [insN])]
  have h : gotO (gsF k1 g) k1 = some g := by
    unfold gotO
    rw [gL_at _ k1 hk1, upd_same]
    simp only
    rw [if_neg (by omega)]
  simp [doS, h]
theorem p_in {o x : Int} (ho0 : 0 ≤ o) (ho1 : o ≤ 255) (hx0 : 0 ≤ x) (hx1 : x < 65536) : stepAns [(8, 0), (0, 0)] ⟨0, 77, m5⟩ x o [] = (⟨1, x, m5⟩, ⟨true, -1, -1, 0, false⟩, 0) := by
  have hm : stepMay [((8 : Int), (0 : Int)), (0, 0)] ⟨0, 77, m5⟩ x o [] = true :=
    stepMay_of (by kernel_rfl) (vmMay_of (by decide) (by show (0 : Int) < max ((2 : Nat) : Int) 1; decide) rfl m5_in) (isW_mk hx0 (by omega)) ho0 ho1 rfl
  rw [step_ok 0 8 0 hm rfl (by simp) (by simp [insN])]
  simp [doS]
#print axioms p_in
end Go.Proofs.YthdpdnibgmjdaaaDoor
