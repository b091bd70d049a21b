/- Bytes of a text, two by two, and append's law at a step of a region that draws. -/
import Derived.Test.YtdgdoiigcdlpaaaDoorPut
import Derived.Deep.RegionHeld3
namespace Go.Proofs.YtdgdoiigcdlpaaaDoor
open Go.RowKit
attribute [local go_sem] alloc_drewN setCell_drewN
attribute [local go_sem ↓] Go.wp_at_zero Go.wp_at_succ

/-- The bytes of a text, as numbers. -/
def nums (s : ByteArray) : List Int := s.data.toList.map fun b => (b.toNat : Int)
theorem nums_length (s : ByteArray) : (nums s).length = s.size := by
  unfold nums
  rw [List.length_map, Array.length_toList]
  rfl
/-- Two by two. -/
def pairs : List Int → List Ins
  | a :: b :: r => (a, b) :: pairs r
  | _ => []
theorem pairs_length : ∀ l : List Int, (pairs l).length = l.length / 2
  | [] => rfl
  | [_] => by simp [pairs]
  | a :: b :: r => by simp only [pairs, List.length_cons, pairs_length r]; omega
theorem pairs_get : ∀ (l : List Int) (k : Nat), k < l.length / 2 → (pairs l)[k]?.getD (0, 0) = (l[2 * k]?.getD 0, l[2 * k + 1]?.getD 0)
  | [], k, h => by simp at h
  | [_], k, h => by simp at h
  | a :: b :: r, 0, _ => by simp [pairs]
  | a :: b :: r, k + 1, h => by
    have h2 := pairs_get r k (by simp only [List.length_cons] at h; omega)
    simp only [pairs, List.getElem?_cons_succ, show 2 * (k + 1) = 2 * k + 1 + 1 by omega]
    exact h2
theorem pairs_flat : ∀ zs : List Ins, pairs (flat zs) = zs
  | [] => rfl
  | z :: zs => by
    have := pairs_flat zs
    simp only [flat, List.flatMap_cons, List.cons_append, List.nil_append, pairs] at this ⊢
    rw [this]
theorem flat_pairs : ∀ l : List Int, l.length % 2 = 0 → flat (pairs l) = l
  | [], _ => rfl
  | [_], h => by simp at h
  | a :: b :: r, h => by
    have := flat_pairs r (by simp only [List.length_cons] at h; omega)
    simp only [flat, pairs, List.flatMap_cons, List.cons_append, List.nil_append] at this ⊢
    rw [this]
theorem pairs_step (l : List Int) (j : Nat) (h : j < l.length / 2) : (pairs l).take (j + 1) = (pairs l).take j ++ [(l[2 * j]?.getD 0, l[2 * j + 1]?.getD 0)] := by
  have hj : j < (pairs l).length := by rw [pairs_length]; exact h
  rw [List.take_succ_eq_append_getElem hj, ← pairs_get l j h, List.getElem?_eq_getElem hj]
  rfl
/-- Are they just a program's bytes? -/
def getMay (s : ByteArray) : Bool := decide (s.size % 2 = 0) && codeMay (pairs (nums s))
/-- What Get answers. -/
def getL (s : ByteArray) : List Ins := if getMay s = true then pairs (nums s) else []

theorem index_at (s : ByteArray) (k : Nat) (hk : k < s.size) (W : World) : (Instr.index 9 (.string s) (.int .i64 k)).run Tryd.prog W = .ok (.int .u8 ((nums s)[k]?.getD 0)) W := by
  rw [run_index_string W 9 s .i64 k Tryd.underlying9, dif_pos (by omega)]
  congr 2
  have : k < s.data.size := hk
  rw [nums, List.getElem?_map, Array.getElem?_toList, Array.getElem?_eq_getElem this]
  rfl

/-- append of instructions, at a step of a region that draws. -/
theorem step_ins {ops : Array Oper} {o : Oper} {a : Act} {K : Act → World → Prop} {Q : Exit → Act → World → Prop} {E : Prop} (w : World) (hgd : o.guard = none) (s x : Operand)
    (ho : o.op = .call { callee := .builtin .append, args := #[s, x], argTypes := #[22, 22] })
    (base : Nat) (v : Value) (n : Nat) (xs : List Ins) (hs : a.eval s = v) (hown : w.ownsRow base 39 2 v n (cells2 xs))
    (ad : Addr) (m c : Nat) (ys : List Ins) (hx : a.eval x = .slice (some ad) m c) (hl : ys.length = m) (hcells : ∀ j, j < m → w.cell? (ad.add (j * 2)) = some (.int .i64 (ys[j]?.getD (0, 0)).1) ∧ w.cell? (ad.add (j * 2 + 1)) = some (.int .i64 (ys[j]?.getD (0, 0)).2))
    (hm : 0 < m) (hlim : n + m ≤ 8796093022208) (hbase : base ≤ w.heap.size)
    (h : ∀ g cap' w', w'.ownsRow base 39 2 (.slice (some ⟨g, 0, none⟩) (n + m) cap') (n + m) (cells2 (xs ++ ys)) → w.grownBy w' v.ownBlock → K (a.put o.dst (.slice (some ⟨g, 0, none⟩) (n + m) cap')) w') :
    if Region.wanted o (yielded ops a.tmps) = true then Oper.wp Tryd.prog o a w K Q else E := by
  obtain ⟨i0, hi, hz0, hz1, hz2⟩ := info_parts infoIns
  refine step_append_lies w hgd s x 22 ho base 39 i0 (.agg #[.int .i64 0, .int .i64 0]) 2 16 Tryd.underlying22 hi hz0 hz1 hz2 rfl (by decide) v n (cells2 xs) hs hown ad m c (cells2 ys) hx (by rw [cells2_length, hl]) ?_ (cells2_one ys) hm (by unfold maxLen; omega) (by omega) hbase _ rfl ?_
  · intro j u hu
    obtain ⟨hj, ⟨e, rfl⟩ | ⟨e, rfl⟩⟩ := cells2_at hu
    · rw [e, Nat.mul_div_cancel _ (by decide)]
      exact (hcells (j / 2) (by omega)).1
    · have h2 := (hcells (j / 2) (by omega)).2
      rwa [← e] at h2
  · intro g cap' w' hown' hgrow _ _
    refine h g cap' w' ?_ hgrow
    rw [cells2_append]
    exact hown'
#print axioms step_ins
end Go.Proofs.YtdgdoiigcdlpaaaDoor
