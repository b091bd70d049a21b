/- A slice of whole numbers of the call's own, cell by cell; contracts of package supply's mark, sums and leastOf, proved over the translation. -/
import Derived.Test.YtgocfgjdafkjlabDoorFrm
import Derived.Test.YtgocfgjdafkjlabDoorSmath
import Derived.Lib.MinMax
namespace Go.Proofs.YtgocfgjdafkjlabDoor
open Go.RowKit
attribute [local go_sem] alloc_drewN setCell_drewN

/-- A block of K numbers that has been made since w: all of w is as it was. -/
structure Arr (w : World) (B K : Nat) (f : Nat → Int) (W : World) : Prop where
  grown : w.grownBy W none
  new : w.heap.size ≤ B
  size : B < W.heap.size
  cell : ∀ i, i < K → W.cell? ⟨B, i, none⟩ = some (.int .i64 (f i))
  free : ∀ i, i < K → W.frozen? ⟨B, i, none⟩ = false
theorem Arr.up {w W W' : World} {B K : Nat} {f : Nat → Int} (h : Arr w B K f W) (hg : W.grownBy W' none) : Arr w B K f W' := by
  have e := hg.block B h.size (by simp)
  exact ⟨grownBy_trans h.grown hg, h.new, Nat.lt_of_lt_of_le h.size hg.size, fun i hi => (World.cell?_of_block (a := ⟨B, i, none⟩) e).trans (h.cell i hi), fun i hi => (World.frozen?_of_block (a := ⟨B, i, none⟩) e).trans (h.free i hi)⟩
theorem Arr.set {w W : World} {B K : Nat} {f g : Nat → Int} (h : Arr w B K f W) (q : Nat) (x : Int) (hx : g q = x) (hg : ∀ i, i ≠ q → g i = f i) : Arr w B K g (W.setCell ⟨B, q, none⟩ (.int .i64 x)) where
  grown := grown_spoil h.grown h.new (grownBy_set W B q _)
  new := h.new
  size := by have := h.size; simpa [World.setCell] using this
  cell := fun i hi => by
    by_cases e : i = q
    · subst e
      rw [hx]
      exact World.cell?_setCell_same' _ _ _ (by rw [h.cell i hi]; rfl)
    · rw [other W B i q _ (fun e' => e e'.symm), hg i e]
      exact h.cell i hi
  free := fun i hi => by rw [World.frozen?_setCell]; exact h.free i hi
theorem Arr.congr {w W : World} {B K : Nat} {f g : Nat → Int} (h : Arr w B K f W) (e : ∀ i, i < K → f i = g i) : Arr w B K g W :=
  ⟨h.grown, h.new, h.size, fun i hi => by rw [← e i hi]; exact h.cell i hi, h.free⟩
theorem Arr.from {w w1 W : World} {B K : Nat} {f : Nat → Int} (h : Arr w1 B K f W) (hg : w.grownBy w1 none) : Arr w B K f W :=
  ⟨grownBy_trans hg h.grown, Nat.le_trans hg.size h.new, h.size, h.cell, h.free⟩

/-- mark: a one behind each of its ticks, so far, in both frames. -/
def markF (f : Nat → Int) (F a b : Nat) (i : Nat) : Int := if (a < i ∧ i ≤ b) ∨ (F + a < i ∧ i ≤ F + b) then 1 else f i
theorem markF_zero (f : Nat → Int) (F a : Nat) : markF f F a a = f := by
  funext i; unfold markF; rw [if_neg (by omega)]
set_option maxRecDepth 100000 in
set_option maxHeartbeats 2000000 in
theorem mark_any (F a b B K : Nat) (p : Int) (f : Nat → Int) (w W : World) (h : Arr w B K f W) (hK : K = 2 * F + 1) (hab : a ≤ b) (hbF : b ≤ F) (hF : F ≤ 256) :
    Calls Tryd.prog 23 #[.slice (some ⟨B, 0, none⟩) K K, .int .i64 F, .agg #[.int .i64 a, .int .i64 b, .int .i64 p]] W fun e W' => e = .returned (.tuple #[]) ∧ Arr w B K (markF f F a b) W' := by
  have HA := hide h
  have HBS := hide h.size
  clear h
  have HG0 := hide (World.grownBy_alloc W (.cells #[.int .i64 a, .int .i64 b, .int .i64 p] 36) none)
  have KEEP : Hid (∀ V, (W.alloc (.cells #[.int .i64 a, .int .i64 b, .int .i64 p] 36)).grownBy V (some B) → V.cell? ⟨W.heap.size, 0, none⟩ = some (.int .i64 a) ∧ V.cell? ⟨W.heap.size, 1, none⟩ = some (.int .i64 b)) := by
    intro V hV
    have b := fun k => World.cell?_of_block (a := ⟨W.heap.size, k, none⟩) (hV.block W.heap.size (by simp) (by have := HBS.out; simp; omega))
    exact ⟨(b 0).trans (by simp), (b 1).trans (by simp)⟩
  go_enter Tryd.func23, Tryd.ntmps23
  go_wp2
  go_loopw [6] (fun s V => ∃ (j : Nat), a ≤ j ∧ j ≤ b ∧ s = .int .i64 j ∧ Hid ((W.alloc (.cells #[.int .i64 a, .int .i64 b, .int .i64 p] 36)).grownBy V (some B)) ∧ Hid (Arr w B K (markF f F a j) V)) (fun s _ => b - (intOf s).toNat)
  case atStart => exact ⟨a, by omega, by omega, rfl, grownBy_refl _ _, by rw [markF_zero]; exact HA.out.up HG0.out⟩
  case round =>
    obtain ⟨j, h1, h2, rfl, HG, HR⟩ := hrel
    obtain ⟨k0, k1⟩ := KEEP.out wr HG.out
    by_cases hlt : j < b
    · have c1 := HR.out.cell (j + 1) (by omega)
      have c2 := HR.out.cell (F + j + 1) (by omega)
      have f1 := HR.out.free (j + 1) (by omega)
      have f2 := HR.out.free (F + j + 1) (by omega)
      have HN := hide (show Arr w B K (markF f F a (j + 1)) ((wr.setCell ⟨B, j + 1, none⟩ (.int .i64 1)).setCell ⟨B, F + j + 1, none⟩ (.int .i64 1)) from
        (HR.out.set (g := fun i => if i = j + 1 then 1 else markF f F a j i) (j + 1) 1 (by simp) (fun i hi => if_neg hi)).set (F + j + 1) 1 (by unfold markF; rw [if_pos]; omega) (fun i hi => by
          unfold markF
          by_cases e : i = j + 1
          · rw [if_pos (by omega), if_pos e]
          · rw [if_neg e]
            by_cases e2 : (a < i ∧ i ≤ j) ∨ (F + a < i ∧ i ≤ F + j)
            · rw [if_pos e2, if_pos (by omega)]
            · rw [if_neg e2, if_neg (by omega)]))
      have HG2 := hide (grownBy_trans HG.out (grownBy_trans (grownBy_set wr B (j + 1) (.int .i64 1)) (grownBy_set _ B (F + j + 1) (.int .i64 1))))
      have hne : j + 1 ≠ F + j + 1 := by omega
      go_wp2
      go_roundw
      case rel => exact ⟨j + 1, by omega, by omega, by go_num, HG2, HN⟩
      case measure => simp [intOf]; omega
    · have e : j = b := by omega
      go_wp2
      go_end0
      exact ⟨rfl, by rw [← e]; exact HR.out⟩
#print axioms mark_any
end Go.Proofs.YtgocfgjdafkjlabDoor
