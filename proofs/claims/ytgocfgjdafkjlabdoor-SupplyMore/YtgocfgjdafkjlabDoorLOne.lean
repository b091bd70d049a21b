/- The walk of the statement SupplyOne: one window a frame; proved over the translation. -/
import Derived.Test.YtgocfgjdafkjlabDoorAw7
import Derived.Test.YtgocfgjdafkjlabDoorLCnt0
import Derived.Test.YtgocfgjdafkjlabDoorSmath2
namespace Go.Proofs.YtgocfgjdafkjlabDoor.P7
open Go.RowKit
attribute [local go_sem] alloc_drewN setCell_drewN

theorem and7 (z : Int) : ∃ c : Nat, c ≤ 127 ∧ bits .and .i64 z 127 = (c : Int) := ⟨(z % 128).toNat, by omega, by rw [and_low z 7 (by decide) 127 (by decide)]; omega⟩
theorem umod (z m : Int) (hm : 0 < m) : ∃ c : Nat, (c : Int) < m ∧ (IntKind.u64.wrap z).tmod m = (c : Int) := by
  have h0 : 0 ≤ IntKind.u64.wrap z := by rw [IntKind.wrap_u64]; omega
  rw [Int.tmod_eq_emod_of_nonneg h0]
  have h1 := Int.emod_lt_of_pos (IntKind.u64.wrap z) hm
  have h2 := Int.emod_nonneg (IntKind.u64.wrap z) (show m ≠ 0 by omega)
  exact ⟨(IntKind.u64.wrap z % m).toNat, by omega, by omega⟩
/-- The configuration of one window, as the walk writes it. -/
def oneW (c d a : Nat) : ConfV := ⟨2 + (c : Int), 1, [⟨1, [], []⟩], [⟨a, (a : Int) + (1 + d), 0⟩], []⟩
theorem oneW_eq (c d a : Nat) : oneW c d a = oneC (c + 2) a (d + 1) := by
  unfold oneW oneC
  rw [show (2 + (c : Int)) = ((c + 2 : Nat) : Int) by omega, show ((a : Int) + (1 + d)) = (a : Int) + ((d + 1 : Nat) : Int) by omega]
theorem oneW_at {W : World} {n c d a : Nat} (h0 : W.heap[n]? = some (.cells #[.int .i64 1, .slice none 0 0, .slice none 0 0] 42 (0, 0))) (h1 : W.heap[n + 1]? = some (.cells #[.int .i64 a, .int .i64 ((a : Int) + (1 + d)), .int .i64 0] 36 (0, 0))) :
    ConfAt 0 W (.agg #[.int .i64 (2 + (c : Int)), .int .i64 1, .slice (some ⟨n, 0, none⟩) 1 1, .slice (some ⟨n + 1, 0, none⟩) 1 1, .slice none 0 0]) (oneW c d a) := by
  refine ⟨_, _, _, rfl, ⟨[⟨1, none, 0, 0, none, 0, 0⟩], rfl, row_blk (S := shP) [_] rfl (by simp) h0 0 (by omega), ?_⟩, row_blk (S := shW) [⟨a, (a : Int) + (1 + d), 0⟩] rfl (by simp) h1 0 (by omega), rowAt_nil _ _ _ _⟩
  intro i q p hq hp
  match i, hq, hp with
  | 0, hq, hp =>
    simp only [List.getElem?_cons_zero, Option.some.injEq] at hq hp
    have hp : (⟨1, [], []⟩ : PartV) = p := by simpa [oneW] using hp
    subst hq hp
    exact ⟨rfl, rowAt_nil _ _ _ _, rowAt_nil _ _ _ _⟩
  | k + 1, hq, _ => simp at hq

set_option maxRecDepth 100000 in
set_option maxHeartbeats 2000000 in
theorem supplyOne_any (x0 x1 x2 x3 : Int) (w : World) (hT : Tab w) :
    Calls Tryd.prog 5 #[.int .i64 x0, .int .i64 x1, .int .i64 x2, .int .i64 x3] w fun e w' => e = .returned (.bool true) ∧ w.grownBy w' none := by
  have HT := hide hT
  clear hT
  have NUM := hide num_any
  obtain ⟨c, hc, hc2⟩ := and7 x0
  go_enter Tryd.func5, Tryd.ntmps5
  go_wp2_with (first | fail)
  refine (awake_any w HT.out).mono ?_; rintro e w0 ⟨rfl, hg⟩
  have G0 := hide hg
  clear hg
  obtain ⟨d, hd, hd2⟩ := umod x2 (2 + (c : Int)) (by omega)
  obtain ⟨a, ha, ha2⟩ := umod x1 (2 + (c : Int) - (1 + (d : Int)) + 1) (by omega)
  obtain ⟨k, hk, hk2⟩ := umod x3 (2 + (c : Int) + 1) (by omega)
  have HAN := one_answer (f := c + 2) (a := a) (s := d + 1) (k := k) (by omega) (by omega) (by omega) (by omega) (by omega)
  rw [← oneW_eq] at HAN
  have HV := hide (HAN.1.trans (show _ = max 0 ((k : Int) - (2 + (c : Int) - (1 + (d : Int)))) by congr 1; omega))
  have HE := hide HAN.2
  clear HAN
  go_upto_region 7 with fail
  generalize hw3 : ((w0.alloc (.cells #[.int .i64 1, .slice none 0 0, .slice none 0 0] 42)).alloc (.cells #[.int .i64 a, .int .i64 ((a : Int) + (1 + (d : Int))), .int .i64 0] 36)).alloc (.cells #[.int .i64 (2 + (c : Int)), .int .i64 1, .slice (some ⟨w0.heap.size, 0, none⟩) 1 1, .slice (some ⟨w0.heap.size + 1, 0, none⟩) 1 1, .slice none 0 0] 30) = w3
  have G3 := hide (show w0.grownBy w3 none by rw [← hw3]; exact grownBy_trans (World.grownBy_alloc _ _ _) (grownBy_trans (World.grownBy_alloc _ _ _) (World.grownBy_alloc _ _ _)))
  have B0 := hide (show w3.heap[w0.heap.size]? = some (.cells #[.int .i64 1, .slice none 0 0, .slice none 0 0] 42 (0, 0)) by rw [← hw3]; exact heap_up _ _ _ _ (heap_up _ _ _ _ (heap_at _ _ _ rfl)))
  have B1 := hide (show w3.heap[w0.heap.size + 1]? = some (.cells #[.int .i64 a, .int .i64 ((a : Int) + (1 + (d : Int))), .int .i64 0] 36 (0, 0)) by rw [← hw3]; exact heap_up _ _ _ _ (heap_at _ _ _ (by simp)))
  have B2 := hide (show w3.heap[w0.heap.size + 1 + 1]? = some (.cells #[.int .i64 (2 + (c : Int)), .int .i64 1, .slice (some ⟨w0.heap.size, 0, none⟩) 1 1, .slice (some ⟨w0.heap.size + 1, 0, none⟩) 1 1, .slice none 0 0] 30 (0, 0)) by rw [← hw3]; exact heap_at _ _ _ (by simp))
  clear hw3
  have k0 : w3.cell? ⟨w0.heap.size + 1 + 1, 0, none⟩ = some (.int .i64 (2 + (c : Int))) := blk_cell B2.out 0
  have k1 : w3.cell? ⟨w0.heap.size + 1 + 1, 1, none⟩ = some (.int .i64 1) := blk_cell B2.out 1
  have k2 : w3.cell? ⟨w0.heap.size + 1 + 1, 2, none⟩ = some (.slice (some ⟨w0.heap.size, 0, none⟩) 1 1) := blk_cell B2.out 2
  have k3 : w3.cell? ⟨w0.heap.size + 1 + 1, 3, none⟩ = some (.slice (some ⟨w0.heap.size + 1, 0, none⟩) 1 1) := blk_cell B2.out 3
  have k4 : w3.cell? ⟨w0.heap.size + 1 + 1, 4, none⟩ = some (.slice none 0 0) := blk_cell B2.out 4
  go_wp2_with (first | fail)
  refine (least_any _ (oneW c d a) 0 k _ (HT.out.grown (grownBy_trans G0.out G3.out)) (oneW_at B0.out B1.out)).mono ?_; rintro e w4 ⟨rfl, hg⟩
  rw [HV.out, HE.out]
  have G4 := hide (grownBy_trans G0.out (grownBy_trans G3.out hg))
  clear hg k0 k1 k2 k3 k4
  go_wp2_with (go_at_call 9; refine (NUM.out _ _).mono ?_; rintro e w' ⟨rfl, rfl⟩)
  go_ret
  exact ⟨rfl, G4.out⟩
#print axioms supplyOne_any
end Go.Proofs.YtgocfgjdafkjlabDoor.P7
