/- The walk of the law RingActs: for every size and every row of calls it answers true and turns nothing that was there. -/
import Derived.Test.YtkdemmbcdfcbjaaAwake
import Derived.Deep.DeepFit
namespace Go.Proofs.Ytkdemmbcdfcbjaa
open Go.RowKit
attribute [local go_sem] alloc_drewN setCell_drewN

theorem grown_spoil {w w1 w2 : World} {g : Nat} (h : w.grownBy w1 none) (hg : w.heap.size ≤ g) (h' : w1.grownBy w2 (some g)) : w.grownBy w2 none :=
  ⟨h'.os.trans h.os, h'.tape.trans h.tape, h'.output.trans h.output, Nat.le_trans h.size h'.size, fun k hk _ => (h'.block k (Nat.lt_of_lt_of_le hk h.size) (by simp; omega)).trans (h.block k hk (by simp))⟩
theorem RefIs.below {W W' : World} {b k : Nat} {row : List Int} (h : RefIs W b k row) (hg : W.grownBy W' none) : RefIs W' b k row := by
  obtain ⟨h1, h2, v, hv⟩ := h
  exact ⟨h1, h2, v, hv.below hg⟩

set_option maxRecDepth 100000 in
set_option maxHeartbeats 400000 in
theorem acts_no (l : Int) (h : l < 1 ∨ 64 < l) (a : Option Addr) (len cap : Nat) (w : World) :
    Calls Try.prog 3 #[.int .i64 l, .slice a len cap] w fun e w' => e = .returned (.bool true) ∧ Below w.heap.size w w' := by
  have C1 := hide (fun w => new_no l h w)
  have C2 := hide (fun w => rnew_no l h w)
  clear h
  go_enter Try.func3, Try.ntmps3
  go_wp2_with (first | (go_at_call 7; refine (C1.out _).mono ?_; rintro e w' ⟨rfl, rfl⟩) | (go_at_call 8; refine (C2.out _).mono ?_; rintro e w' ⟨rfl, rfl⟩) | (go_at_call 9; refine (num_any _ _).mono ?_; rintro e w' ⟨rfl, rfl⟩) | (go_at_call 10; refine (awake_any _).mono ?_; rintro e w1 ⟨rfl, hb⟩))
  go_ret
  exact ⟨rfl, hb⟩

/-- The two rings of the law in the world W: package ring's at block N, the document's behind it, both of size k and of one row; below N all is as it was in w. -/
structure Two (w W : World) (N k : Nat) (row : List Int) : Prop where
  ring : RingAt W N k row
  ref : RefIs W (N + 1) k row
  below : Below N w W

theorem Two.step {w W W1 W2 : World} {N k : Nat} {row row' : List Int} (h : Two w W N k row) (hR : RingAt W1 N k row') (hg : W.grownBy W1 (some N)) (hF : RefIs W2 (N + 1) k row') (hB : Below (N + 1) W1 W2) : Two w W2 N k row' :=
  ⟨hR.below hB (by omega), hF, (h.below.grown hg (Nat.le_of_lt h.ring.lt) (fun k hk => by cases hk; exact Nat.le_refl _)).trans (hB.mono (by omega))⟩
theorem Two.mid {w W W1 : World} {N k : Nat} {row : List Int} (h : Two w W N k row) (hg : W.grownBy W1 (some N)) : RefIs W1 (N + 1) k row := h.ref.grown hg (by omega)
theorem Two.tail {w W W1 : World} {N k : Nat} {row : List Int} (h : Two w W N k row) (hg : W.grownBy W1 none) : Two w W1 N k row :=
  ⟨h.ring.grown hg (by simp), h.ref.below hg, h.below.grown hg (Nat.le_of_lt h.ring.lt) (fun k hk => by cases hk)⟩

set_option maxRecDepth 100000 in
set_option maxHeartbeats 400000 in
theorem acts_none (k : Nat) (h : 1 ≤ k) (h' : k ≤ 64) (a : Option Addr) (cap : Nat) (w : World) :
    Calls Try.prog 3 #[.int .i64 k, .slice a 0 cap] w fun e w' => e = .returned (.bool true) ∧ Below w.heap.size w w' := by
  go_enter Try.func3, Try.ntmps3
  go_wp2_with (first | fail)
  refine (new_ring k h h' w).mono ?_; rintro e w1 ⟨rfl, -, g1, -⟩
  go_wp2_with (first | fail)
  refine (rnew_ok k h h' w1).mono ?_; rintro e w2 ⟨rfl, -, g2, -⟩
  have hB := hide ((below_of_grown g1).trans ((below_of_grown g2).mono g1.size))
  clear g1 g2
  go_wp2_with (first | (go_at_call 9; refine (num_any _ _).mono ?_; rintro e w' ⟨rfl, rfl⟩))
  go_loop [9] (fun i => i = .int .i64 0) (fun _ => 0)
  case atStart => rfl
  case round =>
    subst hrel
    go_wp2_with (go_at_call 10; refine (awake_any _).mono ?_; rintro e w1 ⟨rfl, hb⟩)
    go_ret
    exact ⟨rfl, hB.out.trans (hb.mono hB.out.size)⟩

set_option maxRecDepth 100000 in
set_option maxHeartbeats 10000000 in
theorem acts_row (k : Nat) (h : 1 ≤ k) (h' : k ≤ 64) (b off len cap : Nat) (zs : List Int) (hm : len ≤ 9223372036854775807) (w : World) (hbw : b < w.heap.size)
    (hc : ∀ k, k < len → w.cell? ⟨b, off + k, none⟩ = some (.int .i64 (zs[k]?.getD 0))) :
    Calls Try.prog 3 #[.int .i64 k, .slice (some ⟨b, off, none⟩) len cap] w fun e w' => e = .returned (.bool true) ∧ Below w.heap.size w w' := by
  have HC := hide hc
  clear hc
  go_enter Try.func3, Try.ntmps3
  go_wp2_with (first | fail)
  refine (new_ring k h h' w).mono ?_; rintro e w1 ⟨rfl, r1, g1, s1⟩
  go_wp2_with (first | fail)
  refine (rnew_ok k h h' w1).mono ?_; rintro e w2 ⟨rfl, r2, g2, s2⟩
  rw [s1] at r2 ⊢
  have hT : Two w w2 w.heap.size k [] := ⟨r1.grown g2 (by simp), ⟨by simp, h', _, r2⟩, (below_of_grown g1).trans ((below_of_grown g2).mono (by omega))⟩
  clear r1 g1 s1 r2 g2 s2
  go_wp2_with (first | (go_at_call 9; refine (num_any _ _).mono ?_; rintro e w' ⟨rfl, rfl⟩))
  go_loopw [9] (fun i W => ∃ (j : Nat) (row : List Int), j ≤ len ∧ j ≤ 100 ∧ i = .int .i64 j ∧ Two w W w.heap.size k row) (fun i _ => 100 - (intOf i).toNat)
  case atStart => exact ⟨0, [], by omega, by omega, rfl, hT⟩
  case round =>
    obtain ⟨j, row, hj, hj', rfl, hT⟩ := hrel
    by_cases h4 : j < len
    · by_cases h5 : j < 100
      · have hcell : _ = _ := (hT.below.cell (p := ⟨b, off + j, none⟩) hbw).trans (HC.out j h4)
        generalize zs[j]?.getD 0 = z at hcell
        go_wp2_with (first
          | (go_at_call 11; refine (push_any _ k row z h _ hT.ring).mono ?_; rintro e W1 ⟨rfl, hR, hg, -⟩; have hM := hT.mid hg)
          | (go_at_call 12; refine (rpush_any _ k row z h _ hM).mono ?_; rintro e W2 ⟨rfl, hF, hB⟩; have hT2 := hT.step hR hg hF hB)
          | (go_at_call 13; refine (offer_any _ k row z _ hT.ring).mono ?_; rintro e W1 ⟨rfl, hR, hg, -⟩; have hM := hT.mid hg)
          | (go_at_call 14; refine (roffer_any _ k row z _ hM).mono ?_; rintro e W2 ⟨rfl, hF, hB⟩; have hT2 := hT.step hR hg hF hB)
          | (go_at_call 15; refine (pop_any _ k row _ hT.ring).mono ?_; rintro e W1 ⟨rfl, hR, hg, -⟩; have hM := hT.mid hg)
          | (go_at_call 16; refine (rpop_any _ k row _ hM).mono ?_; rintro e W2 ⟨rfl, hF, hB⟩; have hT2 := hT.step hR hg hF hB)
          | (go_at_call 17; refine (all_any _ k _ _ hT2.ring).mono ?_; rintro e W3 ⟨rfl, hO, hg3⟩; obtain ⟨q1, q2, v, hv⟩ := hT2.ref; obtain ⟨a', cap', rfl⟩ := own_form hv.own; have hv3 := hv.below hg3; have c1 := hv3.all; have Q1 := hide q1; clear q1 q2)
          | (go_at_call 18; refine (same_any _ _ _ (by have := Q1.out; omega) _ (reads_own hO) (reads_own hv3.own)).mono ?_; rintro e W4 ⟨rfl, n4, rfl⟩)
          | (go_at_call 19; refine (spoil_any _ _ _ _ (by have := Q1.out; omega) _ (own_draws hO n4)).mono ?_; rintro e W5 ⟨rfl, hg5, -⟩; have hT3 := hT2.tail (grown_spoil (grownBy_trans hg3 (grownBy_draws _ n4 _)) (Nat.le_refl _) hg5)))
        all_goals
          go_roundw
          case rel => exact ⟨j + 1, _, by omega, by omega, by go_num, hT3⟩
          case measure => simp [intOf]; omega
      · go_wp2_with (first | fail)
        refine (awake_any _).mono ?_; rintro e w1 ⟨rfl, hb⟩
        go_wp2
        go_ret
        exact ⟨rfl, hT.below.trans (hb.mono hT.below.size)⟩
    · go_wp2_with (first | fail)
      refine (awake_any _).mono ?_; rintro e w1 ⟨rfl, hb⟩
      go_wp2
      go_ret
      exact ⟨rfl, hT.below.trans (hb.mono hT.below.size)⟩
#print axioms acts_row
end Go.Proofs.Ytkdemmbcdfcbjaa
