/- The walk of the law RingKeeps: for every size and every row of numbers it answers true and turns nothing that was there. -/
import Derived.Test.YtkdemmbcdfcbjaaAwake
import Derived.Deep.DeepFit
import Derived.Lib.MinMax
namespace Go.Proofs.Ytkdemmbcdfcbjaa
open Go.RowKit
attribute [local go_sem] alloc_drewN setCell_drewN
attribute [local go_sem ↓] Go.wp_at_zero Go.wp_at_succ

theorem size_of (l : Int) : ∃ k : Nat, 1 ≤ k ∧ k ≤ 64 ∧ wrap64 (1 + wrap64 ((IntKind.u64.wrap l).tmod 64)) = (k : Int) := by
  rw [IntKind.wrap_u64, Int.tmod_eq_emod_of_nonneg (by omega)]
  refine ⟨(1 + l % 18446744073709551616 % 64).toNat, by omega, by omega, ?_⟩
  unfold wrap64
  omega

/-- Of the first j numbers the last ones, k at most. -/
def lastOf (k : Nat) (zs : List Int) (j : Nat) : List Int := (zs.take j).drop (j - k)
theorem lastOf_length (k : Nat) (zs : List Int) (j : Nat) (h : j ≤ zs.length) : (lastOf k zs j).length = j - (j - k) := by simp [lastOf]; omega
theorem lastOf_get (k : Nat) (zs : List Int) (j i : Nat) (hi : j - k + i < j) : (lastOf k zs j)[i]?.getD 0 = zs[j - k + i]?.getD 0 := by
  simp only [lastOf, List.getElem?_drop, List.getElem?_take, if_pos hi]
theorem lastOf_room (k : Nat) (zs : List Int) (j : Nat) (h : j < zs.length) (hk : j < k) : lastOf k zs j ++ [zs[j]?.getD 0] = lastOf k zs (j + 1) := by
  simp only [lastOf, show j - k = 0 by omega, show j + 1 - k = 0 by omega, List.drop_zero]
  rw [List.take_succ_eq_append_getElem h, List.getElem?_eq_getElem h]
  rfl
theorem lastOf_full (k : Nat) (zs : List Int) (j : Nat) (h : j < zs.length) (hk : k ≤ j) (hk0 : 0 < k) : popped (lastOf k zs j) ++ [zs[j]?.getD 0] = lastOf k zs (j + 1) := by
  have e : (zs.take j).length = j := by simp; omega
  simp only [lastOf, popped, List.tail_drop]
  rw [List.take_succ_eq_append_getElem h, List.getElem?_eq_getElem h, show j + 1 - k = j - k + 1 by omega, List.drop_append_of_le_length (by omega)]
  rfl
theorem lastOf_head (k : Nat) (zs : List Int) (j : Nat) (hk : k ≤ j) (hk0 : 0 < k) : popOut (lastOf k zs j) = zs[j - k]?.getD 0 := by
  rw [popOut, lastOf_get k zs j 0 (by omega)]; rfl

theorem reads_at {W : World} {b o n c : Nat} {row : List Int} (hr : row.length = n) (hc : ∀ i, i < n → W.cell? ⟨b, o + i, none⟩ = some (.int .i64 (row[i]?.getD 0))) : Reads W (.slice (some ⟨b, o, none⟩) n c) row := by
  subst hr
  exact ⟨_, c, rfl, fun _ => ⟨b, o, rfl, hc⟩⟩
theorem all_len (b k n : Nat) (row : List Int) (hn : row.length = n) (w : World) (h : RingAt w b k row) :
    Calls Try.prog 17 #[.pointer (some ⟨b, 0, none⟩)] w fun e w' => e = .returned (.slice (some ⟨w.heap.size, 0, none⟩) n n) ∧ Reads w' (.slice (some ⟨w.heap.size, 0, none⟩) n n) row ∧ w.grownBy w' none := by
  subst hn
  exact (all_any b k row w h).mono fun _ _ ⟨he, ho, hg⟩ => ⟨he, reads_own ho, hg⟩
theorem RingAt.same {W : World} {b k : Nat} {row row' : List Int} (h : RingAt W b k row) (e : row = row') : RingAt W b k row' := e ▸ h

set_option maxRecDepth 100000 in
set_option maxHeartbeats 4000000 in
theorem keeps_row (l : Int) (b off len cap : Nat) (zs : List Int) (hn : 0 < cap) (hlen : len ≤ zs.length) (hcap : len ≤ cap) (hm : cap ≤ 9223372036854775807) (w : World) (hbw : b < w.heap.size)
    (hc : ∀ k, k < len → w.cell? ⟨b, off + k, none⟩ = some (.int .i64 (zs[k]?.getD 0))) :
    Calls Try.prog 4 #[.int .i64 l, .slice (some ⟨b, off, none⟩) len cap] w fun e w' => e = .returned (.bool true) ∧ Below w.heap.size w w' := by
  have HC := hide hc
  clear hc
  go_enter Try.func4, Try.ntmps4
  go_wp2_with (first | fail)
  refine (awake_any _).mono ?_; rintro e w1 ⟨rfl, hb⟩
  go_wp2_with (first | fail)
  obtain ⟨k, hk, hk', ek⟩ := size_of l
  rw [ek]
  clear ek
  generalize (IntKind.u64.wrap l).tmod 64 = m
  refine (new_ring k hk hk' w1).mono ?_; rintro e w2 ⟨rfl, r2, g2, -⟩
  have hb2 := grown_below0 hb g2 hb.size
  have hN := hb.size
  clear hb g2
  go_wp2_with (first | (go_at_call 9; refine (num_any _ _).mono ?_; rintro e w' ⟨rfl, rfl⟩))
  go_loopw [8] (fun i W => ∃ (j : Nat), j ≤ len ∧ i = .int .i64 j ∧ RingAt W w1.heap.size k (lastOf k zs j) ∧ Below w.heap.size w W) (fun i _ => len - (intOf i).toNat)
  case atStart => exact ⟨0, by omega, rfl, r2.same (by simp [lastOf]), hb2⟩
  case round =>
    obtain ⟨j, hj, rfl, hR, hB⟩ := hrel
    by_cases h4 : j < len
    · have hcell : _ = _ := (hB.cell (p := ⟨b, off + j, none⟩) hbw).trans (HC.out j h4)
      have hl := lastOf_length k zs j (by omega)
      by_cases h5 : j < k
      · have C := hide (push_room _ k (lastOf k zs j) (zs[j]?.getD 0) (by omega) _ hR)
        rw [lastOf_room k zs j (by omega) h5] at C
        clear hl
        generalize zs[j]?.getD 0 = z at hcell C
        go_wp2_with (go_at_call 11; refine C.out.mono ?_; rintro e W1 ⟨rfl, hR1, hg, -⟩)
        go_roundw
        case rel => exact ⟨j + 1, by omega, by go_num, hR1, grown_below hB hg hB.size hN⟩
        case measure => simp [intOf]; omega
      · obtain ⟨d, rfl⟩ : ∃ d, j = k + d := ⟨j - k, by omega⟩
        have C := hide (push_full _ k (lastOf k zs (k + d)) (zs[k + d]?.getD 0) (by omega) (by omega) _ hR)
        rw [lastOf_full k zs (k + d) (by omega) (by omega) (by omega), lastOf_head k zs (k + d) (by omega) (by omega), show k + d - k = d by omega] at C
        clear hl
        have hbW : ∀ W1, wr.grownBy W1 (some w1.heap.size) → W1.cell? ⟨b, off + d, none⟩ = some (.int .i64 (zs[d]?.getD 0)) := fun W1 hg =>
          ((grown_below hB hg hB.size hN).cell (p := ⟨b, off + d, none⟩) hbw).trans (HC.out d (by omega))
        have HD := hide hbW
        clear hbW
        generalize zs[k + d]?.getD 0 = z at hcell C
        generalize zs[d]?.getD 0 = y at C HD
        go_wp2_with (go_at_call 11; refine C.out.mono ?_; rintro e W1 ⟨rfl, hR1, hg, -⟩; have hcd := HD.out W1 hg)
        go_roundw
        case rel => exact ⟨k + d + 1, by omega, by go_num, hR1, grown_below hB hg hB.size hN⟩
        case measure => simp [intOf]; omega
    · have e : j = len := by omega
      subst e
      clear h4
      have hl := lastOf_length k zs j (by omega)
      by_cases h5 : j ≤ k
      · have HS := hide (fun W3 (hg : wr.grownBy W3 none) => reads_at (W := W3) (b := b) (o := off) (n := j) (c := cap) (row := lastOf k zs j) (by omega) (fun i hi => by
          rw [lastOf_get k zs j i (by omega), show j - k + i = i by omega]
          exact ((grown_below0 hB hg hB.size).cell (p := ⟨b, off + i, none⟩) hbw).trans (HC.out i hi)))
        have hmx : max 0 (IntKind.i64.wrap ((j : Int) - (k : Int))) = 0 := by rw [IntKind.wrap_i64]; omega
        have hcp : ¬ cap = 0 := by omega
        have e1 : (lastOf k zs j).length = j := by omega
        have E := hide e1
        have hRd : RingAt wr.drew w1.heap.size k (lastOf k zs j) := hR.draws 1
        have C := hide (all_len _ k j _ e1 _ hRd)
        clear hl e1
        go_wp2_with (first | fail)
        go_region_with (first | (go_at_call 17; refine C.out.mono ?_; rintro e W3 ⟨rfl, hO, hg3⟩; have S := hide (HS.out W3 (grownBy_trans (grownBy_draws wr 1 none) hg3)); have hO' := hide hO; clear hO) | (go_at_call 18; refine (same_any _ _ (lastOf k zs j) (by have := E.out; omega) _ hO'.out S.out).mono ?_; rintro e W4 ⟨rfl, n4, rfl⟩))
        all_goals go_wp2
        all_goals
          go_ret
          exact ⟨rfl, below_drewN (grown_below0 hB (grownBy_trans (grownBy_draws wr 1 none) hg3) hB.size) _⟩
      · have HS := hide (fun W3 (hg : wr.grownBy W3 none) => reads_at (W := W3) (b := b) (o := off + (j - k)) (n := j - (j - k)) (c := cap - (j - k)) (row := lastOf k zs j) hl (fun i hi => by
          rw [lastOf_get k zs j i (by omega), Nat.add_assoc]
          exact ((grown_below0 hB hg hB.size).cell (p := ⟨b, off + (j - k + i), none⟩) hbw).trans (HC.out (j - k + i) (by omega))))
        have hmx : max 0 (IntKind.i64.wrap ((j : Int) - (k : Int))) = ((j - k : Nat) : Int) := by rw [IntKind.wrap_i64]; omega
        have hcp : ¬ cap = j - k := by omega
        have hs0 : ¬ j - k = 0 := by omega
        have hs1 : j - k ≤ j := by omega
        have e1 := hl
        generalize j - k = s at hmx HS hcp hs0 hs1 e1
        have E := hide e1
        have hRd : RingAt wr.drew w1.heap.size k (lastOf k zs j) := hR.draws 1
        have C := hide (all_len _ k (j - s) _ e1 _ hRd)
        clear hl e1
        go_wp2_with (first | fail)
        go_region_with (first | (go_at_call 17; refine C.out.mono ?_; rintro e W3 ⟨rfl, hO, hg3⟩; have S := hide (HS.out W3 (grownBy_trans (grownBy_draws wr 1 none) hg3)); have hO' := hide hO; clear hO) | (go_at_call 18; refine (same_any _ _ (lastOf k zs j) (by have := E.out; omega) _ hO'.out S.out).mono ?_; rintro e W4 ⟨rfl, n4, rfl⟩))
        all_goals go_wp2
        all_goals
          go_ret
          exact ⟨rfl, below_drewN (grown_below0 hB (grownBy_trans (grownBy_draws wr 1 none) hg3) hB.size) _⟩
#print axioms keeps_row

set_option maxRecDepth 100000 in
set_option maxHeartbeats 4000000 in
theorem keeps_none (l : Int) (a : Option Addr) (w : World) :
    Calls Try.prog 4 #[.int .i64 l, .slice a 0 0] w fun e w' => e = .returned (.bool true) ∧ Below w.heap.size w w' := by
  go_enter Try.func4, Try.ntmps4
  go_wp2_with (first | fail)
  refine (awake_any _).mono ?_; rintro e w1 ⟨rfl, hb⟩
  go_wp2_with (first | fail)
  obtain ⟨k, hk, hk', ek⟩ := size_of l
  rw [ek]
  clear ek
  generalize (IntKind.u64.wrap l).tmod 64 = m
  refine (new_ring k hk hk' w1).mono ?_; rintro e w2 ⟨rfl, r2, g2, -⟩
  have hB := grown_below0 hb g2 hb.size
  clear hb g2
  go_wp2_with (first | (go_at_call 9; refine (num_any _ _).mono ?_; rintro e w' ⟨rfl, rfl⟩))
  go_loop [8] (fun i => i = .int .i64 0) (fun _ => 0)
  case atStart => rfl
  case round =>
    subst hrel
    have hmx : max 0 (IntKind.i64.wrap (-(k : Int))) = 0 := by rw [IntKind.wrap_i64]; omega
    have hmx2 : max 0 (-(k : Int)) = 0 := by omega
    have hRd : RingAt w'.drew w1.heap.size k [] := r2.draws 1
    have C := hide (all_len _ k 0 _ rfl _ hRd)
    go_wp2_with (first | fail)
    go_region_with (first | (go_at_call 17; refine C.out.mono ?_; rintro e W3 ⟨rfl, hO, hg3⟩; have S := hide (show Reads W3 (.slice a 0 0) [] from ⟨a, 0, rfl, fun h => by simp at h⟩); have hO' := hide hO; clear hO) | (go_at_call 18; refine (same_any _ _ [] (by decide) _ hO'.out S.out).mono ?_; rintro e W4 ⟨rfl, n4, rfl⟩))
    all_goals go_wp2
    all_goals
      go_ret
      exact ⟨rfl, below_drewN (grown_below0 hB (grownBy_trans (grownBy_draws w' 1 none) hg3) hB.size) _⟩
#print axioms keeps_none
end Go.Proofs.Ytkdemmbcdfcbjaa
