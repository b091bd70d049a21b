/- The walk of the law RingTwo: for every row of numbers it answers true and turns nothing that was there. -/
import Derived.Test.YtkdemmbcdfcbjaaRowLaw
import Derived.Test.YtkdemmbcdfcbjaaActs
namespace Go.Proofs.Ytkdemmbcdfcbjaa
open Go.RowKit
attribute [local go_sem] alloc_drewN setCell_drewN

/-- The two Rings of the law at blocks N and N + 1, the second empty, and the law's own row, in memory behind them; below B all is as it was in w. -/
structure TwoSt (w W : World) (B N : Nat) (row : List Int) (v : Value) : Prop where
  a : RingAt W N 5 row
  b : RingAt W (N + 1) 5 []
  own : W.ownsRow (N + 2) 3 1 v row.length (vals row)
  below : Below B w W
  le : B ≤ N

theorem own_off2 {W W1 : World} {N n : Nat} {v : Value} {xs : List Value} (h : W.ownsRow (N + 2) 3 1 v n xs) (hg : W.grownBy W1 (some N)) : W1.ownsRow (N + 2) 3 1 v n xs :=
  h.kept hg (by right; intro e; have := (h.lt N e).1; omega)
theorem TwoSt.size {w W : World} {B N : Nat} {row : List Int} {v : Value} (h : TwoSt w W B N row v) : B ≤ W.heap.size := Nat.le_trans h.le (Nat.le_of_lt h.a.lt)
theorem TwoSt.tail {w W W1 : World} {B N : Nat} {row : List Int} {v : Value} (h : TwoSt w W B N row v) (hg : W.grownBy W1 none) : TwoSt w W1 B N row v :=
  ⟨h.a.grown hg (by simp), h.b.grown hg (by simp), own_kept h.own hg, grown_below0 h.below hg h.size, h.le⟩
/-- Behind a call that writes to the first Ring's block and an append onto a row of one's own: both Rings are as told. -/
theorem TwoSt.next {w W W1 W2 : World} {B N m : Nat} {row row' : List Int} {v u : Value} {o : Obj} (h : TwoSt w W B N row v) (hR : RingAt W1 N 5 row') (hg : W.grownBy W1 (some N))
    (hu : ∀ g, u.ownBlock = some g → N + 2 ≤ g) (hgrow : ((W1.alloc o).drewN m).grownBy W2 u.ownBlock) : RingAt W2 N 5 row' ∧ RingAt W2 (N + 1) 5 [] ∧ Below B w W2 := by
  have hb1 := h.b.grown hg (by simp)
  have hB := below_of_own hb1.lt hu hgrow
  exact ⟨hR.below hB (by omega), hb1.below hB (by omega), (grown_below h.below hg h.size h.le).trans (hB.mono (by have := h.le; omega))⟩
theorem TwoSt.again {w W1 W2 : World} {B N m : Nat} {row' : List Int} {u : Value} {o : Obj} (hR : RingAt W1 N 5 row') (hb1 : RingAt W1 (N + 1) 5 []) (hB1 : Below B w W1) (hle : B ≤ N)
    (hu : ∀ g, u.ownBlock = some g → N + 2 ≤ g) (hgrow : ((W1.alloc o).drewN m).grownBy W2 u.ownBlock) : RingAt W2 N 5 row' ∧ RingAt W2 (N + 1) 5 [] ∧ Below B w W2 := by
  have hB := below_of_own hb1.lt hu hgrow
  exact ⟨hR.below hB (by omega), hb1.below hB (by omega), hB1.trans (hB.mono (by omega))⟩

theorem all_own (b k n : Nat) (row : List Int) (hn : row.length = n) (w : World) (h : RingAt w b k row) :
    Calls Try.prog 17 #[.pointer (some ⟨b, 0, none⟩)] w fun e w' => e = .returned (.slice (some ⟨w.heap.size, 0, none⟩) n n) ∧ w'.ownsRow w.heap.size 3 1 (.slice (some ⟨w.heap.size, 0, none⟩) n n) n (vals row) ∧ w.grownBy w' none := by
  subst hn
  exact all_any b k row w h
theorem spoil_len (g n : Nat) (zs : List Int) (hn : zs.length = n) (cap base : Nat) (hz : n ≤ 9223372036854775807) (w : World) (hu : w.ownsRow base 3 1 (.slice (some ⟨g, 0, none⟩) n cap) n (vals zs)) :
    Calls Try.prog 19 #[.slice (some ⟨g, 0, none⟩) n cap] w fun e w' => e = .returned (.tuple #[]) ∧ w.grownBy w' (some g) ∧ w'.heap.size = w.heap.size := by
  subst hn
  exact spoil_any g zs cap base hz w hu

theorem tail_push (row : List Int) (z : Int) (h : 0 < row.length) : (row ++ [z]).tail = popped row ++ [z] := by
  cases row with
  | nil => simp at h
  | cons y t => rfl

set_option maxRecDepth 100000 in
set_option maxHeartbeats 4000000 in
theorem two_row (b off len cap : Nat) (zs : List Int) (hm : len ≤ 9223372036854775807) (w : World) (hbw : b < w.heap.size)
    (hc : ∀ k, k < len → w.cell? ⟨b, off + k, none⟩ = some (.int .i64 (zs[k]?.getD 0))) :
    Calls Try.prog 6 #[.slice (some ⟨b, off, none⟩) len cap] w fun e w' => e = .returned (.bool true) ∧ Below w.heap.size w w' := by
  have HC := hide hc
  clear hc
  go_enter Try.func6, Try.ntmps6
  go_wp2_with (first | fail)
  refine (awake_any _).mono ?_; rintro e w1 ⟨rfl, hb⟩
  go_wp2_with (first | fail)
  refine (new_ring 5 (by omega) (by omega) w1).mono ?_; rintro e w2 ⟨rfl, r2, g2, s2⟩
  have S2 := hide s2
  clear s2
  go_wp2_with (first | fail)
  refine (new_ring 5 (by omega) (by omega) w2).mono ?_; rintro e w3 ⟨rfl, r3, g3, s3⟩
  rw [S2.out] at r3 ⊢
  have hS : TwoSt w w3 w.heap.size w1.heap.size [] (.slice none 0 0) := ⟨r2.grown g3 (by simp), r3, World.ownsRow_nil _ _ _ _, grown_below0 (grown_below0 hb g2 hb.size) g3 (Nat.le_trans hb.size g2.size), hb.size⟩
  clear hb g2 r2 S2 g3 r3 s3
  go_wp2_with (first | (go_at_call 9; refine (num_any _ _).mono ?_; rintro e w' ⟨rfl, rfl⟩))
  go_loopw [7, 8] (fun v i W => ∃ (j : Nat) (row : List Int), j ≤ len ∧ j ≤ 60 ∧ i = .int .i64 j ∧ TwoSt w W w.heap.size w1.heap.size row v) (fun _ i _ => 60 - (intOf i).toNat)
  case atStart => exact ⟨0, [], by omega, by omega, rfl, hS⟩
  case round =>
    clear hS
    obtain ⟨j, row, hj, hj', rfl, hS⟩ := hrel
    have hlen : row.length ≤ 5 := hS.a.2.1
    obtain ⟨a', cap', rfl⟩ := own_form hS.own
    by_cases h4 : j < len
    · by_cases h5 : j < 60
      · have hcell : _ = _ := (hS.below.cell (p := ⟨b, off + j, none⟩) hbw).trans (HC.out j h4)
        have hcell2 : ∀ W1, wr.grownBy W1 (some w1.heap.size) → W1.cell? ⟨b, off + j, none⟩ = some (.int .i64 (zs[j]?.getD 0)) := fun W1 hg =>
          ((grown_below hS.below hg hS.size hS.le).cell (p := ⟨b, off + j, none⟩) hbw).trans (HC.out j h4)
        have HC2 := hide hcell2
        clear hcell2
        generalize zs[j]?.getD 0 = z at hcell HC2
        have HO := hide hS.own
        by_cases hfull : row.length < 5
        · have C := hide (push_room _ 5 row z hfull _ hS.a)
          generalize hn : row.length = n at *
          have HN := hide hn
          clear hn
          go_wp2_with (first | (go_at_call 11; refine C.out.mono ?_; rintro e W1 ⟨rfl, hR1, hg1, -⟩; have hcell1 := HC2.out W1 hg1) | (at_builtin; refine app_ints _ rfl _ _ rfl (w1.heap.size + 2) (.slice a' n cap') n row rfl ?c0 ⟨W1.heap.size, 0, none⟩ 1 1 [z] rfl rfl ?c1 ?c2 ?c3 ?_))
          case c0 => exact (own_off2 HO.out hg1).alloc _
          case c1 =>
            intro i hi
            match i, hi with
            | 0, _ => simp [Addr.add]
          case c2 => omega
          case c3 => have := (hS.b.grown hg1 (by simp)).lt; simp; omega
          intro a2 cap2 w2 hown2 hgrow2
          obtain ⟨q1, q2, q3⟩ := hS.next hR1 hg1 (fun g hg => (HO.out.lt g hg).1) (m := 0) hgrow2
          have e6 : (row ++ [z]).length = n + 1 := by simp [HN.out]
          have hT : TwoSt w w2 w.heap.size w1.heap.size (row ++ [z]) (.slice a2 (n + 1) cap2) := ⟨q1, q2, by rw [e6]; exact hown2, q3, hS.le⟩
          have E6 := hide e6
          have hle := hS.le
          have h64 : n + 1 ≤ 5 := by omega
          clear hown2 hgrow2 hcell1 hcell hg1 hR1 q1 q2 q3 hS C HO HC2 e6
          generalize n + 1 = n' at *
          go_wp2_with (first | fail)
          refine (all_own _ 5 n' _ E6.out _ hT.a).mono ?_; rintro e W3 ⟨rfl, hO, hg3⟩
          go_wp2_with (first | fail)
          refine (spoil_len _ n' _ E6.out _ _ (by omega) _ hO).mono ?_; rintro e W4 ⟨rfl, hg4, -⟩
          have hT4 := hT.tail (grown_spoil hg3 (Nat.le_refl _) hg4)
          clear hO hg3 hg4 hT
          go_wp2_with (first | fail)
          refine (all_len _ 5 0 [] rfl _ hT4.b).mono ?_; rintro e W5 ⟨rfl, -, hg5⟩
          have hT5 := hT4.tail hg5
          clear hg5 hT4
          have D := hide (all_len _ 5 n' _ E6.out _ hT5.a)
          go_wp2_with (first | (go_at_call 17; refine D.out.mono ?_; rintro e W6 ⟨rfl, hO6, hg6⟩; have hT6 := hT5.tail hg6; have R1 := hide hO6; have R2 := hide (reads_own hT6.own); clear hO6) | (go_at_call 18; refine (same_any _ _ _ (by rw [E6.out]; omega) _ R1.out R2.out).mono ?_; rintro e W7 ⟨rfl, n7, rfl⟩))
          go_roundw
          case rel => exact ⟨j + 1, _, by omega, by omega, by go_num, hT6.tail (grownBy_draws _ _ _)⟩
          case measure => simp [intOf]; omega
        · have C := hide (push_full _ 5 row z (by omega) (by omega) _ hS.a)
          have hn : row.length = 5 := by omega
          rw [← tail_push row z (by omega)] at C
          have e6 : (row ++ [z]).length = 6 := by simp [hn]
          rw [hn] at HO
          have E6 := hide e6
          simp only [hn] at *
          clear hn hfull hlen e6
          go_wp2_with (first | (go_at_call 11; refine C.out.mono ?_; rintro e W1 ⟨rfl, hR1, hg1, -⟩; have hcell1 := HC2.out W1 hg1) | (at_builtin; refine app_ints _ rfl _ _ rfl (w1.heap.size + 2) (.slice a' 5 cap') 5 row rfl ?c0 ⟨W1.heap.size, 0, none⟩ 1 1 [z] rfl rfl ?c1 ?c2 ?c3 ?_))
          case c0 => exact (own_off2 HO.out hg1).alloc _
          case c1 =>
            intro i hi
            match i, hi with
            | 0, _ => simp [Addr.add]
          case c2 => omega
          case c3 => have := (hS.b.grown hg1 (by simp)).lt; simp; omega
          intro a2 cap2 w2 hown2 hgrow2
          obtain ⟨q1, q2, q3⟩ := hS.next hR1 hg1 (fun g hg => (HO.out.lt g hg).1) (m := 0) hgrow2
          have hcap : ∃ g, a2 = some ⟨g, 0, none⟩ ∧ 6 ≤ cap2 ∧ cap2 ≤ maxLen := by
            rcases hown2.2 with ⟨_, h0⟩ | ⟨g, cap, cur, hv, _, _, h1, h2, _⟩
            · simp at h0
            · simp only [Value.slice.injEq, true_and] at hv
              obtain ⟨rfl, rfl⟩ := hv
              exact ⟨g, rfl, h1, h2⟩
          obtain ⟨g, rfl, hc1, hc2⟩ := hcap
          unfold maxLen at hc2
          have hE : ∀ i, i < 5 → w2.cell? ⟨g, 1 + i, none⟩ = some (.int .i64 ((row ++ [z]).tail[i]?.getD 0)) := fun i hi => by
            have := hown2.cellAt (1 + i) (by omega)
            rw [vals_get _ _ (by rw [E6.out]; omega)] at this
            rw [List.getElem?_tail, Nat.add_comm i 1]
            exact this
          have E5 : Hid ((row ++ [z]).tail.length = 5) := hide (by rw [List.length_tail, E6.out])
          have HE := hide hE
          have hle := hS.le
          have hone : ¬ cap2 = 1 := by omega
          clear hown2 hgrow2 hcell1 hcell hg1 hR1 hS C HO HC2 E6 hE
          generalize (row ++ [z]).tail = row' at *
          go_wp2_with (at_builtin; refine app_ints _ rfl _ _ rfl (w1.heap.size + 2) _ 0 [] rfl ?d0 ⟨g, 1, none⟩ 5 (cap2 - 1) row' rfl E5.out ?d1 ?d2 ?d3 ?_)
          case d0 => exact World.ownsRow_lit w2 #[] 0 (Nat.succ_le_of_lt q2.lt) (by unfold maxLen; omega) rfl
          case d1 =>
            intro i hi
            have := HE.out i hi
            have hlt := block_lt_of_cell this
            rw [show (⟨g, 1, none⟩ : Addr).add i = ⟨g, 1 + i, none⟩ by simp [Addr.add]]
            exact (World.cell?_of_block (a := ⟨g, 1 + i, none⟩) (Below.heap_alloc w2 _ g hlt)).trans this
          case d2 => omega
          case d3 => have := q2.lt; simp; omega
          intro a3 cap3 w4 hown4 hgrow4
          have hl2 := q2.lt
          obtain ⟨p1, p2, p3⟩ := TwoSt.again q1 q2 q3 hle (fun g hg => by simp [Value.ownBlock] at hg; omega) (m := 0) hgrow4
          have hT : TwoSt w w4 w.heap.size w1.heap.size row' (.slice a3 5 cap3) := ⟨p1, p2, by rw [E5.out]; exact hown4, p3, hle⟩
          have E6 := E5
          clear E5 hown4 hgrow4 q1 q2 q3 p1 p2 p3 HE hl2
          generalize hn' : 5 = n' at E6 hT
          have h64 : n' ≤ 5 := by omega
          go_wp2_with (first | fail)
          refine (all_own _ 5 n' _ E6.out _ hT.a).mono ?_; rintro e W3 ⟨rfl, hO, hg3⟩
          go_wp2_with (first | fail)
          refine (spoil_len _ n' _ E6.out _ _ (by omega) _ hO).mono ?_; rintro e W4 ⟨rfl, hg4, -⟩
          have hT4 := hT.tail (grown_spoil hg3 (Nat.le_refl _) hg4)
          clear hO hg3 hg4 hT
          go_wp2_with (first | fail)
          refine (all_len _ 5 0 [] rfl _ hT4.b).mono ?_; rintro e W5 ⟨rfl, -, hg5⟩
          have hT5 := hT4.tail hg5
          clear hg5 hT4
          have D := hide (all_len _ 5 n' _ E6.out _ hT5.a)
          go_wp2_with (first | (go_at_call 17; refine D.out.mono ?_; rintro e W6 ⟨rfl, hO6, hg6⟩; have hT6 := hT5.tail hg6; have R1 := hide hO6; have R2 := hide (reads_own hT6.own); clear hO6) | (go_at_call 18; refine (same_any _ _ _ (by rw [E6.out]; omega) _ R1.out R2.out).mono ?_; rintro e W7 ⟨rfl, n7, rfl⟩))
          go_roundw
          case rel => exact ⟨j + 1, _, by omega, by omega, by go_num, hT6.tail (grownBy_draws _ _ _)⟩
          case measure => simp [intOf]; omega
      · have C := hide (pop_no _ 5 _ hS.b)
        go_wp2_with (go_at_call 15; refine C.out.mono ?_; rintro e W1 ⟨rfl, n1, rfl⟩)
        go_ret
        exact ⟨rfl, below_drewN hS.below _⟩
    · have C := hide (pop_no _ 5 _ hS.b)
      go_wp2_with (go_at_call 15; refine C.out.mono ?_; rintro e W1 ⟨rfl, n1, rfl⟩)
      go_ret
      exact ⟨rfl, below_drewN hS.below _⟩
#print axioms two_row

set_option maxRecDepth 100000 in
set_option maxHeartbeats 4000000 in
theorem two_none (a : Option Addr) (cap : Nat) (w : World) :
    Calls Try.prog 6 #[.slice a 0 cap] w fun e w' => e = .returned (.bool true) ∧ Below w.heap.size w w' := by
  go_enter Try.func6, Try.ntmps6
  go_wp2_with (first | fail)
  refine (awake_any _).mono ?_; rintro e w1 ⟨rfl, hb⟩
  go_wp2_with (first | fail)
  refine (new_ring 5 (by omega) (by omega) w1).mono ?_; rintro e w2 ⟨rfl, r2, g2, -⟩
  go_wp2_with (first | fail)
  refine (new_ring 5 (by omega) (by omega) w2).mono ?_; rintro e w3 ⟨rfl, r3, g3, -⟩
  have hB := hide (grown_below0 (grown_below0 hb g2 hb.size) g3 (Nat.le_trans hb.size g2.size))
  clear hb g2 r2 g3
  go_wp2_with (first | (go_at_call 9; refine (num_any _ _).mono ?_; rintro e w' ⟨rfl, rfl⟩))
  go_loop [7, 8] (fun v i => v = .slice none 0 0 ∧ i = .int .i64 0) (fun _ _ => 0)
  case atStart => exact ⟨rfl, rfl⟩
  case round =>
    obtain ⟨rfl, rfl⟩ := hrel
    have C := hide (pop_no _ 5 _ r3)
    go_wp2_with (go_at_call 15; refine C.out.mono ?_; rintro e W1 ⟨rfl, n1, rfl⟩)
    go_ret
    exact ⟨rfl, below_drewN hB.out _⟩
#print axioms two_none
end Go.Proofs.Ytkdemmbcdfcbjaa
