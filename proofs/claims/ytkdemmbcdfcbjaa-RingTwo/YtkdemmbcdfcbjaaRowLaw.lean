/- The walk of the law RingRow: for every size and every row of calls it answers true and turns nothing that was there. -/
import Derived.Test.YtkdemmbcdfcbjaaKeeps
namespace Go.Proofs.Ytkdemmbcdfcbjaa
open Go.RowKit
attribute [local go_sem] alloc_drewN setCell_drewN

/-- append of numbers onto a row of numbers that is owned. -/
theorem app_ints {ops : Array Oper} {rest : List Oper} {o : Oper} {a : Act} {Q : Exit → Act → World → Prop} (w : World) (hgd : o.guard = none) (s x : Operand)
    (ho : o.op = .call { callee := .builtin .append, args := #[s, x], argTypes := #[22, 22] })
    (base : Nat) (v : Value) (n : Nat) (xs : List Int) (hs : a.eval s = v) (hown : w.ownsRow base 3 1 v n (vals xs))
    (ad : Addr) (m c : Nat) (ys : List Int) (hx : a.eval x = .slice (some ad) m c) (hl : ys.length = m) (hcells : ∀ j, j < m → w.cell? (ad.add j) = some (.int .i64 (ys[j]?.getD 0)))
    (hlim : n + m ≤ 17592186044416) (hbase : base ≤ w.heap.size)
    (h : ∀ a' cap' w', w'.ownsRow base 3 1 (.slice a' (n + m) cap') (n + m) (vals (xs ++ ys)) → w.grownBy w' v.ownBlock → wpList Try.prog ops Q rest (a.put o.dst (.slice a' (n + m) cap')) w') :
    wpList Try.prog ops Q (o :: rest) a w := by
  obtain ⟨i0, hi, hz0, hz1, hz2⟩ := info_parts infoI64
  refine wpList_append_own w hgd s x 22 ho base 3 i0 (.int .i64 0) 1 8 Try.underlying22 hi hz0 hz1 hz2 rfl (by decide) v n (vals xs) hs hown ad m c (vals ys) hx (by rw [vals_length, hl]; omega) ?_ ?_ (by unfold maxLen; omega) (by omega) hbase ?_
  · intro j u hu
    have hj : j < (vals ys).length := by
      rcases Nat.lt_or_ge j (vals ys).length with h | h
      · exact h
      · rw [List.getElem?_eq_none h] at hu; cases hu
    rw [vals_length] at hj
    rw [vals_get _ _ hj] at hu
    cases hu
    exact hcells j (by omega)
  · intro u hu
    simp [vals] at hu
    obtain ⟨z, _, rfl⟩ := hu
    rfl
  · intro v' w' hown' hgrow _
    obtain ⟨a', cap', rfl⟩ := own_form hown'
    refine h a' cap' w' ?_ hgrow
    rw [show vals (xs ++ ys) = vals xs ++ vals ys by simp [vals]]
    exact hown'

/-- The Ring at block N and the law's own row, in memory behind N; below B all is as it was in w. -/
structure RowSt (w W : World) (B N k : Nat) (row : List Int) (v : Value) : Prop where
  ring : RingAt W N k row
  own : W.ownsRow (N + 1) 3 1 v row.length (vals row)
  below : Below B w W
  le : B ≤ N

theorem RowSt.draws {w W : World} {B N k : Nat} {row : List Int} {v : Value} (h : RowSt w W B N k row v) (n : Nat) : RowSt w (W.drewN n) B N k row v :=
  ⟨h.ring.draws n, own_draws h.own n, below_drewN h.below n, h.le⟩
theorem own_off {W W1 : World} {N n : Nat} {v : Value} {xs : List Value} (h : W.ownsRow (N + 1) 3 1 v n xs) (hg : W.grownBy W1 (some N)) : W1.ownsRow (N + 1) 3 1 v n xs :=
  h.kept hg (by right; intro e; have := (h.lt N e).1; omega)
/-- Behind a call that writes to the Ring's block and an append onto the row: the Ring and the row are as told. -/
theorem RowSt.next {w W W1 W2 : World} {B N k m n : Nat} {row row' : List Int} {v u v' : Value} {o : Obj} (h : RowSt w W B N k row v) (hR : RingAt W1 N k row') (hg : W.grownBy W1 (some N))
    (hu : ∀ g, u.ownBlock = some g → N + 1 ≤ g) (hgrow : ((W1.alloc o).drewN m).grownBy W2 u.ownBlock) (hn : row'.length = n) (hown : W2.ownsRow (N + 1) 3 1 v' n (vals row')) : RowSt w W2 B N k row' v' := by
  have hB := below_of_own hR.lt hu hgrow
  refine ⟨hR.below hB (Nat.lt_succ_self N), hn ▸ hown, ?_, h.le⟩
  exact (grown_below h.below hg (Nat.le_trans h.le (Nat.le_of_lt h.ring.lt)) h.le).trans (hB.mono (Nat.le_succ_of_le h.le))

set_option maxRecDepth 100000 in
set_option maxHeartbeats 4000000 in
theorem rowlaw_row (l : Int) (b off len cap : Nat) (zs : List Int) (hm : len ≤ 9223372036854775807) (w : World) (hbw : b < w.heap.size)
    (hc : ∀ k, k < len → w.cell? ⟨b, off + k, none⟩ = some (.int .i64 (zs[k]?.getD 0))) :
    Calls Try.prog 5 #[.int .i64 l, .slice (some ⟨b, off, none⟩) len cap] w fun e w' => e = .returned (.bool true) ∧ Below w.heap.size w w' := by
  have HC := hide hc
  clear hc
  go_enter Try.func5, Try.ntmps5
  go_wp2_with (first | fail)
  refine (awake_any _).mono ?_; rintro e w1 ⟨rfl, hb⟩
  go_wp2_with (first | fail)
  obtain ⟨k, hk, hk', ek⟩ := size_of l
  rw [ek]
  clear ek
  generalize (IntKind.u64.wrap l).tmod 64 = m
  refine (new_ring k hk hk' w1).mono ?_; rintro e w2 ⟨rfl, r2, g2, -⟩
  have hS : RowSt w w2 w.heap.size w1.heap.size k [] (.slice none 0 0) := ⟨r2, World.ownsRow_nil _ _ _ _, grown_below0 hb g2 hb.size, hb.size⟩
  clear hb g2 r2
  have C1 := hide (fun w => new_no (-(k : Int) + 1) (by omega) w)
  have C2 := hide (fun w => new_no (64 + (k : Int)) (by omega) w)
  go_wp2_with (first | fail)
  refine (C1.out _).mono ?_; rintro e w' ⟨rfl, rfl⟩
  go_wp2_with (first | fail)
  refine (C2.out _).mono ?_; rintro e w' ⟨rfl, rfl⟩
  go_wp2_with (first | (go_at_call 9; refine (num_any _ _).mono ?_; rintro e w' ⟨rfl, rfl⟩))
  go_loopw [12, 13] (fun v i W => ∃ (j : Nat) (row : List Int), j ≤ len ∧ j ≤ 100 ∧ i = .int .i64 j ∧ RowSt w W w.heap.size w1.heap.size k row v) (fun _ i _ => 100 - (intOf i).toNat)
  case atStart => exact ⟨0, [], by omega, by omega, rfl, hS⟩
  case round =>
    clear hS
    obtain ⟨j, row, hj, hj', rfl, hS⟩ := hrel
    have hlen : row.length ≤ k := hS.ring.2.1
    obtain ⟨a', cap', rfl⟩ := own_form hS.own
    by_cases h4 : j < len
    · by_cases h5 : j < 100
      · have hcell : _ = _ := (hS.below.cell (p := ⟨b, off + j, none⟩) hbw).trans (HC.out j h4)
        have hcell2 : ∀ W1, wr.grownBy W1 (some w1.heap.size) → W1.cell? ⟨b, off + j, none⟩ = some (.int .i64 (zs[j]?.getD 0)) := fun W1 hg =>
          ((grown_below hS.below hg hS.below.size hS.le).cell (p := ⟨b, off + j, none⟩) hbw).trans (HC.out j h4)
        have HC2 := hide hcell2
        clear hcell2
        generalize zs[j]?.getD 0 = z at hcell HC2
        cases hbit : (bits .and .i64 z 3 == 3)
        · by_cases hfull : row.length < k
          · have C := hide (offer_yes _ k row z hfull _ hS.ring)
            have hN := hS.ring.lt
            have HO := hide hS.own
            generalize hn : row.length = n at *
            have HN := hide hn
            clear hn
            go_wp2_with (first | (go_at_call 13; refine C.out.mono ?_; rintro e W1 ⟨rfl, hR1, hg1, -⟩; have hcell1 := HC2.out W1 hg1) | (at_builtin; refine app_ints _ rfl _ _ rfl (w1.heap.size + 1) (.slice a' n cap') n row rfl ?c0 ⟨W1.heap.size, 0, none⟩ 1 1 [z] rfl rfl ?c1 ?c2 ?c3 ?_))
            case c0 => exact (own_off HO.out hg1).alloc _
            case c1 =>
              intro i hi
              match i, hi with
              | 0, _ => simp [Addr.add]
            case c2 => omega
            case c3 => have := hR1.lt; simp; omega
            intro a2 cap2 w2 hown2 hgrow2
            have hS2 := hS.next hR1 hg1 (fun g hg => (HO.out.lt g hg).1) (m := 0) hgrow2 (by simp [HN.out]) hown2
            clear hown2 hgrow2 hcell1 hcell hg1 hR1
            go_wp2
            go_roundw
            case rel => exact ⟨j + 1, row ++ [z], by omega, by omega, by go_num, hS2⟩
            case measure => simp [intOf]; omega
          · have C := hide (offer_no _ k row z (by omega) _ hS.ring)
            generalize hn : row.length = n at *
            clear hn
            go_wp2_with (go_at_call 13; refine C.out.mono ?_; rintro e W1 ⟨rfl, n1, rfl⟩)
            go_roundw
            case rel => exact ⟨j + 1, row, by omega, by omega, by go_num, hS.draws _⟩
            case measure => simp [intOf]; omega
        · cases row with
          | nil =>
            have C := hide (pop_no _ k _ hS.ring)
            simp only [List.length_nil] at *
            go_wp2_with (go_at_call 15; refine C.out.mono ?_; rintro e W1 ⟨rfl, n1, rfl⟩)
            go_roundw
            case rel => exact ⟨j + 1, [], by omega, by omega, by go_num, hS.draws _⟩
            case measure => simp [intOf]; omega
          | cons y t =>
            have C : Hid (Calls Try.prog 15 _ wr fun e w' => e = .returned (.tuple #[.int .i64 y, .bool true]) ∧ RingAt w' w1.heap.size k t ∧ wr.grownBy w' (some w1.heap.size) ∧ w'.heap.size = wr.heap.size) := hide (pop_yes _ k (y :: t) (by simp) _ hS.ring)
            have hcap : ∃ g, a' = some ⟨g, 0, none⟩ ∧ (y :: t).length ≤ cap' ∧ cap' ≤ maxLen := by
              rcases hS.own.2 with ⟨_, h0⟩ | ⟨g, cap, cur, hv, _, _, h1, h2, _⟩
              · simp at h0
              · simp only [Value.slice.injEq, true_and] at hv
                obtain ⟨rfl, rfl⟩ := hv
                exact ⟨g, rfl, h1, h2⟩
            obtain ⟨g, rfl, hc1, hc2⟩ := hcap
            have HO := hide hS.own
            have hD : ∀ W1, wr.grownBy W1 (some w1.heap.size) → W1.cell? ⟨g, 0, none⟩ = some (.int .i64 y) := fun W1 hg => by
              have := (own_off hS.own hg).cellAt 0 (by simp)
              rwa [vals_get _ _ (by simp)] at this
            have hE : ∀ W1, wr.grownBy W1 (some w1.heap.size) → ∀ i, i < t.length → W1.cell? ⟨g, 1 + i, none⟩ = some (.int .i64 (t[i]?.getD 0)) := fun W1 hg i hi => by
              have := (own_off hS.own hg).cellAt (1 + i) (by simp; omega)
              rwa [vals_get _ _ (by simp; omega), Nat.add_comm 1 i, List.getElem?_cons_succ, Nat.add_comm i 1] at this
            have HD := hide hD
            have HE := hide hE
            clear hD hE
            simp only [List.length_cons] at *
            generalize hn : t.length = n at *
            have HN := hide hn
            clear hn
            unfold maxLen at hc2
            by_cases hone : cap' = 1
            · have hn0 : n = 0 := by omega
              subst hone hn0
              go_wp2_with (first | (go_at_call 15; refine C.out.mono ?_; rintro e W1 ⟨rfl, hR1, hg1, -⟩; have hcell1 := HD.out W1 hg1) | (at_builtin; refine app_ints _ rfl _ _ rfl (w1.heap.size + 1) _ 0 [] rfl ?c0 ⟨g, 0, none⟩ 0 0 t rfl HN.out ?c1 ?c2 ?c3 ?_))
              case c0 => exact World.ownsRow_lit W1 #[] 0 hR1.lt (by unfold maxLen; omega) rfl
              case c1 => intro i hi; omega
              case c2 => omega
              case c3 => have := hR1.lt; simp; omega
              intro a2 cap2 w2 hown2 hgrow2
              have hl1 := hR1.lt
              have hS2 := hS.next hR1 hg1 (fun g hg => by simp [Value.ownBlock] at hg; omega) (m := 0) hgrow2 HN.out hown2
              clear hown2 hgrow2 hcell1 hcell hg1 hR1 hl1
              go_wp2
              go_roundw
              case rel => exact ⟨j + 1, t, by omega, by omega, by go_num, hS2⟩
              case measure => simp [intOf]; omega
            · go_wp2_with (first | (go_at_call 15; refine C.out.mono ?_; rintro e W1 ⟨rfl, hR1, hg1, -⟩; have hcell1 := HD.out W1 hg1) | (at_builtin; refine app_ints _ rfl _ _ rfl (w1.heap.size + 1) _ 0 [] rfl ?c0 ⟨g, 1, none⟩ n (cap' - 1) t rfl HN.out ?c1 ?c2 ?c3 ?_))
              case c0 => exact World.ownsRow_lit W1 #[] 0 hR1.lt (by unfold maxLen; omega) rfl
              case c1 =>
                intro i hi
                have := HE.out W1 hg1 i hi
                have hlt := block_lt_of_cell this
                rw [show (⟨g, 1, none⟩ : Addr).add i = ⟨g, 1 + i, none⟩ by simp [Addr.add]]
                exact (World.cell?_of_block (a := ⟨g, 1 + i, none⟩) (Below.heap_alloc W1 _ g hlt)).trans this
              case c2 => omega
              case c3 => have := hR1.lt; simp; omega
              intro a2 cap2 w2 hown2 hgrow2
              have hl1 := hR1.lt
              have hS2 := hS.next hR1 hg1 (fun g hg => by simp [Value.ownBlock] at hg; omega) (m := 0) hgrow2 HN.out hown2
              clear hown2 hgrow2 hcell1 hcell hg1 hR1 hl1
              go_wp2
              go_roundw
              case rel => exact ⟨j + 1, t, by omega, by omega, by go_num, hS2⟩
              case measure => simp [intOf]; omega
      · have C := hide (all_any _ k row _ hS.ring)
        go_wp2_with (first | (go_at_call 17; refine C.out.mono ?_; rintro e W3 ⟨rfl, hO, hg3⟩; have R1 := hide (reads_own hO); have R2 := hide (reads_own (own_kept hS.own hg3)); clear hO) | (go_at_call 18; refine (same_any _ _ row (by omega) _ R1.out R2.out).mono ?_; rintro e W4 ⟨rfl, n4, rfl⟩))
        go_ret
        exact ⟨rfl, below_drewN (grown_below0 hS.below hg3 hS.below.size) _⟩
    · have C := hide (all_any _ k row _ hS.ring)
      go_wp2_with (first | (go_at_call 17; refine C.out.mono ?_; rintro e W3 ⟨rfl, hO, hg3⟩; have R1 := hide (reads_own hO); have R2 := hide (reads_own (own_kept hS.own hg3)); clear hO) | (go_at_call 18; refine (same_any _ _ row (by omega) _ R1.out R2.out).mono ?_; rintro e W4 ⟨rfl, n4, rfl⟩))
      go_ret
      exact ⟨rfl, below_drewN (grown_below0 hS.below hg3 hS.below.size) _⟩
#print axioms rowlaw_row

set_option maxRecDepth 100000 in
set_option maxHeartbeats 4000000 in
theorem rowlaw_none (l : Int) (a : Option Addr) (cap : Nat) (w : World) :
    Calls Try.prog 5 #[.int .i64 l, .slice a 0 cap] w fun e w' => e = .returned (.bool true) ∧ Below w.heap.size w w' := by
  go_enter Try.func5, Try.ntmps5
  go_wp2_with (first | fail)
  refine (awake_any _).mono ?_; rintro e w1 ⟨rfl, hb⟩
  go_wp2_with (first | fail)
  obtain ⟨k, hk, hk', ek⟩ := size_of l
  rw [ek]
  clear ek
  generalize (IntKind.u64.wrap l).tmod 64 = m
  refine (new_ring k hk hk' w1).mono ?_; rintro e w2 ⟨rfl, r2, g2, -⟩
  have hS : RowSt w w2 w.heap.size w1.heap.size k [] (.slice none 0 0) := ⟨r2, World.ownsRow_nil _ _ _ _, grown_below0 hb g2 hb.size, hb.size⟩
  clear hb g2 r2
  have C1 := hide (fun w => new_no (-(k : Int) + 1) (by omega) w)
  have C2 := hide (fun w => new_no (64 + (k : Int)) (by omega) w)
  go_wp2_with (first | fail)
  refine (C1.out _).mono ?_; rintro e w' ⟨rfl, rfl⟩
  go_wp2_with (first | fail)
  refine (C2.out _).mono ?_; rintro e w' ⟨rfl, rfl⟩
  go_wp2_with (first | (go_at_call 9; refine (num_any _ _).mono ?_; rintro e w' ⟨rfl, rfl⟩))
  go_loop [12, 13] (fun v i => v = .slice none 0 0 ∧ i = .int .i64 0) (fun _ _ => 0)
  case atStart => exact ⟨rfl, rfl⟩
  case round =>
    obtain ⟨rfl, rfl⟩ := hrel
    have C := hide (all_len _ k 0 [] rfl _ hS.ring)
    go_wp2_with (first | (go_at_call 17; refine C.out.mono ?_; rintro e W3 ⟨rfl, hO, hg3⟩; have R1 := hide hO; have R2 := hide (reads_own (own_kept hS.own hg3)); clear hO) | (go_at_call 18; refine (same_any _ _ [] (by decide) _ R1.out R2.out).mono ?_; rintro e W4 ⟨rfl, n4, rfl⟩))
    go_ret
    exact ⟨rfl, below_drewN (grown_below0 hS.below hg3 hS.below.size) _⟩
#print axioms rowlaw_none
end Go.Proofs.Ytkdemmbcdfcbjaa
