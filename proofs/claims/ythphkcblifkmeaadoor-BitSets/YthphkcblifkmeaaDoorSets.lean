/- The walk of the law BitSets: it answers true and turns nothing that was there, wherever the library's table is. -/
import Derived.Test.YthphkcblifkmeaaDoorArr
namespace Go.Proofs.YthphkcblifkmeaaDoor
open Go.RowKit
attribute [local go_sem] alloc_drewN setCell_drewN

set_option maxRecDepth 100000 in
set_option maxHeartbeats 4000000 in
theorem sets_walk (l put drop : Int) (v : Value) (zs : List Int) (hz : zs.length ≤ 9223372036854775807) (w : World) (hT : Tab w) (hv : Reads w v zs) :
    Calls Tryd.prog 5 #[.int .i64 l, v, .int .i64 put, .int .i64 drop] w fun e w' => e = .returned (.bool true) ∧ Below w.heap.size w w' := by
  have HR := hide (fun W => hv.grown (W := W))
  obtain ⟨a, cap, rfl, -⟩ := hv
  generalize hN : zs.length = N at *
  have HN := hide hN
  clear hN
  go_enter Tryd.func5, Tryd.ntmps5
  go_wp2_with (first | fail)
  refine (awake_any w hT).mono ?_; rintro e w1 ⟨rfl, g1⟩
  go_upto_block 0 with fail
  obtain ⟨k, hk, hk', ek⟩ := size_of l
  rw [ek]
  clear ek
  generalize wrap64 ((IntKind.u64.wrap l).tmod 64) = m1
  generalize (IntKind.u64.wrap l).tmod 64 = m2
  generalize IntKind.u64.wrap l = m3
  have hS : ArrSt w (w1.alloc (.cells (Array.replicate 64 (.bool false)) 42)) w1.heap.size k 0 (.slice none 0 0) [] :=
    ⟨arr_new _ _, World.ownsRow_nil _ _ _ _, grownBy_trans g1 (World.grownBy_alloc _ _ _), g1.size, rfl⟩
  clear g1
  go_cut [11] (fun v wx => ∃ (j x : Nat) (xs : List Int), j ≤ 40 ∧ xs.length = j ∧ ArrSt w wx w1.heap.size k x v xs)
  case first =>
    go_wp2_with (first | fail)
    go_loopw [11, 12] (fun v i W => ∃ (j x : Nat) (xs : List Int), j ≤ N ∧ j ≤ 40 ∧ i = .int .i64 j ∧ xs.length = j ∧ ArrSt w W w1.heap.size k x v xs) (fun _ i _ => 40 - (intOf i).toNat)
    case atStart => exact ⟨0, 0, [], by omega, by omega, rfl, rfl, hS⟩
    case round =>
      clear hS
      obtain ⟨j, x, xs, hj, hj', rfl, hl, hS⟩ := hrel
      have hown := hS.own
      rw [hl] at hown
      obtain ⟨a', cap', rfl⟩ := own_form hown
      have HO := hide hown
      have HL := hide hl
      clear hl hown
      by_cases h4 : j < N
      · by_cases h5 : j < 40
        · obtain ⟨a2, cap2, e2, hc⟩ := HR.out wr hS.grown
          simp only [Value.slice.injEq] at e2
          obtain ⟨rfl, -, rfl⟩ := e2
          obtain ⟨g, o, rfl, hc2⟩ := hc (by rw [HN.out]; omega)
          have hcell := hc2 j (by rw [HN.out]; exact h4)
          clear hc hc2
          generalize zs[j]?.getD 0 = z at hcell
          obtain ⟨m, hmk, hm⟩ := mod_of z k hk hk'
          have HS := hide hS
          have HB := hide hS.arr.lt
          have hthaw : ∀ W2, ((wr.alloc (.cells #[.int .i64 m] 3)).drewN 0).grownBy W2 (Value.slice a' j cap').ownBlock → W2.cell? ⟨w1.heap.size, m, none⟩ = some (.bool (x.testBit m)) ∧ W2.frozen? ⟨w1.heap.size, m, none⟩ = false := fun W2 hg => by
            have hB := below_of_own hS.arr.lt (fun g hg => (hS.own.lt g hg).1) hg
            have := hS.arr.kept (hB.block _ (Nat.lt_succ_self _))
            exact ⟨this.bit m (by omega), this.thaw m⟩
          have HH := hide hthaw
          clear hS hthaw
          go_wp2_with (first | (at_builtin; refine app_ints _ rfl _ _ rfl (w1.heap.size + 1) (.slice a' j cap') j xs rfl ?c0 ⟨wr.heap.size, 0, none⟩ 1 1 [(m : Int)] rfl rfl ?c1 ?c2 ?c3 ?_))
          case c0 => exact HO.out.alloc _
          case c1 =>
            intro i hi
            match i, hi with
            | 0, _ => simp [Addr.add]
          case c2 => omega
          case c3 => have := HB.out; simp; omega
          intro a3 cap3 w3 hown3 hgrow3
          obtain ⟨c5, c6⟩ := HH.out w3 hgrow3
          have HS3 := hide (HS.out.next hgrow3 HL.out hown3 hmk hk')
          clear hown3 hgrow3 HH HB
          generalize x.testBit m = t at c5
          go_wp2
          go_roundw
          case rel => exact ⟨j + 1, _, _, by omega, by omega, by go_num, by simp [HL.out], HS3.out⟩
          case measure => simp [intOf]; omega
        · have HS := hide hS
          clear hS
          go_wp2
          go_meet
          case rel => exact ⟨j, x, xs, hj', HL.out, HS.out⟩
      · have HS := hide hS
        clear hS
        go_wp2
        go_meet
        case rel => exact ⟨j, x, xs, hj', HL.out, HS.out⟩
  case rest =>
    clear hS
    obtain ⟨j, x, xs, hj, hl, hS⟩ := hcut
    have HB1 := hide hS.le
    generalize w1.heap.size = B at *
    clear w1
    have hown := hS.own
    rw [hl] at hown
    obtain ⟨a', cap', rfl⟩ := own_form hown
    have C1 := hide (new_yes k hk hk' (.slice a' j cap') xs x hS.new (by omega) wc (reads_own (by rw [hl]; exact hown)))
    have HA := hide hS.arr
    have HG := hide hS.grown
    clear hS hown hl
    go_wp2_with (first | fail)
    refine C1.out.mono ?_; rintro e w2 ⟨b, hb, rfl, S2, g2⟩
    go_wp2_with (first | fail)
    refine (new_not k hk hk' _ _ (new_k k) (by simp) _ (reads_one w2 k 3)).mono ?_; rintro e w3 ⟨rfl, g3⟩
    go_wp2_with (first | fail)
    refine (new_size 65 _ (by decide) _).mono ?_; rintro e w' ⟨rfl, hw'⟩
    subst w'
    go_wp2_with (first | fail)
    refine (new_not k hk hk' _ _ (new_m1 k) (by simp) _ (reads_one w3 (-1) 3)).mono ?_; rintro e w4 ⟨rfl, g4⟩
    have G24 := grownBy_trans (grownBy_trans (World.grownBy_alloc w2 _ none) g3) (grownBy_trans (World.grownBy_alloc w3 _ none) g4)
    have S4 := S2.kept (G24.block b S2.lt (by simp))
    have G4 := hide (grownBy_trans HG.out (grownBy_trans g2 G24))
    have A4 := hide (HA.out.kept ((grownBy_trans g2 G24).block _ HA.out.lt (by simp)))
    have HB2 := hide (Nat.lt_of_lt_of_le HA.out.lt hb)
    have HB3 := hide (Nat.le_trans HG.out.size hb)
    clear g2 g3 g4 G24 S2 hb HA HG C1
    go_wp2_with (first | (go_at_call 10; refine (num_to _ _).mono ?_; rintro e w' ⟨rfl, rfl⟩))
    refine (put_any b k x put _ S4).mono ?_; rintro e w5 ⟨rfl, S5, g5⟩
    go_wp2_with (first | fail)
    refine (drop_any b k _ drop w5 S5).mono ?_; rintro e w6 ⟨rfl, S6, g6⟩
    have G6 := hide (grown_spoil (grown_spoil G4.out HB3.out g5) HB3.out g6)
    have A6 := hide ((A4.out.kept (g5.block B A4.out.lt (by have := HB2.out; simp; omega))).kept (g6.block B (A4.out.kept (g5.block B A4.out.lt (by have := HB2.out; simp; omega))).lt (by have := HB2.out; simp; omega)))
    have HX1 := hide S5.small
    have HS6 := hide S6
    clear g5 g6 S4 S5 S6 G4 A4
    rcases three k put with ⟨hp0, hpf⟩ | ⟨np, hp0, rfl⟩ | ⟨hp0, hp1, hpf⟩
    · have hpa := ans_no hpf
      rw [putW_no hpf] at HS6
      rw [putW_no hpf] at HX1
      have A7 := A6
      have S7 := HS6
      have G7 := G6
      clear A6 HS6 G6
      rcases three k drop with ⟨hd0, hdf⟩ | ⟨nd, hd0, rfl⟩ | ⟨hd0, hd1, hdf⟩
      · have hda := ans_no hdf
        rw [dropW_no hdf] at S7
        have HA8 := A7
        have HS8 := S7
        have HG8 := G7
        clear A7 S7 G7
        have HXK := hide (HS8.out.small)
        go_wp2_with (first | (go_at_call 10; refine (num_to _ _).mono ?_; rintro e w' ⟨rfl, rfl⟩))
        go_loopw [24] (fun i W => ∃ (z : Int) (n : Nat), -2 ≤ z ∧ z ≤ 66 ∧ i = .int .i64 z ∧ W = (w6).drewN n) (fun i _ => (66 - intOf i).toNat)
        case atStart => exact ⟨-2, 0, by omega, by omega, rfl, rfl⟩
        case round =>
          obtain ⟨z, n, hz1, hz2, rfl, rfl⟩ := hrel
          by_cases hz3 : z < 66
          · have C := hide (has_any b k x z _ (HS8.out.draws n))
            by_cases hz4 : z < 0
            · rw [show hasW x z = false by simp [hasW]; omega] at C
              go_wp2_with (go_at_call 18; refine C.out.mono ?_; rintro e w' ⟨rfl, n2, rfl⟩)
              go_roundw
              case rel => exact ⟨z + 1, _, by omega, by omega, by go_num, rfl⟩
              case measure => simp [intOf]; omega
            · by_cases hz5 : z < 64
              · obtain ⟨m, rfl⟩ : ∃ m : Nat, z = m := ⟨z.toNat, by omega⟩
                have c5 : ∀ n, ((w6).drewN n).cell? ⟨B, m, none⟩ = some (.bool ((x).testBit m)) := fun n => (HA8.out.draws n).bit m (by omega)
                rw [show hasW x (m : Int) = (x).testBit m by simp [hasW]] at C
                have hmin : min (m : Int) 63 = m := by omega
                have hmax : max 0 (m : Int) = m := by omega
                cases hbit : (x).testBit m
                · rw [hbit] at C
                  rw [hbit] at c5
                  go_wp2_with (go_at_call 18; refine C.out.mono ?_; rintro e w' ⟨rfl, n2, rfl⟩; have c6 := c5 (n + n2))
                  go_roundw
                  case rel => exact ⟨m + 1, _, by omega, by omega, by go_num, rfl⟩
                  case measure => simp [intOf]; omega
                · rw [hbit] at C
                  rw [hbit] at c5
                  go_wp2_with (go_at_call 18; refine C.out.mono ?_; rintro e w' ⟨rfl, n2, rfl⟩; have c6 := c5 (n + n2))
                  go_roundw
                  case rel => exact ⟨m + 1, _, by omega, by omega, by go_num, rfl⟩
                  case measure => simp [intOf]; omega
              · rw [show hasW x z = false by
                  obtain ⟨m, rfl⟩ : ∃ m : Nat, z = m := ⟨z.toNat, by omega⟩
                  rw [show hasW x (m : Int) = (x).testBit m by simp [hasW]]
                  exact no_bit HXK.out (by omega)] at C
                go_wp2_with (go_at_call 18; refine C.out.mono ?_; rintro e w' ⟨rfl, n2, rfl⟩)
                go_roundw
                case rel => exact ⟨z + 1, _, by omega, by omega, by go_num, rfl⟩
                case measure => simp [intOf]; omega
          · go_wp2
            go_ret
            exact ⟨rfl, below_drewN (below_of_grown HG8.out) _⟩
      · have hda := ans_yes hd0
        have d1 := A7.out.bit nd (by omega)
        generalize (x).testBit nd = t2 at d1
        have d2 := A7.out.thaw nd
        have HA8 := hide (A7.out.put (t := false) (by omega) (drop_bits hk' HX1.out hd0))
        have HS8 := hide (S7.out.kept (W' := (w6).setCell ⟨B, nd, none⟩ (.bool false)) ((grownBy_set (w6) B nd (.bool false)).block b S7.out.lt (by have := HB2.out; simp; omega)))
        have HG8 := hide (grown_spoil G7.out HB1.out (grownBy_set (w6) B nd (.bool false)))
        clear A7 S7 G7
        have HXK := hide (HS8.out.small)
        go_wp2_with (first | (go_at_call 10; refine (num_to _ _).mono ?_; rintro e w' ⟨rfl, rfl⟩))
        go_loopw [24] (fun i W => ∃ (z : Int) (n : Nat), -2 ≤ z ∧ z ≤ 66 ∧ i = .int .i64 z ∧ W = ((w6).setCell ⟨B, nd, none⟩ (.bool false)).drewN n) (fun i _ => (66 - intOf i).toNat)
        case atStart => exact ⟨-2, 0, by omega, by omega, rfl, rfl⟩
        case round =>
          obtain ⟨z, n, hz1, hz2, rfl, rfl⟩ := hrel
          by_cases hz3 : z < 66
          · have C := hide (has_any b k (dropW k x nd) z _ (HS8.out.draws n))
            by_cases hz4 : z < 0
            · rw [show hasW (dropW k x nd) z = false by simp [hasW]; omega] at C
              go_wp2_with (go_at_call 18; refine C.out.mono ?_; rintro e w' ⟨rfl, n2, rfl⟩)
              go_roundw
              case rel => exact ⟨z + 1, _, by omega, by omega, by go_num, rfl⟩
              case measure => simp [intOf]; omega
            · by_cases hz5 : z < 64
              · obtain ⟨m, rfl⟩ : ∃ m : Nat, z = m := ⟨z.toNat, by omega⟩
                have c5 : ∀ n, (((w6).setCell ⟨B, nd, none⟩ (.bool false)).drewN n).cell? ⟨B, m, none⟩ = some (.bool (((dropW k x nd)).testBit m)) := fun n => (HA8.out.draws n).bit m (by omega)
                rw [show hasW (dropW k x nd) (m : Int) = ((dropW k x nd)).testBit m by simp [hasW]] at C
                have hmin : min (m : Int) 63 = m := by omega
                have hmax : max 0 (m : Int) = m := by omega
                cases hbit : ((dropW k x nd)).testBit m
                · rw [hbit] at C
                  rw [hbit] at c5
                  go_wp2_with (go_at_call 18; refine C.out.mono ?_; rintro e w' ⟨rfl, n2, rfl⟩; have c6 := c5 (n + n2))
                  go_roundw
                  case rel => exact ⟨m + 1, _, by omega, by omega, by go_num, rfl⟩
                  case measure => simp [intOf]; omega
                · rw [hbit] at C
                  rw [hbit] at c5
                  go_wp2_with (go_at_call 18; refine C.out.mono ?_; rintro e w' ⟨rfl, n2, rfl⟩; have c6 := c5 (n + n2))
                  go_roundw
                  case rel => exact ⟨m + 1, _, by omega, by omega, by go_num, rfl⟩
                  case measure => simp [intOf]; omega
              · rw [show hasW (dropW k x nd) z = false by
                  obtain ⟨m, rfl⟩ : ∃ m : Nat, z = m := ⟨z.toNat, by omega⟩
                  rw [show hasW (dropW k x nd) (m : Int) = ((dropW k x nd)).testBit m by simp [hasW]]
                  exact no_bit HXK.out (by omega)] at C
                go_wp2_with (go_at_call 18; refine C.out.mono ?_; rintro e w' ⟨rfl, n2, rfl⟩)
                go_roundw
                case rel => exact ⟨z + 1, _, by omega, by omega, by go_num, rfl⟩
                case measure => simp [intOf]; omega
          · go_wp2
            go_ret
            exact ⟨rfl, below_drewN (below_of_grown HG8.out) _⟩
      · have hda := ans_no hdf
        rw [dropW_no hdf] at S7
        have HA8 := A7
        have HS8 := S7
        have HG8 := G7
        clear A7 S7 G7
        have HXK := hide (HS8.out.small)
        go_wp2_with (first | (go_at_call 10; refine (num_to _ _).mono ?_; rintro e w' ⟨rfl, rfl⟩))
        go_loopw [24] (fun i W => ∃ (z : Int) (n : Nat), -2 ≤ z ∧ z ≤ 66 ∧ i = .int .i64 z ∧ W = (w6).drewN n) (fun i _ => (66 - intOf i).toNat)
        case atStart => exact ⟨-2, 0, by omega, by omega, rfl, rfl⟩
        case round =>
          obtain ⟨z, n, hz1, hz2, rfl, rfl⟩ := hrel
          by_cases hz3 : z < 66
          · have C := hide (has_any b k x z _ (HS8.out.draws n))
            by_cases hz4 : z < 0
            · rw [show hasW x z = false by simp [hasW]; omega] at C
              go_wp2_with (go_at_call 18; refine C.out.mono ?_; rintro e w' ⟨rfl, n2, rfl⟩)
              go_roundw
              case rel => exact ⟨z + 1, _, by omega, by omega, by go_num, rfl⟩
              case measure => simp [intOf]; omega
            · by_cases hz5 : z < 64
              · obtain ⟨m, rfl⟩ : ∃ m : Nat, z = m := ⟨z.toNat, by omega⟩
                have c5 : ∀ n, ((w6).drewN n).cell? ⟨B, m, none⟩ = some (.bool ((x).testBit m)) := fun n => (HA8.out.draws n).bit m (by omega)
                rw [show hasW x (m : Int) = (x).testBit m by simp [hasW]] at C
                have hmin : min (m : Int) 63 = m := by omega
                have hmax : max 0 (m : Int) = m := by omega
                cases hbit : (x).testBit m
                · rw [hbit] at C
                  rw [hbit] at c5
                  go_wp2_with (go_at_call 18; refine C.out.mono ?_; rintro e w' ⟨rfl, n2, rfl⟩; have c6 := c5 (n + n2))
                  go_roundw
                  case rel => exact ⟨m + 1, _, by omega, by omega, by go_num, rfl⟩
                  case measure => simp [intOf]; omega
                · rw [hbit] at C
                  rw [hbit] at c5
                  go_wp2_with (go_at_call 18; refine C.out.mono ?_; rintro e w' ⟨rfl, n2, rfl⟩; have c6 := c5 (n + n2))
                  go_roundw
                  case rel => exact ⟨m + 1, _, by omega, by omega, by go_num, rfl⟩
                  case measure => simp [intOf]; omega
              · rw [show hasW x z = false by
                  obtain ⟨m, rfl⟩ : ∃ m : Nat, z = m := ⟨z.toNat, by omega⟩
                  rw [show hasW x (m : Int) = (x).testBit m by simp [hasW]]
                  exact no_bit HXK.out (by omega)] at C
                go_wp2_with (go_at_call 18; refine C.out.mono ?_; rintro e w' ⟨rfl, n2, rfl⟩)
                go_roundw
                case rel => exact ⟨z + 1, _, by omega, by omega, by go_num, rfl⟩
                case measure => simp [intOf]; omega
          · go_wp2
            go_ret
            exact ⟨rfl, below_drewN (below_of_grown HG8.out) _⟩
    · have hpa := ans_yes hp0
      have c1 := A6.out.bit np (by omega)
      generalize x.testBit np = t1 at c1
      have c2 := A6.out.thaw np
      have A7 := hide (A6.out.put (t := true) (by omega) (put_bits hp0))
      have S7 := hide (HS6.out.kept (W' := w6.setCell ⟨B, np, none⟩ (.bool true)) ((grownBy_set w6 B np (.bool true)).block b HS6.out.lt (by have := HB2.out; simp; omega)))
      have G7 := hide (grown_spoil G6.out HB1.out (grownBy_set w6 B np (.bool true)))
      clear A6 HS6 G6
      rcases three k drop with ⟨hd0, hdf⟩ | ⟨nd, hd0, rfl⟩ | ⟨hd0, hd1, hdf⟩
      · have hda := ans_no hdf
        rw [dropW_no hdf] at S7
        have HA8 := A7
        have HS8 := S7
        have HG8 := G7
        clear A7 S7 G7
        have HXK := hide (HS8.out.small)
        go_wp2_with (first | (go_at_call 10; refine (num_to _ _).mono ?_; rintro e w' ⟨rfl, rfl⟩))
        go_loopw [24] (fun i W => ∃ (z : Int) (n : Nat), -2 ≤ z ∧ z ≤ 66 ∧ i = .int .i64 z ∧ W = (w6.setCell ⟨B, np, none⟩ (.bool true)).drewN n) (fun i _ => (66 - intOf i).toNat)
        case atStart => exact ⟨-2, 0, by omega, by omega, rfl, rfl⟩
        case round =>
          obtain ⟨z, n, hz1, hz2, rfl, rfl⟩ := hrel
          by_cases hz3 : z < 66
          · have C := hide (has_any b k (putW k x np) z _ (HS8.out.draws n))
            by_cases hz4 : z < 0
            · rw [show hasW (putW k x np) z = false by simp [hasW]; omega] at C
              go_wp2_with (go_at_call 18; refine C.out.mono ?_; rintro e w' ⟨rfl, n2, rfl⟩)
              go_roundw
              case rel => exact ⟨z + 1, _, by omega, by omega, by go_num, rfl⟩
              case measure => simp [intOf]; omega
            · by_cases hz5 : z < 64
              · obtain ⟨m, rfl⟩ : ∃ m : Nat, z = m := ⟨z.toNat, by omega⟩
                have c5 : ∀ n, ((w6.setCell ⟨B, np, none⟩ (.bool true)).drewN n).cell? ⟨B, m, none⟩ = some (.bool (((putW k x np)).testBit m)) := fun n => (HA8.out.draws n).bit m (by omega)
                rw [show hasW (putW k x np) (m : Int) = ((putW k x np)).testBit m by simp [hasW]] at C
                have hmin : min (m : Int) 63 = m := by omega
                have hmax : max 0 (m : Int) = m := by omega
                cases hbit : ((putW k x np)).testBit m
                · rw [hbit] at C
                  rw [hbit] at c5
                  go_wp2_with (go_at_call 18; refine C.out.mono ?_; rintro e w' ⟨rfl, n2, rfl⟩; have c6 := c5 (n + n2))
                  go_roundw
                  case rel => exact ⟨m + 1, _, by omega, by omega, by go_num, rfl⟩
                  case measure => simp [intOf]; omega
                · rw [hbit] at C
                  rw [hbit] at c5
                  go_wp2_with (go_at_call 18; refine C.out.mono ?_; rintro e w' ⟨rfl, n2, rfl⟩; have c6 := c5 (n + n2))
                  go_roundw
                  case rel => exact ⟨m + 1, _, by omega, by omega, by go_num, rfl⟩
                  case measure => simp [intOf]; omega
              · rw [show hasW (putW k x np) z = false by
                  obtain ⟨m, rfl⟩ : ∃ m : Nat, z = m := ⟨z.toNat, by omega⟩
                  rw [show hasW (putW k x np) (m : Int) = ((putW k x np)).testBit m by simp [hasW]]
                  exact no_bit HXK.out (by omega)] at C
                go_wp2_with (go_at_call 18; refine C.out.mono ?_; rintro e w' ⟨rfl, n2, rfl⟩)
                go_roundw
                case rel => exact ⟨z + 1, _, by omega, by omega, by go_num, rfl⟩
                case measure => simp [intOf]; omega
          · go_wp2
            go_ret
            exact ⟨rfl, below_drewN (below_of_grown HG8.out) _⟩
      · have hda := ans_yes hd0
        have d1 := A7.out.bit nd (by omega)
        generalize ((putW k x np)).testBit nd = t2 at d1
        have d2 := A7.out.thaw nd
        have HA8 := hide (A7.out.put (t := false) (by omega) (drop_bits hk' HX1.out hd0))
        have HS8 := hide (S7.out.kept (W' := (w6.setCell ⟨B, np, none⟩ (.bool true)).setCell ⟨B, nd, none⟩ (.bool false)) ((grownBy_set (w6.setCell ⟨B, np, none⟩ (.bool true)) B nd (.bool false)).block b S7.out.lt (by have := HB2.out; simp; omega)))
        have HG8 := hide (grown_spoil G7.out HB1.out (grownBy_set (w6.setCell ⟨B, np, none⟩ (.bool true)) B nd (.bool false)))
        clear A7 S7 G7
        have HXK := hide (HS8.out.small)
        go_wp2_with (first | (go_at_call 10; refine (num_to _ _).mono ?_; rintro e w' ⟨rfl, rfl⟩))
        go_loopw [24] (fun i W => ∃ (z : Int) (n : Nat), -2 ≤ z ∧ z ≤ 66 ∧ i = .int .i64 z ∧ W = ((w6.setCell ⟨B, np, none⟩ (.bool true)).setCell ⟨B, nd, none⟩ (.bool false)).drewN n) (fun i _ => (66 - intOf i).toNat)
        case atStart => exact ⟨-2, 0, by omega, by omega, rfl, rfl⟩
        case round =>
          obtain ⟨z, n, hz1, hz2, rfl, rfl⟩ := hrel
          by_cases hz3 : z < 66
          · have C := hide (has_any b k (dropW k (putW k x np) nd) z _ (HS8.out.draws n))
            by_cases hz4 : z < 0
            · rw [show hasW (dropW k (putW k x np) nd) z = false by simp [hasW]; omega] at C
              go_wp2_with (go_at_call 18; refine C.out.mono ?_; rintro e w' ⟨rfl, n2, rfl⟩)
              go_roundw
              case rel => exact ⟨z + 1, _, by omega, by omega, by go_num, rfl⟩
              case measure => simp [intOf]; omega
            · by_cases hz5 : z < 64
              · obtain ⟨m, rfl⟩ : ∃ m : Nat, z = m := ⟨z.toNat, by omega⟩
                have c5 : ∀ n, (((w6.setCell ⟨B, np, none⟩ (.bool true)).setCell ⟨B, nd, none⟩ (.bool false)).drewN n).cell? ⟨B, m, none⟩ = some (.bool (((dropW k (putW k x np) nd)).testBit m)) := fun n => (HA8.out.draws n).bit m (by omega)
                rw [show hasW (dropW k (putW k x np) nd) (m : Int) = ((dropW k (putW k x np) nd)).testBit m by simp [hasW]] at C
                have hmin : min (m : Int) 63 = m := by omega
                have hmax : max 0 (m : Int) = m := by omega
                cases hbit : ((dropW k (putW k x np) nd)).testBit m
                · rw [hbit] at C
                  rw [hbit] at c5
                  go_wp2_with (go_at_call 18; refine C.out.mono ?_; rintro e w' ⟨rfl, n2, rfl⟩; have c6 := c5 (n + n2))
                  go_roundw
                  case rel => exact ⟨m + 1, _, by omega, by omega, by go_num, rfl⟩
                  case measure => simp [intOf]; omega
                · rw [hbit] at C
                  rw [hbit] at c5
                  go_wp2_with (go_at_call 18; refine C.out.mono ?_; rintro e w' ⟨rfl, n2, rfl⟩; have c6 := c5 (n + n2))
                  go_roundw
                  case rel => exact ⟨m + 1, _, by omega, by omega, by go_num, rfl⟩
                  case measure => simp [intOf]; omega
              · rw [show hasW (dropW k (putW k x np) nd) z = false by
                  obtain ⟨m, rfl⟩ : ∃ m : Nat, z = m := ⟨z.toNat, by omega⟩
                  rw [show hasW (dropW k (putW k x np) nd) (m : Int) = ((dropW k (putW k x np) nd)).testBit m by simp [hasW]]
                  exact no_bit HXK.out (by omega)] at C
                go_wp2_with (go_at_call 18; refine C.out.mono ?_; rintro e w' ⟨rfl, n2, rfl⟩)
                go_roundw
                case rel => exact ⟨z + 1, _, by omega, by omega, by go_num, rfl⟩
                case measure => simp [intOf]; omega
          · go_wp2
            go_ret
            exact ⟨rfl, below_drewN (below_of_grown HG8.out) _⟩
      · have hda := ans_no hdf
        rw [dropW_no hdf] at S7
        have HA8 := A7
        have HS8 := S7
        have HG8 := G7
        clear A7 S7 G7
        have HXK := hide (HS8.out.small)
        go_wp2_with (first | (go_at_call 10; refine (num_to _ _).mono ?_; rintro e w' ⟨rfl, rfl⟩))
        go_loopw [24] (fun i W => ∃ (z : Int) (n : Nat), -2 ≤ z ∧ z ≤ 66 ∧ i = .int .i64 z ∧ W = (w6.setCell ⟨B, np, none⟩ (.bool true)).drewN n) (fun i _ => (66 - intOf i).toNat)
        case atStart => exact ⟨-2, 0, by omega, by omega, rfl, rfl⟩
        case round =>
          obtain ⟨z, n, hz1, hz2, rfl, rfl⟩ := hrel
          by_cases hz3 : z < 66
          · have C := hide (has_any b k (putW k x np) z _ (HS8.out.draws n))
            by_cases hz4 : z < 0
            · rw [show hasW (putW k x np) z = false by simp [hasW]; omega] at C
              go_wp2_with (go_at_call 18; refine C.out.mono ?_; rintro e w' ⟨rfl, n2, rfl⟩)
              go_roundw
              case rel => exact ⟨z + 1, _, by omega, by omega, by go_num, rfl⟩
              case measure => simp [intOf]; omega
            · by_cases hz5 : z < 64
              · obtain ⟨m, rfl⟩ : ∃ m : Nat, z = m := ⟨z.toNat, by omega⟩
                have c5 : ∀ n, ((w6.setCell ⟨B, np, none⟩ (.bool true)).drewN n).cell? ⟨B, m, none⟩ = some (.bool (((putW k x np)).testBit m)) := fun n => (HA8.out.draws n).bit m (by omega)
                rw [show hasW (putW k x np) (m : Int) = ((putW k x np)).testBit m by simp [hasW]] at C
                have hmin : min (m : Int) 63 = m := by omega
                have hmax : max 0 (m : Int) = m := by omega
                cases hbit : ((putW k x np)).testBit m
                · rw [hbit] at C
                  rw [hbit] at c5
                  go_wp2_with (go_at_call 18; refine C.out.mono ?_; rintro e w' ⟨rfl, n2, rfl⟩; have c6 := c5 (n + n2))
                  go_roundw
                  case rel => exact ⟨m + 1, _, by omega, by omega, by go_num, rfl⟩
                  case measure => simp [intOf]; omega
                · rw [hbit] at C
                  rw [hbit] at c5
                  go_wp2_with (go_at_call 18; refine C.out.mono ?_; rintro e w' ⟨rfl, n2, rfl⟩; have c6 := c5 (n + n2))
                  go_roundw
                  case rel => exact ⟨m + 1, _, by omega, by omega, by go_num, rfl⟩
                  case measure => simp [intOf]; omega
              · rw [show hasW (putW k x np) z = false by
                  obtain ⟨m, rfl⟩ : ∃ m : Nat, z = m := ⟨z.toNat, by omega⟩
                  rw [show hasW (putW k x np) (m : Int) = ((putW k x np)).testBit m by simp [hasW]]
                  exact no_bit HXK.out (by omega)] at C
                go_wp2_with (go_at_call 18; refine C.out.mono ?_; rintro e w' ⟨rfl, n2, rfl⟩)
                go_roundw
                case rel => exact ⟨z + 1, _, by omega, by omega, by go_num, rfl⟩
                case measure => simp [intOf]; omega
          · go_wp2
            go_ret
            exact ⟨rfl, below_drewN (below_of_grown HG8.out) _⟩
    · have hpa := ans_no hpf
      rw [putW_no hpf] at HS6
      rw [putW_no hpf] at HX1
      have A7 := A6
      have S7 := HS6
      have G7 := G6
      clear A6 HS6 G6
      rcases three k drop with ⟨hd0, hdf⟩ | ⟨nd, hd0, rfl⟩ | ⟨hd0, hd1, hdf⟩
      · have hda := ans_no hdf
        rw [dropW_no hdf] at S7
        have HA8 := A7
        have HS8 := S7
        have HG8 := G7
        clear A7 S7 G7
        have HXK := hide (HS8.out.small)
        go_wp2_with (first | (go_at_call 10; refine (num_to _ _).mono ?_; rintro e w' ⟨rfl, rfl⟩))
        go_loopw [24] (fun i W => ∃ (z : Int) (n : Nat), -2 ≤ z ∧ z ≤ 66 ∧ i = .int .i64 z ∧ W = (w6).drewN n) (fun i _ => (66 - intOf i).toNat)
        case atStart => exact ⟨-2, 0, by omega, by omega, rfl, rfl⟩
        case round =>
          obtain ⟨z, n, hz1, hz2, rfl, rfl⟩ := hrel
          by_cases hz3 : z < 66
          · have C := hide (has_any b k x z _ (HS8.out.draws n))
            by_cases hz4 : z < 0
            · rw [show hasW x z = false by simp [hasW]; omega] at C
              go_wp2_with (go_at_call 18; refine C.out.mono ?_; rintro e w' ⟨rfl, n2, rfl⟩)
              go_roundw
              case rel => exact ⟨z + 1, _, by omega, by omega, by go_num, rfl⟩
              case measure => simp [intOf]; omega
            · by_cases hz5 : z < 64
              · obtain ⟨m, rfl⟩ : ∃ m : Nat, z = m := ⟨z.toNat, by omega⟩
                have c5 : ∀ n, ((w6).drewN n).cell? ⟨B, m, none⟩ = some (.bool ((x).testBit m)) := fun n => (HA8.out.draws n).bit m (by omega)
                rw [show hasW x (m : Int) = (x).testBit m by simp [hasW]] at C
                have hmin : min (m : Int) 63 = m := by omega
                have hmax : max 0 (m : Int) = m := by omega
                cases hbit : (x).testBit m
                · rw [hbit] at C
                  rw [hbit] at c5
                  go_wp2_with (go_at_call 18; refine C.out.mono ?_; rintro e w' ⟨rfl, n2, rfl⟩; have c6 := c5 (n + n2))
                  go_roundw
                  case rel => exact ⟨m + 1, _, by omega, by omega, by go_num, rfl⟩
                  case measure => simp [intOf]; omega
                · rw [hbit] at C
                  rw [hbit] at c5
                  go_wp2_with (go_at_call 18; refine C.out.mono ?_; rintro e w' ⟨rfl, n2, rfl⟩; have c6 := c5 (n + n2))
                  go_roundw
                  case rel => exact ⟨m + 1, _, by omega, by omega, by go_num, rfl⟩
                  case measure => simp [intOf]; omega
              · rw [show hasW x z = false by
                  obtain ⟨m, rfl⟩ : ∃ m : Nat, z = m := ⟨z.toNat, by omega⟩
                  rw [show hasW x (m : Int) = (x).testBit m by simp [hasW]]
                  exact no_bit HXK.out (by omega)] at C
                go_wp2_with (go_at_call 18; refine C.out.mono ?_; rintro e w' ⟨rfl, n2, rfl⟩)
                go_roundw
                case rel => exact ⟨z + 1, _, by omega, by omega, by go_num, rfl⟩
                case measure => simp [intOf]; omega
          · go_wp2
            go_ret
            exact ⟨rfl, below_drewN (below_of_grown HG8.out) _⟩
      · have hda := ans_yes hd0
        have d1 := A7.out.bit nd (by omega)
        generalize (x).testBit nd = t2 at d1
        have d2 := A7.out.thaw nd
        have HA8 := hide (A7.out.put (t := false) (by omega) (drop_bits hk' HX1.out hd0))
        have HS8 := hide (S7.out.kept (W' := (w6).setCell ⟨B, nd, none⟩ (.bool false)) ((grownBy_set (w6) B nd (.bool false)).block b S7.out.lt (by have := HB2.out; simp; omega)))
        have HG8 := hide (grown_spoil G7.out HB1.out (grownBy_set (w6) B nd (.bool false)))
        clear A7 S7 G7
        have HXK := hide (HS8.out.small)
        go_wp2_with (first | (go_at_call 10; refine (num_to _ _).mono ?_; rintro e w' ⟨rfl, rfl⟩))
        go_loopw [24] (fun i W => ∃ (z : Int) (n : Nat), -2 ≤ z ∧ z ≤ 66 ∧ i = .int .i64 z ∧ W = ((w6).setCell ⟨B, nd, none⟩ (.bool false)).drewN n) (fun i _ => (66 - intOf i).toNat)
        case atStart => exact ⟨-2, 0, by omega, by omega, rfl, rfl⟩
        case round =>
          obtain ⟨z, n, hz1, hz2, rfl, rfl⟩ := hrel
          by_cases hz3 : z < 66
          · have C := hide (has_any b k (dropW k x nd) z _ (HS8.out.draws n))
            by_cases hz4 : z < 0
            · rw [show hasW (dropW k x nd) z = false by simp [hasW]; omega] at C
              go_wp2_with (go_at_call 18; refine C.out.mono ?_; rintro e w' ⟨rfl, n2, rfl⟩)
              go_roundw
              case rel => exact ⟨z + 1, _, by omega, by omega, by go_num, rfl⟩
              case measure => simp [intOf]; omega
            · by_cases hz5 : z < 64
              · obtain ⟨m, rfl⟩ : ∃ m : Nat, z = m := ⟨z.toNat, by omega⟩
                have c5 : ∀ n, (((w6).setCell ⟨B, nd, none⟩ (.bool false)).drewN n).cell? ⟨B, m, none⟩ = some (.bool (((dropW k x nd)).testBit m)) := fun n => (HA8.out.draws n).bit m (by omega)
                rw [show hasW (dropW k x nd) (m : Int) = ((dropW k x nd)).testBit m by simp [hasW]] at C
                have hmin : min (m : Int) 63 = m := by omega
                have hmax : max 0 (m : Int) = m := by omega
                cases hbit : ((dropW k x nd)).testBit m
                · rw [hbit] at C
                  rw [hbit] at c5
                  go_wp2_with (go_at_call 18; refine C.out.mono ?_; rintro e w' ⟨rfl, n2, rfl⟩; have c6 := c5 (n + n2))
                  go_roundw
                  case rel => exact ⟨m + 1, _, by omega, by omega, by go_num, rfl⟩
                  case measure => simp [intOf]; omega
                · rw [hbit] at C
                  rw [hbit] at c5
                  go_wp2_with (go_at_call 18; refine C.out.mono ?_; rintro e w' ⟨rfl, n2, rfl⟩; have c6 := c5 (n + n2))
                  go_roundw
                  case rel => exact ⟨m + 1, _, by omega, by omega, by go_num, rfl⟩
                  case measure => simp [intOf]; omega
              · rw [show hasW (dropW k x nd) z = false by
                  obtain ⟨m, rfl⟩ : ∃ m : Nat, z = m := ⟨z.toNat, by omega⟩
                  rw [show hasW (dropW k x nd) (m : Int) = ((dropW k x nd)).testBit m by simp [hasW]]
                  exact no_bit HXK.out (by omega)] at C
                go_wp2_with (go_at_call 18; refine C.out.mono ?_; rintro e w' ⟨rfl, n2, rfl⟩)
                go_roundw
                case rel => exact ⟨z + 1, _, by omega, by omega, by go_num, rfl⟩
                case measure => simp [intOf]; omega
          · go_wp2
            go_ret
            exact ⟨rfl, below_drewN (below_of_grown HG8.out) _⟩
      · have hda := ans_no hdf
        rw [dropW_no hdf] at S7
        have HA8 := A7
        have HS8 := S7
        have HG8 := G7
        clear A7 S7 G7
        have HXK := hide (HS8.out.small)
        go_wp2_with (first | (go_at_call 10; refine (num_to _ _).mono ?_; rintro e w' ⟨rfl, rfl⟩))
        go_loopw [24] (fun i W => ∃ (z : Int) (n : Nat), -2 ≤ z ∧ z ≤ 66 ∧ i = .int .i64 z ∧ W = (w6).drewN n) (fun i _ => (66 - intOf i).toNat)
        case atStart => exact ⟨-2, 0, by omega, by omega, rfl, rfl⟩
        case round =>
          obtain ⟨z, n, hz1, hz2, rfl, rfl⟩ := hrel
          by_cases hz3 : z < 66
          · have C := hide (has_any b k x z _ (HS8.out.draws n))
            by_cases hz4 : z < 0
            · rw [show hasW x z = false by simp [hasW]; omega] at C
              go_wp2_with (go_at_call 18; refine C.out.mono ?_; rintro e w' ⟨rfl, n2, rfl⟩)
              go_roundw
              case rel => exact ⟨z + 1, _, by omega, by omega, by go_num, rfl⟩
              case measure => simp [intOf]; omega
            · by_cases hz5 : z < 64
              · obtain ⟨m, rfl⟩ : ∃ m : Nat, z = m := ⟨z.toNat, by omega⟩
                have c5 : ∀ n, ((w6).drewN n).cell? ⟨B, m, none⟩ = some (.bool ((x).testBit m)) := fun n => (HA8.out.draws n).bit m (by omega)
                rw [show hasW x (m : Int) = (x).testBit m by simp [hasW]] at C
                have hmin : min (m : Int) 63 = m := by omega
                have hmax : max 0 (m : Int) = m := by omega
                cases hbit : (x).testBit m
                · rw [hbit] at C
                  rw [hbit] at c5
                  go_wp2_with (go_at_call 18; refine C.out.mono ?_; rintro e w' ⟨rfl, n2, rfl⟩; have c6 := c5 (n + n2))
                  go_roundw
                  case rel => exact ⟨m + 1, _, by omega, by omega, by go_num, rfl⟩
                  case measure => simp [intOf]; omega
                · rw [hbit] at C
                  rw [hbit] at c5
                  go_wp2_with (go_at_call 18; refine C.out.mono ?_; rintro e w' ⟨rfl, n2, rfl⟩; have c6 := c5 (n + n2))
                  go_roundw
                  case rel => exact ⟨m + 1, _, by omega, by omega, by go_num, rfl⟩
                  case measure => simp [intOf]; omega
              · rw [show hasW x z = false by
                  obtain ⟨m, rfl⟩ : ∃ m : Nat, z = m := ⟨z.toNat, by omega⟩
                  rw [show hasW x (m : Int) = (x).testBit m by simp [hasW]]
                  exact no_bit HXK.out (by omega)] at C
                go_wp2_with (go_at_call 18; refine C.out.mono ?_; rintro e w' ⟨rfl, n2, rfl⟩)
                go_roundw
                case rel => exact ⟨z + 1, _, by omega, by omega, by go_num, rfl⟩
                case measure => simp [intOf]; omega
          · go_wp2
            go_ret
            exact ⟨rfl, below_drewN (below_of_grown HG8.out) _⟩
#print axioms sets_walk
end Go.Proofs.YthphkcblifkmeaaDoor
