/- The walk of the law BitRound: it answers true and turns nothing that was there, wherever the library's table is. -/
import Derived.Test.YthphkcblifkmeaaDoorTurns
namespace Go.Proofs.YthphkcblifkmeaaDoor
open Go.RowKit
attribute [local go_sem] alloc_drewN setCell_drewN

/-- The law's tables and the Set while it goes round. -/
structure RndSt (w W : World) (B b D x y : Nat) : Prop where
  arr : ArrAt W B x
  set : SetAt W b 64 x
  seen : ArrAt W D y
  grown : w.grownBy W none
  le : w.heap.size ≤ D
  ne : B ≠ D
  ne' : b ≠ D
theorem RndSt.draws {w W : World} {B b D x y : Nat} (h : RndSt w W B b D x y) (n : Nat) : RndSt w (W.drewN n) B b D x y :=
  ⟨h.arr.draws n, h.set.draws n, h.seen.draws n, grownBy_trans h.grown (grownBy_draws _ _ _), h.le, h.ne, h.ne'⟩
theorem RndSt.put {w W : World} {B b D x y r : Nat} (h : RndSt w W B b D x y) (hr : r < 64) : RndSt w (W.setCell ⟨D, r, none⟩ (.bool true)) B b D x (putW 64 y r) :=
  ⟨h.arr.kept ((grownBy_set W D r _).block B h.arr.lt (by simpa using fun e => h.ne e)), h.set.kept ((grownBy_set W D r _).block b h.set.lt (by simpa using fun e => h.ne' e)), h.seen.put hr (put_bits hr), grown_spoil h.grown h.le (grownBy_set _ _ _ _), h.le, h.ne, h.ne'⟩

set_option maxRecDepth 100000 in
set_option maxHeartbeats 4000000 in
theorem round_walk (v : Value) (from' : Int) (zs : List Int) (hz : zs.length ≤ 9223372036854775807) (w : World) (hT : Tab w) (hv : Reads w v zs) :
    Calls Tryd.prog 4 #[v, .int .i64 from'] w fun e w' => e = .returned (.bool true) ∧ Below w.heap.size w w' := by
  have HR := hide (fun W => hv.grown (W := W))
  obtain ⟨a, cap, rfl, -⟩ := hv
  generalize hN : zs.length = N at *
  have HN := hide hN
  clear hN
  go_enter Tryd.func4, Tryd.ntmps4
  go_wp2_with (first | fail)
  refine (awake_any w hT).mono ?_; rintro e w1 ⟨rfl, g1⟩
  go_upto_block 0 with fail
  have hS : ArrSt w (w1.alloc (.cells (Array.replicate 64 (.bool false)) 42)) w1.heap.size 64 0 (.slice none 0 0) [] :=
    ⟨arr_new _ _, World.ownsRow_nil _ _ _ _, grownBy_trans g1 (World.grownBy_alloc _ _ _), g1.size, rfl⟩
  have h00 : (mem 0 64).length = 0 := by decide
  clear g1
  go_cut [5, 7] (fun v c wx => ∃ (j x : Nat) (xs : List Int), j ≤ 64 ∧ xs.length = j ∧ c = .int .i64 (mem x 64).length ∧ ArrSt w wx w1.heap.size 64 x v xs)
  case first =>
    go_wp2_with (first | fail)
    go_loopw [5, 7, 8] (fun v c i W => ∃ (j x : Nat) (xs : List Int), j ≤ N ∧ j ≤ 64 ∧ i = .int .i64 j ∧ xs.length = j ∧ c = .int .i64 (mem x 64).length ∧ ArrSt w W w1.heap.size 64 x v xs) (fun _ _ i _ => 64 - (intOf i).toNat)
    case atStart => exact ⟨0, 0, [], by omega, by omega, rfl, rfl, by rw [h00]; rfl, hS⟩
    case round =>
      clear hS h00
      obtain ⟨j, x, xs, hj, hj', rfl, hl, rfl, hS⟩ := hrel
      have hml := mem_length x 64
      have hown := hS.own
      rw [hl] at hown
      obtain ⟨a', cap', rfl⟩ := own_form hown
      have HO := hide hown
      have HL := hide hl
      clear hl hown
      by_cases h4 : j < N
      · by_cases h5 : j < 64
        · obtain ⟨a2, cap2, e2, hc⟩ := HR.out wr hS.grown
          simp only [Value.slice.injEq] at e2
          obtain ⟨rfl, -, rfl⟩ := e2
          obtain ⟨g, o, rfl, hc2⟩ := hc (by rw [HN.out]; omega)
          have hcell := hc2 j (by rw [HN.out]; exact h4)
          clear hc hc2
          generalize zs[j]?.getD 0 = z at hcell
          obtain ⟨m, hm, hm1, hm2⟩ := and63 z
          have HS := hide hS
          have HB := hide hS.arr.lt
          have hthaw : ∀ W2, ((wr.alloc (.cells #[.int .i64 m] 3)).drewN 0).grownBy W2 (Value.slice a' j cap').ownBlock → W2.cell? ⟨w1.heap.size, m, none⟩ = some (.bool (x.testBit m)) ∧ W2.frozen? ⟨w1.heap.size, m, none⟩ = false := fun W2 hg => by
            have hB := below_of_own hS.arr.lt (fun g hg => (hS.own.lt g hg).1) hg
            have := hS.arr.kept (hB.block _ (Nat.lt_succ_self _))
            exact ⟨this.bit m (by omega), this.thaw m⟩
          have HH := hide hthaw
          clear hS hthaw
          go_wp2_with (first | (at_builtin; refine app_ints _ rfl _ _ rfl (w1.heap.size + 1) (.slice a' j cap') j xs rfl ?c0 ⟨wr.heap.size, 0, none⟩ 1 1 [(m : Int)] rfl rfl ?c1 ?c2 ?c3 ?_))
          case c0 => exact HO.out.alloc _
          case c1 =>
            intro i hi
            match i, hi with
            | 0, _ => simp [Addr.add]
          case c2 => omega
          case c3 => have := HB.out; simp; omega
          intro a3 cap3 w3 hown3 hgrow3
          obtain ⟨c5, c6⟩ := HH.out w3 hgrow3
          have HS3 := hide (HS.out.next hgrow3 HL.out hown3 hm (by omega))
          clear hown3 hgrow3 HH HB
          cases hbit : x.testBit m
          · have HM := hide (mem_put_new hm hbit)
            rw [hbit] at c5
            clear hbit
            generalize hq : (mem x 64).length = q at *
            have HQ := hide hq
            clear hq
            go_wp2
            go_roundw
            case rel => exact ⟨j + 1, _, _, by omega, by omega, by go_num, by simp [HL.out], by rw [HM.out]; go_num, HS3.out⟩
            case measure => simp [intOf]; omega
          · have HM := hide (mem_put_old hbit)
            rw [hbit] at c5
            clear hbit
            generalize hq : (mem x 64).length = q at *
            have HQ := hide hq
            clear hq
            go_wp2
            go_roundw
            case rel => exact ⟨j + 1, _, _, by omega, by omega, by go_num, by simp [HL.out], by rw [HM.out], HS3.out⟩
            case measure => simp [intOf]; omega
        · have HS := hide hS
          clear hS
          go_wp2
          go_meet
          case rel => exact ⟨j, x, xs, hj', HL.out, rfl, HS.out⟩
      · have HS := hide hS
        clear hS
        go_wp2
        go_meet
        case rel => exact ⟨j, x, xs, hj', HL.out, rfl, HS.out⟩
  case rest =>
    clear hS h00
    obtain ⟨j, x, xs, hj, hl, rfl, hS⟩ := hcut
    have HB1 := hide hS.le
    generalize w1.heap.size = B at *
    clear w1
    have hown := hS.own
    rw [hl] at hown
    obtain ⟨a', cap', rfl⟩ := own_form hown
    have C1 := hide (new_yes 64 (by decide) (by decide) (.slice a' j cap') xs x hS.new (by omega) wc (reads_own (by rw [hl]; exact hown)))
    have HA := hide hS.arr
    have HG := hide hS.grown
    have hml := mem_length x 64
    generalize hq : (mem x 64).length = q at *
    have HQ := hide hq
    clear hS hown hl hq
    go_wp2_with (first | fail)
    refine C1.out.mono ?_; rintro e w2 ⟨b, hb, rfl, S2, g2⟩
    obtain ⟨f, hf, hf1, hf2⟩ := and63 from'
    have HX := hide S2.small
    have hS2 : RndSt w (w2.alloc (.cells (Array.replicate 64 (.bool false)) 42)) B b w2.heap.size x 0 := by
      have A2 := HA.out.kept (g2.block B HA.out.lt (by simp))
      refine ⟨A2.kept (Below.heap_alloc w2 _ B A2.lt), S2.kept (Below.heap_alloc w2 _ b S2.lt), arr_new _ _, grownBy_trans (grownBy_trans HG.out g2) (World.grownBy_alloc _ _ _), (grownBy_trans HG.out g2).size, ?_, ?_⟩
      · have := A2.lt; omega
      · have := S2.lt; omega
    have HS2 := hide hS2
    clear hS2 S2 g2 hb HA HG C1
    go_wp2_with (first | (go_at_call 10; refine (num_to _ _).mono ?_; rintro e w' ⟨rfl, rfl⟩))
    generalize w2.heap.size = D at *
    go_loopw [12, 14] (fun t i W => ∃ (c d y : Nat), c ≤ q ∧ i = .int .i64 c ∧ t = .int .i64 d ∧ d < 64 ∧ RndSt w W B b D x y ∧ Rnd x q c d y) (fun _ i _ => q - (intOf i).toNat)
    case atStart => exact ⟨0, f, 0, by omega, rfl, rfl, hf, HS2.out, .inl ⟨rfl, rfl⟩⟩
    case round =>
      clear HS2
      obtain ⟨c, d, y, hc, rfl, rfl, hd, hS, hr⟩ := hrel
      have HS := hide hS
      have HRn := hide hr
      clear hS hr
      by_cases hlt : c < q
      · have hx0 : 0 < x := by
          rcases Nat.eq_zero_or_pos x with e | e
          · exfalso
            have h1 := HQ.out
            rw [e, (mem_none (x := 0) (n := 64) (by decide)).2 rfl] at h1
            simp at h1
            omega
          · exact e
        have C := hide (next_some b 64 x d hx0 wr (hT.grown HS.out.grown (by simp)) HS.out.set)
        go_wp2_with (first | fail)
        refine C.out.mono ?_; rintro e w' ⟨r, rfl, hn, n1, rfl⟩
        obtain ⟨hr64, hxr, hyr, hrn⟩ := rnd_step HX.out HQ.out hlt HRn.out hn
        have HS1 := hide (HS.out.draws n1)
        have HNx := hide hn
        have HRn' := hide hrn
        have c1 := HS1.out.arr.bit r hr64
        rw [hxr] at c1
        have c2 := HS1.out.seen.bit r hr64
        rw [hyr] at c2
        have c3 := HS1.out.seen.thaw r
        clear hn hrn hxr hyr C HRn
        go_wp2_with (first | fail)
        go_loop [17] (fun i => ∃ s : Nat, d < s ∧ s ≤ 64 ∧ i = .int .i64 s) (fun i => r - (intOf i).toNat)
        case atStart => exact ⟨d + 1, by omega, by omega, by go_num⟩
        case round =>
          obtain ⟨s, hs1, hs2, rfl⟩ := hrel
          by_cases hsr : s < r
          · have c4 := HS1.out.arr.bit s (by omega)
            rw [next_between HNx.out s hs1 hsr] at c4
            go_wp2
            go_round
            case rel => exact ⟨s + 1, by omega, by omega, by go_num⟩
            case measure => simp [intOf]; omega
          · go_wp2
            go_roundw
            case rel => exact ⟨c + 1, r, _, by omega, by go_num, rfl, hr64, HS1.out.put hr64, HRn'.out⟩
            case measure => simp [intOf]; omega
      · have e : c = q := by omega
        subst e
        rcases Nat.eq_zero_or_pos x with hx0 | hx0
        · subst hx0
          have hq0 : c = 0 := by
            have h1 := HQ.out
            rw [(mem_none (x := 0) (n := 64) (by decide)).2 rfl] at h1
            simpa using h1.symm
          subst hq0
          have C := hide (next_none b 64 d wr HS.out.set)
          have C2 := hide (all_any b 64 0 wr HS.out.set)
          rw [HQ.out] at C2
          go_wp2_with (first | fail)
          refine C.out.mono ?_; rintro e w' ⟨rfl, hw'⟩
          subst hw'
          go_wp2_with (first | fail)
          refine C2.out.mono ?_; rintro e w4 ⟨u, rfl, ho, g4⟩
          obtain ⟨a4, cap4, rfl⟩ := own_form ho
          have HG4 := hide (grownBy_trans HS.out.grown g4)
          clear ho g4
          go_wp2
          go_ret
          exact ⟨rfl, below_of_grown HG4.out⟩
        · have hq0 : 0 < c := by
            rcases Nat.eq_zero_or_pos c with e | e
            · exfalso
              have h1 := HQ.out
              rw [e] at h1
              have := (mem_none (x := x) (n := 64) HX.out).1 (List.length_eq_zero_iff.1 h1)
              omega
            · exact e
          have C := hide (next_some b 64 x d hx0 wr (hT.grown HS.out.grown (by simp)) HS.out.set)
          have C2 := hide (fun n => all_any b 64 x (wr.drewN n) (HS.out.set.draws n))
          rw [HQ.out] at C2
          go_wp2_with (first | fail)
          refine C.out.mono ?_; rintro e w' ⟨r, rfl, -, n1, rfl⟩
          go_wp2_with (first | fail)
          refine (C2.out n1).mono ?_; rintro e w4 ⟨u, rfl, ho, g4⟩
          obtain ⟨a4, cap4, rfl⟩ := own_form ho
          have HG4 := hide (grownBy_trans HS.out.grown (grownBy_trans (grownBy_draws _ n1 _) g4))
          clear ho g4
          go_wp2
          go_ret
          exact ⟨rfl, below_of_grown HG4.out⟩
#print axioms round_walk
end Go.Proofs.YthphkcblifkmeaaDoor
