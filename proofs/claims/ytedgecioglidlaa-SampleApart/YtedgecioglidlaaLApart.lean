/- The walk of the law SampleApart: whatever the numbers, it answers true and makes new memory alone. -/
import Derived.Test.YtedgecioglidlaaSamp
namespace Go.Proofs.Ytedgecioglidlaa
open Go.RowKit
attribute [local go_sem] alloc_drewN setCell_drewN

theorem low31 (j : Nat) : ∃ c : Nat, c ≤ 31 ∧ bits .and .i64 (j : Int) 31 = (c : Int) := by
  refine ⟨(BitVec.ofInt 64 (j : Int)).toNat % 32, by omega, ?_⟩
  have key : (BitVec.ofInt 64 (j : Int) &&& BitVec.ofInt 64 31).toNat = (BitVec.ofInt 64 (j : Int)).toNat % 32 := by
    rw [BitVec.toNat_and]
    exact Nat.and_two_pow_sub_one_eq_mod _ 5
  show IntKind.i64.wrap ((BitVec.ofInt 64 (j : Int) &&& BitVec.ofInt 64 31).toNat : Nat) = _
  rw [key, IntKind.wrap_i64]
  generalize (BitVec.ofInt 64 (j : Int)).toNat = x
  omega
set_option maxRecDepth 100000 in
set_option maxHeartbeats 4000000 in
theorem apart_any (a : Option Addr) (len cap : Nat) (zs : List Int) (m : Int) (w : World) (h : RowAt shN 0 w (.slice a len cap) zs) :
    Calls Try.prog 4 #[.slice a len cap, .int .i64 m] w fun e w' => e = .returned (.bool true) ∧ w.grownBy w' none := by
  have hlen : len = zs.length := by
    obtain ⟨_, a', cap', e, _⟩ := h
    simp only [Value.slice.injEq] at e
    exact e.2.1
  have hmax := h.1
  have HR := hide (fun W => h.grown (W := W))
  have HW := hide h
  clear h
  have CN := hide (num_to 0)
  go_enter Try.func4, Try.ntmps4
  go_wp2_with (first | fail)
  refine (awake_any w).mono ?_; rintro e w1 ⟨rfl, g1⟩
  have HL1 := hide g1.size
  have G1 := hide g1
  clear g1
  go_wp2_with (first | fail)
  refine (new_any w1).mono ?_; rintro e w2 ⟨rfl, r2, g2⟩
  have HL2 := hide r2.lt
  generalize hA : w1.heap.size = A at *
  clear hA
  have A2 := hide r2
  have G2 := hide (grownBy_trans G1.out g2)
  clear r2 g2 G1
  go_wp2_with (first | fail)
  refine (new_any w2).mono ?_; rintro e w3 ⟨rfl, r3, g3⟩
  have A3 := hide (A2.out.grown g3 (by simp))
  generalize hB : w2.heap.size = B at *
  clear hB
  have B3 := hide r3
  have G3 := hide (grownBy_trans G2.out g3)
  clear r3 g3 A2 G2
  have HLB := hide (show w.heap.size ≤ B from Nat.le_trans HL1.out (Nat.le_of_lt HL2.out))
  go_wp2_with (first | (go_at_call 9; refine (CN.out _).mono ?_; rintro e w' ⟨rfl, rfl⟩))
  go_loopw [7, 8, 9, 10, 11] (fun vx vy vs vt i W => ∃ (j : Nat) (x y : Int) (s t : Bool), j ≤ len ∧ j ≤ 50 ∧ vx = .int .i64 x ∧ vy = .int .i64 y ∧ vs = .bool s ∧ vt = .bool t ∧ i = .int .i64 j ∧ Samp W A x s ∧ Samp W B y t ∧ w.grownBy W none) (fun _ _ _ _ i _ => 50 - (intOf i).toNat)
  case atStart => exact ⟨0, 0, 0, false, false, by omega, by omega, rfl, rfl, rfl, rfl, rfl, A3.out, B3.out, G3.out⟩
  case round =>
    clear A3 B3 G3
    obtain ⟨j, x, y, s, t, hj, hj', rfl, rfl, rfl, rfl, rfl, hSA, hSB, hG⟩ := hrel
    have HA := hide hSA
    have HB := hide hSB
    have HG := hide hG
    clear hSA hSB hG
    by_cases h4 : j < len
    · by_cases h5 : j < 50
      · obtain ⟨z, hz⟩ : ∃ z, zs[j]? = some z := ⟨zs[j]'(by omega), List.getElem?_eq_getElem _⟩
        obtain ⟨_, a2, cap2, e2, hc⟩ := HW.out
        simp only [Value.slice.injEq] at e2
        obtain ⟨rfl, -, rfl⟩ := e2
        obtain ⟨g, o, rfl, -, -⟩ := hc (by omega)
        clear hc
        have hcell : ∀ W, w.grownBy W none → W.cell? ⟨g, o + j, none⟩ = some (.int .i64 z) := fun W hg => by
          obtain ⟨_, a3, cap3, e3, hc3⟩ := HR.out W hg
          simp only [Value.slice.injEq] at e3
          obtain ⟨rfl, -, rfl⟩ := e3
          obtain ⟨g', o', e4, -, hc4⟩ := hc3 (by omega)
          simp only [Option.some.injEq, Addr.mk.injEq] at e4
          obtain ⟨rfl, rfl, -⟩ := e4
          have := hc4 j z hz 0 _ rfl
          simpa [shN] using this
        have HC := hide hcell
        clear hcell
        obtain ⟨c, hc31, hbit⟩ := low31 j
        have c1 := HC.out _ HG.out
        go_wp2_with (first | fail)
        · refine (write_any A x z s _ HA.out).mono ?_; rintro e w4 ⟨rfl, r4, hg⟩
          have A4 := hide r4
          have B4 := hide (HB.out.grown hg (by have := HL2.out; simp; omega))
          have G4 := hide (grown_spoil HG.out HL1.out hg)
          clear c1 hg r4 HA HB HG
          have c1 := HC.out _ G4.out
          go_wp2_with (first | fail)
          refine (read_any A z true _ A4.out).mono ?_; rintro e w5 ⟨rfl, hg⟩
          have A5 := hide (A4.out.grown hg (by simp))
          have B5 := hide (B4.out.grown hg (by simp))
          have G5 := hide (grownBy_trans G4.out hg)
          clear c1 hg A4 B4 G4
          go_wp2_with (first | fail)
          refine (read_any B y t _ B5.out).mono ?_; rintro e w6 ⟨rfl, hg⟩
          have A6 := hide (A5.out.grown hg (by simp))
          have B6 := hide (B5.out.grown hg (by simp))
          have G6 := hide (grownBy_trans G5.out hg)
          clear hg A5 B5 G5
          go_wp2_with (first | fail)
          go_roundw
          case rel => exact ⟨j + 1, z, y, true, t, by omega, by omega, rfl, rfl, rfl, rfl, by go_num, A6.out, B6.out, G6.out⟩
          case measure => simp [intOf]; omega
        · refine (write_any B y z t _ HB.out).mono ?_; rintro e w4 ⟨rfl, r4, hg⟩
          have B4 := hide r4
          have A4 := hide (HA.out.grown hg (by have := HL2.out; simp; omega))
          have G4 := hide (grown_spoil HG.out HLB.out hg)
          clear c1 hg r4 HA HB HG
          have c1 := HC.out _ G4.out
          go_wp2_with (first | fail)
          refine (read_any A x s _ A4.out).mono ?_; rintro e w5 ⟨rfl, hg⟩
          have A5 := hide (A4.out.grown hg (by simp))
          have B5 := hide (B4.out.grown hg (by simp))
          have G5 := hide (grownBy_trans G4.out hg)
          clear c1 hg A4 B4 G4
          go_wp2_with (first | fail)
          refine (read_any B z true _ B5.out).mono ?_; rintro e w6 ⟨rfl, hg⟩
          have A6 := hide (A5.out.grown hg (by simp))
          have B6 := hide (B5.out.grown hg (by simp))
          have G6 := hide (grownBy_trans G5.out hg)
          clear hg A5 B5 G5
          go_wp2_with (first | fail)
          go_roundw
          case rel => exact ⟨j + 1, x, z, s, true, by omega, by omega, rfl, rfl, rfl, rfl, by go_num, A6.out, B6.out, G6.out⟩
          case measure => simp [intOf]; omega
      · go_wp2_with (first | (go_at_call 9; refine (CN.out _).mono ?_; rintro e w' ⟨rfl, rfl⟩))
        go_ret
        exact ⟨rfl, HG.out⟩
    · go_wp2_with (first | (go_at_call 9; refine (CN.out _).mono ?_; rintro e w' ⟨rfl, rfl⟩))
      go_ret
      exact ⟨rfl, HG.out⟩
#print axioms apart_any
end Go.Proofs.Ytedgecioglidlaa
