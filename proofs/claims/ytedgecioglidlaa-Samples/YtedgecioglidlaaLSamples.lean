/- The walk of the law Samples: whatever the numbers, it answers true and makes new memory alone. -/
import Derived.Test.YtedgecioglidlaaSamp
namespace Go.Proofs.Ytedgecioglidlaa
open Go.RowKit
attribute [local go_sem] alloc_drewN setCell_drewN

theorem bit1 (z : Int) : bits .and .i64 z 1 ≤ 1 := by
  have key : (BitVec.ofInt 64 z &&& BitVec.ofInt 64 1).toNat = (BitVec.ofInt 64 z).toNat % 2 := by
    rw [BitVec.toNat_and]
    exact Nat.and_two_pow_sub_one_eq_mod _ 1
  show IntKind.i64.wrap ((BitVec.ofInt 64 z &&& BitVec.ofInt 64 1).toNat : Nat) ≤ 1
  rw [key, IntKind.wrap_i64]
  generalize (BitVec.ofInt 64 z).toNat = x
  omega
set_option maxRecDepth 100000 in
set_option maxHeartbeats 4000000 in
theorem samples_any (a : Option Addr) (len cap : Nat) (zs : List Int) (m : Int) (w : World) (h : RowAt shN 0 w (.slice a len cap) zs) :
    Calls Try.prog 3 #[.slice a len cap, .int .i64 m] w fun e w' => e = .returned (.bool true) ∧ w.grownBy w' none := by
  have hlen : len = zs.length := by
    obtain ⟨_, a', cap', e, _⟩ := h
    simp only [Value.slice.injEq] at e
    exact e.2.1
  have hmax := h.1
  have HA := hide awake_any
  have HR := hide (fun W => h.grown (W := W))
  have HW := hide h
  clear h
  have HB := hide bit1
  go_enter Try.func3, Try.ntmps3
  go_wp2_with (first | fail)
  refine (new_any w).mono ?_; rintro e w1 ⟨rfl, r1, g1⟩
  generalize hB : w.heap.size = B at *
  have HL := hide (show w.heap.size ≤ B by omega)
  clear hB
  have R1 := hide r1
  have G1 := hide g1
  clear r1 g1
  go_wp2_with (first | fail)
  refine (read_any B 0 false w1 R1.out).mono ?_; rintro e w2 ⟨rfl, hg⟩
  have R2 := hide (R1.out.grown hg (by simp))
  have G2 := hide (grownBy_trans G1.out hg)
  clear hg R1 G1
  go_wp2_with (first | fail)
  go_loopw [8] (fun i W => ∃ (j : Nat) (x : Int) (s : Bool), j ≤ len ∧ j ≤ 60 ∧ i = .int .i64 j ∧ Samp W B x s ∧ w.grownBy W none) (fun i _ => 60 - (intOf i).toNat)
  case atStart => exact ⟨0, 0, false, by omega, by omega, rfl, R2.out, G2.out⟩
  case round =>
    clear R2 G2
    obtain ⟨j, x, s, hj, hj', rfl, hS, hG⟩ := hrel
    have HS := hide hS
    have HG := hide hG
    clear hS hG
    by_cases h4 : j < len
    · by_cases h5 : j < 60
      · obtain ⟨y, hy⟩ : ∃ y, zs[j]? = some y := ⟨zs[j]'(by omega), List.getElem?_eq_getElem _⟩
        obtain ⟨_, a2, cap2, e2, hc⟩ := HW.out
        simp only [Value.slice.injEq] at e2
        obtain ⟨rfl, -, rfl⟩ := e2
        obtain ⟨g, o, rfl, -, -⟩ := hc (by omega)
        clear hc
        have hcell : ∀ W, w.grownBy W none → W.cell? ⟨g, o + j, none⟩ = some (.int .i64 y) := fun W hg => by
          obtain ⟨_, a3, cap3, e3, hc3⟩ := HR.out W hg
          simp only [Value.slice.injEq] at e3
          obtain ⟨rfl, -, rfl⟩ := e3
          obtain ⟨g', o', e4, -, hc4⟩ := hc3 (by omega)
          simp only [Option.some.injEq, Addr.mk.injEq] at e4
          obtain ⟨rfl, rfl, -⟩ := e4
          have := hc4 j y hy 0 _ rfl
          simpa [shN] using this
        have HC := hide hcell
        clear hcell
        have c1 := HC.out _ HG.out
        go_wp2_with (first | fail)
        refine (write_any B x y s _ HS.out).mono ?_; rintro e w3 ⟨rfl, r3, hg⟩
        have R3 := hide r3
        have G3 := hide (grown_spoil HG.out HL.out hg)
        clear c1 hg r3 HS HG
        go_wp2_with (first | fail)
        go_loopw [9] (fun i W => ∃ (k : Nat), k ≤ 2 ∧ i = .int .i64 k ∧ Samp W B y true ∧ w.grownBy W none) (fun i _ => 2 - (intOf i).toNat)
        case atStart => exact ⟨0, by omega, rfl, R3.out, G3.out⟩
        case round =>
          clear R3 G3
          obtain ⟨k, hk, rfl, hS, hG⟩ := hrel
          have HS := hide hS
          have HG := hide hG
          clear hS hG
          go_wp2_with (first | fail)
          · have hk1 : k ≤ 1 := by have := HB.out (m / 2 ^ j); omega
            refine (read_any B y true wr HS.out).mono ?_; rintro e w5 ⟨rfl, hg⟩
            have R5 := hide (HS.out.grown hg (by simp))
            have G5 := hide (grownBy_trans HG.out hg)
            clear hg HS HG
            have c1 := HC.out _ G5.out
            go_wp2_with (first | fail)
            go_roundw
            case rel => exact ⟨k + 1, by omega, by go_num, R5.out, G5.out⟩
            case measure => simp [intOf]; omega
          · exact ⟨⟨j + 1, y, true, by omega, by omega, by go_num, HS.out, HG.out⟩, by simp [intOf]; omega⟩
      · go_wp2_with (go_at_call 8; refine (HA.out _).mono ?_; rintro e w' ⟨rfl, hg⟩)
        go_ret
        exact ⟨rfl, grownBy_trans HG.out hg⟩
    · go_wp2_with (go_at_call 8; refine (HA.out _).mono ?_; rintro e w' ⟨rfl, hg⟩)
      go_ret
      exact ⟨rfl, grownBy_trans HG.out hg⟩
#print axioms samples_any
end Go.Proofs.Ytedgecioglidlaa
