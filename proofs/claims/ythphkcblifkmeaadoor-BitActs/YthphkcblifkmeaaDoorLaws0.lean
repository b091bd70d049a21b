/- Contracts of the statements' own small functions Num and SameInts, proved over the translation. -/
import Derived.Test.YthphkcblifkmeaaDoorCommon
namespace Go.Proofs.YthphkcblifkmeaaDoor
open Go.RowKit
attribute [local go_sem] alloc_drewN setCell_drewN

theorem num_any (e : Int) (w : World) :
    Calls Tryd.prog 10 #[.int .i64 e] w fun r w' => r = .returned (.int .i64 e) ∧ w' = w := by
  go_enter Tryd.func10, Tryd.ntmps10
  go_wp2
  go_ret
  exact ⟨rfl, rfl⟩

set_option maxRecDepth 100000 in
set_option maxHeartbeats 1000000 in
theorem same_any (u v : Value) (zs : List Int) (hz : zs.length ≤ 9223372036854775807) (w : World) (hu : Reads w u zs) (hv : Reads w v zs) :
    Calls Tryd.prog 20 #[u, v] w fun e w' => e = .returned (.bool true) ∧ ∃ n, w' = w.drewN n := by
  obtain ⟨a, cap, rfl, ha⟩ := hu
  obtain ⟨b, cap', rfl, hb⟩ := hv
  have HA := hide ha
  have HB := hide hb
  clear ha hb
  generalize hN : zs.length = N at *
  clear hN
  go_enter Tryd.func20, Tryd.ntmps20
  go_wp2
  go_loopw [5] (fun i W => ∃ (j n : Nat), j ≤ N ∧ i = .int .i64 j ∧ W = w.drewN n) (fun i _ => N - (intOf i).toNat)
  case atStart => exact ⟨0, 0, by omega, rfl, rfl⟩
  case round =>
    obtain ⟨j, n, hj, rfl, rfl⟩ := hrel
    by_cases hlt : j < N
    · obtain ⟨g, o, rfl, hc⟩ := HA.out (by omega)
      obtain ⟨g', o', rfl, hc'⟩ := HB.out (by omega)
      have c1 := hc j hlt
      have c2 := hc' j hlt
      clear hc hc'
      go_wp2
      go_quiet (fail)
      go_wp2
      go_roundw
      case rel => exact ⟨j + 1, _, by omega, by go_num, rfl⟩
      case measure => simp [intOf]; omega
    · go_wp2
      go_ret
      exact ⟨rfl, _, rfl⟩

#print axioms same_any
end Go.Proofs.YthphkcblifkmeaaDoor
