/- The walk of the statement ConfigLaid: how a configuration is laid; proved over the translation. -/
import Derived.Test.YtgaegggiehhcpaaDoorAwake
namespace Go.Proofs.YtgaegggiehhcpaaDoor
open Go.RowKit
attribute [local go_sem] alloc_drewN setCell_drewN

theorem strOfNums_append (a b : List Int) : strOfNums (a ++ b) = strOfNums a ++ strOfNums b := by
  have : (strOfNums (a ++ b)).data = (strOfNums a ++ strOfNums b).data := by
    rw [ByteArray.data_append]
    simp [strOfNums]
  exact ByteArray.ext this
/-- x & (2^k - 1). -/
theorem and_low (z : Int) (k : Nat) (hk : k < 63) (m : Int) (hm2 : (BitVec.ofInt 64 m).toNat = 2 ^ k - 1) : bits .and .i64 z m = z % 2 ^ k := by
  have key : (BitVec.ofInt 64 z &&& BitVec.ofInt 64 m).toNat = (z % ((2 ^ 64 : Nat) : Int)).toNat % 2 ^ k := by
    rw [BitVec.toNat_and, BitVec.toNat_ofInt, hm2, Nat.and_two_pow_sub_one_eq_mod]
  show IntKind.i64.wrap ((BitVec.ofInt 64 z &&& BitVec.ofInt 64 m).toNat : Nat) = z % 2 ^ k
  rw [key, IntKind.wrap_i64]
  have hp : (2 : Nat) ^ k ∣ 2 ^ 64 := Nat.pow_dvd_pow 2 (by omega)
  have hlt : (2 : Nat) ^ k ≤ 2 ^ 62 := Nat.pow_le_pow_right (by decide) (by omega)
  have hpos : 0 < (2 : Nat) ^ k := Nat.pow_pos (by decide)
  have e1 : (((z % ((2 ^ 64 : Nat) : Int)).toNat % 2 ^ k : Nat) : Int) = z % 2 ^ k := by
    rw [Int.natCast_emod, Int.toNat_of_nonneg (Int.emod_nonneg _ (by decide))]
    have : ((2 ^ k : Nat) : Int) ∣ ((2 ^ 64 : Nat) : Int) := Int.natCast_dvd_natCast.2 hp
    rw [Int.emod_emod_of_dvd _ this]
    simp
  have h2 : (z % ((2 ^ 64 : Nat) : Int)).toNat % 2 ^ k < 2 ^ k := Nat.mod_lt _ hpos
  rw [← e1]
  have h3 : (((z % ((2 ^ 64 : Nat) : Int)).toNat % 2 ^ k : Nat) : Int) < 4611686018427387904 := by
    have : (2 : Nat) ^ 62 = 4611686018427387904 := by decide
    omega
  generalize (z % ((2 ^ 64 : Nat) : Int)).toNat % 2 ^ k = x at *
  omega
theorem and127 (z : Int) : ∃ c : Int, 0 ≤ c ∧ c ≤ 127 ∧ bits .and .i64 z 127 = c := ⟨z % 128, by omega, by omega, and_low z 7 (by decide) 127 (by decide)⟩
theorem and15 (z : Int) : ∃ c : Int, 0 ≤ c ∧ c ≤ 15 ∧ bits .and .i64 z 15 = c := ⟨z % 16, by omega, by omega, and_low z 4 (by decide) 15 (by decide)⟩
theorem and511 (z : Int) : ∃ c : Int, 0 ≤ c ∧ c ≤ 511 ∧ bits .and .i64 z 511 = c := ⟨z % 512, by omega, by omega, and_low z 9 (by decide) 511 (by decide)⟩
theorem and255 (z : Int) : ∃ c : Int, 0 ≤ c ∧ c ≤ 255 ∧ bits .and .i64 z 255 = c := ⟨z % 256, by omega, by omega, and_low z 8 (by decide) 255 (by decide)⟩
theorem and63 (z : Int) : ∃ c : Int, 0 ≤ c ∧ c ≤ 63 ∧ bits .and .i64 z 63 = c := ⟨z % 64, by omega, by omega, and_low z 6 (by decide) 63 (by decide)⟩
def laidC (f q p a : Int) : ConfV := ⟨f, q, [⟨1, [⟨1, p, 3, 1, 2, a⟩], [(1, a)]⟩, ⟨0, [], []⟩], [⟨1, 5, 1⟩], [⟨1, 0, 1, 6⟩]⟩
theorem laid_ok (f q p a : Int) (f0 : 5 ≤ f) (f1 : f ≤ 132) (q0 : 1 ≤ q) (q1 : q ≤ 16) (p0 : 3 ≤ p) (p1 : p ≤ 514) (a0 : 0 ≤ a) (a1 : a ≤ 255) : checkN (laidC f q p a) = 0 := by
  have e1 : frameB f q = true := by simp [frameB]; omega
  have e2 : taskMay ⟨1, p, 3, 1, 2, a⟩ = true := by simp [taskMay]; omega
  have e3 : winB 0 f 2 ⟨1, 5, 1⟩ = true := by simp [winB, isPartB]; omega
  have e4 : insMay 1 (1, a) = true := by
    have : most 1 1 = 256 := rfl
    simp [insMay, isOpB, this]; omega
  have r1 : List.range 1 = [0] := rfl
  have r2 : List.range 2 = [0, 1] := rfl
  simp [checkN, laidC, e1, partsB, allB, r1, r2, levelB, partAt, tasksB, taskOK, taskAt, e2, anyPrio, winsB, winAt, endAt, e3, portsB, portB, portAt, isLevelB, isPartB, sizeB, codeMay, e4]
theorem laid_bytes (f q p a : Int) (f0 : 5 ≤ f) (f1 : f ≤ 132) (q0 : 1 ≤ q) (q1 : q ≤ 16) (p0 : 3 ≤ p) (p1 : p ≤ 514) (a0 : 0 ≤ a) (a1 : a ≤ 255) : layConf (laidC f q p a) = [78, 67, 0] ++ [f, q] ++ [2, 1, 1, 1] ++ [p / 256, p % 256] ++ [0, 3, 0, 1, 0, 2] ++ [a, 1, 1, a] ++ [0, 0, 0, 1, 0, 1, 0, 5, 1, 1, 1, 0, 1, 6] := by
  have h1 : f / 256 % 256 = 0 := by omega
  have h2 : f % 256 = f := by omega
  have h3 : q % 256 = q := by omega
  have h4 : p / 256 % 256 = p / 256 := by omega
  have h5 : a % 256 = a := by omega
  simp [layConf, laidC, layAll, layPart, layTask, layIns, layWin, layPort, be, h1, h2, h3, h4, h5]
#print axioms laid_bytes

#print axioms laid_ok
end Go.Proofs.YtgaegggiehhcpaaDoor
