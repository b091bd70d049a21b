/- The low bits of a number. -/
import Derived.Test.YtlppfocoonnpjaaGreatDoorCommon
namespace Go.Proofs.YtlppfocoonnpjaaGreatDoor.L
open Go.RowKit

theorem and_low (z : Int) (k : Nat) (hk : k < 63) (m : Int) (hm2 : (BitVec.ofInt 64 m).toNat = 2 ^ k - 1) : bits .and .i64 z m = z % 2 ^ k := by
  have key : (BitVec.ofInt 64 z &&& BitVec.ofInt 64 m).toNat = (z % ((2 ^ 64 : Nat) : Int)).toNat % 2 ^ k := by
    rw [BitVec.toNat_and, BitVec.toNat_ofInt, hm2, Nat.and_two_pow_sub_one_eq_mod]
  show IntKind.i64.wrap ((BitVec.ofInt 64 z &&& BitVec.ofInt 64 m).toNat : Nat) = z % 2 ^ k
  rw [key, IntKind.wrap_i64]
  have hp : (2 : Nat) ^ k ∣ 2 ^ 64 := Nat.pow_dvd_pow 2 (by omega)
  have hlt : (2 : Nat) ^ k ≤ 2 ^ 62 := Nat.pow_le_pow_right (by decide) (by omega)
  have hpos : 0 < (2 : Nat) ^ k := Nat.pow_pos (by decide)
  have e1 : (((z % ((2 ^ 64 : Nat) : Int)).toNat % 2 ^ k : Nat) : Int) = z % 2 ^ k := by
    rw [Int.natCast_emod, Int.toNat_of_nonneg (Int.emod_nonneg _ (by decide))]
    have : ((2 ^ k : Nat) : Int) ∣ ((2 ^ 64 : Nat) : Int) := Int.natCast_dvd_natCast.2 hp
    rw [Int.emod_emod_of_dvd _ this]
    simp
  have h2 : (z % ((2 ^ 64 : Nat) : Int)).toNat % 2 ^ k < 2 ^ k := Nat.mod_lt _ hpos
  rw [← e1]
  have h3 : (((z % ((2 ^ 64 : Nat) : Int)).toNat % 2 ^ k : Nat) : Int) < 4611686018427387904 := by
    have : (2 : Nat) ^ 62 = 4611686018427387904 := by decide
    omega
  generalize (z % ((2 ^ 64 : Nat) : Int)).toNat % 2 ^ k = x at *
  omega
theorem and4 (z : Int) : ∃ c : Nat, c ≤ 15 ∧ bits .and .i64 z 15 = (c : Int) := ⟨(z % 16).toNat, by omega, by rw [and_low z 4 (by decide) 15 (by decide)]; omega⟩
theorem and6 (z : Int) : ∃ c : Nat, c ≤ 63 ∧ bits .and .i64 z 63 = (c : Int) := ⟨(z % 64).toNat, by omega, by rw [and_low z 6 (by decide) 63 (by decide)]; omega⟩
theorem and9 (z : Int) : ∃ c : Nat, c ≤ 511 ∧ bits .and .i64 z 511 = (c : Int) := ⟨(z % 512).toNat, by omega, by rw [and_low z 9 (by decide) 511 (by decide)]; omega⟩
theorem and3 (z : Int) : ∃ c : Nat, c ≤ 7 ∧ bits .and .i64 z 7 = (c : Int) := ⟨(z % 8).toNat, by omega, by rw [and_low z 3 (by decide) 7 (by decide)]; omega⟩
theorem and2 (z : Int) : ∃ c : Nat, c ≤ 3 ∧ bits .and .i64 z 3 = (c : Int) := ⟨(z % 4).toNat, by omega, by rw [and_low z 2 (by decide) 3 (by decide)]; omega⟩
theorem and10 (z : Int) : ∃ c : Nat, c ≤ 1023 ∧ bits .and .i64 z 1023 = (c : Int) := ⟨(z % 1024).toNat, by omega, by rw [and_low z 10 (by decide) 1023 (by decide)]; omega⟩
theorem and11 (z : Int) : ∃ c : Nat, c ≤ 2047 ∧ bits .and .i64 z 2047 = (c : Int) := ⟨(z % 2048).toNat, by omega, by rw [and_low z 11 (by decide) 2047 (by decide)]; omega⟩
theorem and20 (z : Int) : ∃ c : Nat, c ≤ 1048575 ∧ bits .and .i64 z 1048575 = (c : Int) := ⟨(z % 1048576).toNat, by omega, by rw [and_low z 20 (by decide) 1048575 (by decide)]; omega⟩
theorem and5 (z : Int) : ∃ c : Nat, c ≤ 31 ∧ bits .and .i64 z 31 = (c : Int) := ⟨(z % 32).toNat, by omega, by rw [and_low z 5 (by decide) 31 (by decide)]; omega⟩
theorem and1 (z : Int) : ∃ c : Nat, c ≤ 1 ∧ bits .and .i64 z 1 = (c : Int) := ⟨(z % 2).toNat, by omega, by rw [and_low z 1 (by decide) 1 (by decide)]; omega⟩
theorem and8 (z : Int) : ∃ c : Nat, c ≤ 255 ∧ bits .and .i64 z 255 = (c : Int) := ⟨(z % 256).toNat, by omega, by rw [and_low z 8 (by decide) 255 (by decide)]; omega⟩
#print axioms and9
end Go.Proofs.YtlppfocoonnpjaaGreatDoor.L
