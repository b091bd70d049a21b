/- The walk of the statement FrameCounts: a part's share is the ticks of a frame that are its; frames repeat; proved over the translation. -/
import Derived.Test.YtgaegggiehhcpabDoorAw6
import Derived.Test.YtgaegggiehhcpabDoorCmath
namespace Go.Proofs.YtgaegggiehhcpabDoor.P6
open Go.RowKit
attribute [local go_sem] alloc_drewN setCell_drewN

/-- x & (2^k - 1). -/
theorem and_low (z : Int) (k : Nat) (hk : k < 63) (m : Int) (hm2 : (BitVec.ofInt 64 m).toNat = 2 ^ k - 1) : bits .and .i64 z m = z % 2 ^ k := by
  have key : (BitVec.ofInt 64 z &&& BitVec.ofInt 64 m).toNat = (z % ((2 ^ 64 : Nat) : Int)).toNat % 2 ^ k := by
    rw [BitVec.toNat_and, BitVec.toNat_ofInt, hm2, Nat.and_two_pow_sub_one_eq_mod]
  show IntKind.i64.wrap ((BitVec.ofInt 64 z &&& BitVec.ofInt 64 m).toNat : Nat) = z % 2 ^ k
  rw [key, IntKind.wrap_i64]
  have hp : (2 : Nat) ^ k ∣ 2 ^ 64 := Nat.pow_dvd_pow 2 (by omega)
  have hlt : (2 : Nat) ^ k ≤ 2 ^ 62 := Nat.pow_le_pow_right (by decide) (by omega)
  have hpos : 0 < (2 : Nat) ^ k := Nat.pow_pos (by decide)
  have e1 : (((z % ((2 ^ 64 : Nat) : Int)).toNat % 2 ^ k : Nat) : Int) = z % 2 ^ k := by
    rw [Int.natCast_emod, Int.toNat_of_nonneg (Int.emod_nonneg _ (by decide))]
    have : ((2 ^ k : Nat) : Int) ∣ ((2 ^ 64 : Nat) : Int) := Int.natCast_dvd_natCast.2 hp
    rw [Int.emod_emod_of_dvd _ this]
    simp
  have h2 : (z % ((2 ^ 64 : Nat) : Int)).toNat % 2 ^ k < 2 ^ k := Nat.mod_lt _ hpos
  rw [← e1]
  have h3 : (((z % ((2 ^ 64 : Nat) : Int)).toNat % 2 ^ k : Nat) : Int) < 4611686018427387904 := by
    have : (2 : Nat) ^ 62 = 4611686018427387904 := by decide
    omega
  generalize (z % ((2 ^ 64 : Nat) : Int)).toNat % 2 ^ k = x at *
  omega
theorem and20 (z : Int) : ∃ c : Int, 0 ≤ c ∧ c ≤ 1048575 ∧ bits .and .i64 z 1048575 = c := ⟨z % 1048576, by omega, by omega, and_low z 20 (by decide) 1048575 (by decide)⟩

/-- Eight counters in a block of their own; all below it is as it was. -/
structure Cn (w3 : World) (B : Nat) (f : Nat → Int) (W : World) : Prop where
  below : Below B w3 W
  size : B < W.heap.size
  cell : ∀ p, p < 8 → W.cell? ⟨B, p, none⟩ = some (.int .i64 (f p))
  free : ∀ p, p < 8 → W.frozen? ⟨B, p, none⟩ = false
theorem Cn.grown {w3 W W' : World} {B : Nat} {f : Nat → Int} (h : Cn w3 B f W) (hg : W.grownBy W' none) : Cn w3 B f W' := by
  have e := hg.block B h.size (by simp)
  exact ⟨grown_below0 h.below hg (by have := h.size; omega), Nat.lt_of_lt_of_le h.size hg.size, fun p hp => (World.cell?_of_block (a := ⟨B, p, none⟩) e).trans (h.cell p hp), fun p hp => (World.frozen?_of_block (a := ⟨B, p, none⟩) e).trans (h.free p hp)⟩
theorem Cn.set {w3 W : World} {B : Nat} {f g : Nat → Int} (h : Cn w3 B f W) (q : Nat) (x : Int) (hx : g q = x) (hg : ∀ p, p ≠ q → g p = f p) (hq : q < 8) : Cn w3 B g (W.setCell ⟨B, q, none⟩ (.int .i64 x)) where
  below := grown_below h.below (grownBy_set W B q _) (by have := h.size; omega) (Nat.le_refl _)
  size := by have := h.size; simpa [World.setCell] using this
  cell := fun p hp => by
    by_cases e : p = q
    · subst e
      rw [hx]
      exact World.cell?_setCell_same' _ _ _ (by rw [h.cell p hp]; rfl)
    · rw [other W B p q _ (fun e' => e e'.symm), hg p e]
      exact h.cell p hp
  free := fun p hp => by rw [World.frozen?_setCell]; exact h.free p hp
end Go.Proofs.YtgaegggiehhcpabDoor.P6
