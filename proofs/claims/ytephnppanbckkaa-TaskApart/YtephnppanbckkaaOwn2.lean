/- Rows of the call's own that lie apart. -/
import Derived.Test.YtephnppanbckkaaAw
import Derived.Test.YtephnppanbckkaaAmath
namespace Go.Proofs.Ytephnppanbckkaa
open Go.RowKit

/-- Two rows of the call's own lie in blocks of their own. -/
def Far (v v2 : Value) : Prop := ∀ g, v.ownBlock = some g → v2.ownBlock ≠ some g
theorem Own.far {base : Nat} {W W1 : World} {v v2 : Value} {xs : List Int} (h : Own base W v xs) (hg : W.grownBy W1 v2.ownBlock) (hn : Far v v2) : Own base W1 v xs := by
  refine World.ownsRow.kept h hg ?_
  cases hv : v.ownBlock with
  | none => exact .inl rfl
  | some k => exact .inr fun e => hn k hv e.symm
theorem far_new {base e size n B : Nat} {W : World} {v v2 : Value} {xs : List Value} (h : W.ownsRow base e size v n xs) (hb : B ≤ base) (h2 : ∀ g, v2.ownBlock = some g → g < B) : Far v v2 := fun g hg e => by
  have h3 := (h.lt g hg).1
  have h4 := h2 g e
  omega
theorem far_nil (v2 : Value) (c : Nat) : Far (.slice none 0 c) v2 := fun g hg => by simp [Value.ownBlock] at hg
theorem own_n {base k : Nat} {W : World} {v : Value} {zs : List Int} (hk : zs.length = k) (h : Own base W v zs) : W.ownsRow base 3 1 v k (shN.cells zs) := by
  unfold Own at h
  rwa [hk] at h
theorem n_own {base k : Nat} {W : World} {v : Value} {zs : List Int} (hk : zs.length = k) (h : W.ownsRow base 3 1 v k (shN.cells zs)) : Own base W v zs := by
  unfold Own
  rwa [hk]
#print axioms n_own
end Go.Proofs.Ytephnppanbckkaa
