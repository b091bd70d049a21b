/- A region that draws its order, whose operations only read and whose callees make new memory alone: one walk in the order of the text, over the class of the worlds that have grown from the first one. -/
import Derived.Test.YtlppfocoonnpjaaGreatDoorJCmp
namespace Go.Proofs.YtlppfocoonnpjaaGreatDoor.J
open Go.RowKit

theorem class_of (w1 : World) : ∃ (U : Type) (_ : Nonempty U) (F : U → World), Hid (∀ u, w1.grownBy (F u) none) ∧ Hid (∀ W, w1.grownBy W none → ∃ u, W = F u) :=
  ⟨{ W : World // w1.grownBy W none }, ⟨⟨w1, grownBy_refl _ _⟩⟩, Subtype.val, fun u => u.2, fun W h => ⟨⟨W, h⟩, rfl⟩⟩
theorem wp_region_quiet_in {P : Program} {id : Nat} {Q : Exit → Act → World → Prop} {a : Act} {w : World} {l : List Oper} {U : Type} (F : U → World) (hm : P.follows .mixedOrders = true) (hB : Region.lexB .any l.toArray = true)
    (h0 : ∃ u, ({ w with drawn := w.drawn + 1 } : World) = F u)
    (h : wpQuiet P l.toArray (fun w' => ∃ u, w' = F u) (fun a' => ∀ w', (∃ u, w' = F u) → Q .normal a' w') l a) : (Code.region id l.toArray true).wp P Q a w :=
  wp_region_quiet (C := fun w' => ∃ u, w' = F u) hm hB h0 (by simpa using h)
theorem drew_grown (w : World) : w.grownBy ({ w with drawn := w.drawn + 1 } : World) none := ⟨rfl, rfl, rfl, Nat.le_refl _, fun _ _ _ => rfl⟩
theorem calls_in {P : Program} {f : FuncId} {args : Array Value} {w1 W : World} {v : Value} {U : Type} {F : U → World} (HR : Hid (∀ W, w1.grownBy W none → ∃ u, W = F u)) (hW : w1.grownBy W none)
    (h : Calls P f args W fun e w' => e = .returned v ∧ W.grownBy w' none) : Calls P f args W fun e w'' => e = .returned v ∧ ∃ u, w'' = F u :=
  h.mono fun _ _ ⟨he, hg⟩ => ⟨he, HR.out _ (grownBy_trans hW hg)⟩
theorem calls_in_same {P : Program} {f : FuncId} {args : Array Value} {w1 W : World} {v : Value} {U : Type} {F : U → World} (HR : Hid (∀ W, w1.grownBy W none → ∃ u, W = F u)) (hW : w1.grownBy W none)
    (h : Calls P f args W fun e w' => e = .returned v ∧ w' = W) : Calls P f args W fun e w'' => e = .returned v ∧ ∃ u, w'' = F u :=
  h.mono fun _ _ ⟨he, hg⟩ => ⟨he, HR.out _ (by rw [hg]; exact hW)⟩
#print axioms calls_in
end Go.Proofs.YtlppfocoonnpjaaGreatDoor.J
