/- What whole numbers are in a row. -/
import Derived.Test.YtiffpmleeaenjaaCommon
namespace Go.Proofs.Ytiffpmleeaenjaa
open Go.RowKit

def shN : Shape Int := ⟨1, fun x => [.int .i64 x], fun _ => rfl, by decide, fun x u h => by simp at h; subst h; rfl⟩
#print axioms shN
end Go.Proofs.Ytiffpmleeaenjaa
