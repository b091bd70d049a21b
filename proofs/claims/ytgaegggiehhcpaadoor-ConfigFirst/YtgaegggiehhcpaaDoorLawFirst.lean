/- The walk of the statement ConfigFirst, all ways together; proved over the translation. -/
import Derived.Test.YtgaegggiehhcpaaDoorLawFa000
import Derived.Test.YtgaegggiehhcpaaDoorLawFa001
import Derived.Test.YtgaegggiehhcpaaDoorLawFa010
import Derived.Test.YtgaegggiehhcpaaDoorLawFa011
import Derived.Test.YtgaegggiehhcpaaDoorLawFa100
import Derived.Test.YtgaegggiehhcpaaDoorLawFa101
import Derived.Test.YtgaegggiehhcpaaDoorLawFa110
import Derived.Test.YtgaegggiehhcpaaDoorLawFa111
namespace Go.Proofs.YtgaegggiehhcpaaDoor
open Go.RowKit
attribute [local go_sem] alloc_drewN setCell_drewN

theorem configFirst_any (a : Int) (w : World) (hT : Tab w) :
    Calls Tryd.prog 6 #[.int .i64 a] w fun e w' => e = .returned (.bool true) ∧ w.grownBy w' none := by
  by_cases h32 : bits .and .i64 a 32 = 32
  · by_cases h16 : bits .and .i64 a 16 = 16
    · by_cases h8 : bits .and .i64 a 8 = 8
      · exact first_111 a h32 h16 h8 w hT
      · exact first_110 a h32 h16 h8 w hT
    · by_cases h8 : bits .and .i64 a 8 = 8
      · exact first_101 a h32 h16 h8 w hT
      · exact first_100 a h32 h16 h8 w hT
  · by_cases h16 : bits .and .i64 a 16 = 16
    · by_cases h8 : bits .and .i64 a 8 = 8
      · exact first_011 a h32 h16 h8 w hT
      · exact first_010 a h32 h16 h8 w hT
    · by_cases h8 : bits .and .i64 a 8 = 8
      · exact first_001 a h32 h16 h8 w hT
      · exact first_000 a h32 h16 h8 w hT

#print axioms configFirst_any
end Go.Proofs.YtgaegggiehhcpaaDoor
