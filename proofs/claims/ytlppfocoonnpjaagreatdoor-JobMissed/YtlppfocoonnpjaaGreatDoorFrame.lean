/- What came in, opened: whole numbers alone need nothing here; the table of operations is Laid's. -/
import Derived.Test.YtlppfocoonnpjaaGreatDoorLaid
namespace Go.Proofs.YtlppfocoonnpjaaGreatDoor
theorem tab_laid {W : World} (h : laidMetH Tryz.prog [("nocturn/code.operations", Rows.laid_nocturn_code_operations)] W) : Tab W := tab_of_laid h
end Go.Proofs.YtlppfocoonnpjaaGreatDoor
