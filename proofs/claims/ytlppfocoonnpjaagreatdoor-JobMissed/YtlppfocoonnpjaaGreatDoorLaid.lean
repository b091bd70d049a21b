/- From the rows' list to the walks' premise: the table of operations as its initialiser lays it. -/
import Derived.Test.YtlppfocoonnpjaaGreatDoorTab
import Derived.LaidLaws
import Derived.OpenShut
import Derived.ChangeSame
import Derived.Lib.LaidTab
namespace Go.Proofs.YtlppfocoonnpjaaGreatDoor
open Go.RowKit Go.ChangeShapes Go.WideShapes

def opList : List (List UInt8 × Int) := [([110, 111, 112], 1), ([99, 111, 110, 115, 116], 256), ([108, 111, 97, 100], 16), ([115, 116, 111, 114, 101], 16), ([97, 100, 100], 16), ([115, 117, 98], 16), ([106, 117, 109, 112], -1), ([122, 101, 114, 111], -1), ([105, 110], 1), ([111, 117, 116], 8), ([103, 101, 116], 8), ([104, 97, 108, 116], 1)]
theorem laid_eq : (Rows.laid_nocturn_code_operations : DataW Unit) = .agg (opList.map fun x => .agg [.lit (.string x.1), .lit (.int .i64 x.2)]) := rfl
theorem opList_at (j : Nat) (h : j < 12) : ∃ x, opList[j]? = some x ∧ x.1 ≠ [] ∧ x.2 = opBelow j := by
  have hall : ((List.range 12).all fun j => match opList[j]? with | some x => x.1 != [] && x.2 == opBelow j | none => false) = true := by decide
  have := List.all_eq_true.1 hall j (List.mem_range.2 h)
  cases hx : opList[j]? with
  | none => rw [hx] at this; cases this
  | some x =>
    rw [hx] at this
    simp only [Bool.and_eq_true, bne_iff_ne, beq_iff_eq] at this
    exact ⟨x, rfl, this.1, this.2⟩
theorem gTab : Tryz.prog.globalNamed "nocturn/code.operations" = some 0 := by kernel_rfl
theorem gTabType : (Tryz.prog.globals[0]?).map (·.type) = some 191 := by kernel_rfl
theorem cells130 : Tryz.prog.cellsOf 190 = 2 := by kernel_rfl
theorem cells9 : Tryz.prog.cellsOf 9 = 1 := by kernel_rfl
theorem cells3 : Tryz.prog.cellsOf 3 = 1 := by kernel_rfl

theorem tab_of_laid {W : World} (h : laidMetH Tryz.prog [("nocturn/code.operations", Rows.laid_nocturn_code_operations)] W) : Tab W := by
  have h' : laidMet Tryz.prog [("nocturn/code.operations", Rows.laid_nocturn_code_operations)] W := h
  obtain ⟨ps, ⟨g', t', cs, fuel, p, q, hg', ht', hvar, hd, _, _⟩, _⟩ := h'
  obtain rfl := Option.some.inj (gTab.symm.trans hg')
  obtain rfl := Option.some.inj (gTabType.symm.trans ht')
  rw [laid_eq] at hd
  obtain ⟨xs, m, rfl, hx, hl, hxl, hall⟩ := DataW.trod_array Tryz.underlying191 hd
  intro j hj
  have he := hall j hj
  obtain ⟨y, hy⟩ : ∃ y, xs[j]? = some y := ⟨xs[j]'(by omega), List.getElem?_eq_getElem (by omega)⟩
  rw [hy, cells130] at he
  obtain ⟨y0, y1, n, rfl, _, h0, h1⟩ := trod_struct2 Tryz.underlying190 he
  obtain ⟨s, hcs, rfl, _⟩ := DataW.trod_string Tryz.underlying9 h0
  obtain ⟨z, hcz, rfl, _⟩ := DataW.trod_int Tryz.underlying3 h1
  obtain ⟨x, hxo, hne, hbe⟩ := opList_at j hj
  have e := congrArg (fun d : DataW Unit × List MemPlace => match d.1 with | .agg l => l[j]? | _ => none) hx
  simp only [List.getElem?_map, hxo, hy, Option.map_some, Option.some.injEq, DataW.agg.injEq, List.cons.injEq, DataW.lit.injEq, Lit.string.injEq, Lit.int.injEq, true_and, and_true] at e
  have c0 := congrArg (·[0]?) hcs
  have c1 := congrArg (·[0]?) hcz
  simp [cells9, cells3, List.getElem?_drop] at c0 c1
  refine ⟨s, ?_, ?_, ?_⟩
  · rw [ByteArray.toList_eq, ← e.1]
    exact hne
  · rw [World.var?_cell hg' hvar (j * 2), ← Array.getElem?_toList]
    simpa using c0
  · rw [World.var?_cell hg' hvar (j * 2 + 1), ← Array.getElem?_toList, ← hbe, e.2]
    simpa using c1
#print axioms tab_of_laid
end Go.Proofs.YtlppfocoonnpjaaGreatDoor
