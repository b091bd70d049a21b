/- What came in, opened: a slice of instructions. -/
import Derived.Test.YtdgdoiigcdlpaaaDoorLaid
import Derived.Deep.SlicePairs
namespace Go.Proofs.YtdgdoiigcdlpaaaDoor
open Go.RowKit Go.ChangeShapes Go.WideShapes

theorem cells39 : Tryd.prog.cellsOf 39 = 2 := by kernel_rfl
theorem ins_open {H : Type} {enc : TypeId × Value → H} {W : World} {fuel : Nat} {a : Option Addr} {len cap : Nat} {d : DataW H} {p : List MemPlace}
    (hf : DataW.trod enc Tryd.prog W 0 (fun _ => true) true fuel 22 (Value.slice a len cap).cells.toList = some (d, p)) :
    (a = none ∧ len = 0 ∧ cap = 0 ∧ d = .nil) ∨ ∃ elems spare zs, d = .slice elems spare ∧ zs.length = len ∧ elems.length = len ∧ PReads W (.slice a len cap) zs := by
  rcases Deep.open_slice_pairs Tryd.underlying22 Tryd.underlying39 cells39 rfl rfl cells3 cells3 hf with ⟨hcs, hx⟩ | ⟨x, l, c, m, n, V0, V1, D0, D1, P0, P1, hcs, hb, hl, hm, hmm, hx, hcell⟩
  · simp [Value.cells] at hcs
    obtain ⟨rfl, rfl, rfl⟩ := hcs
    simp only [Prod.mk.injEq] at hx
    exact .inl ⟨rfl, rfl, rfl, hx.1⟩
  · simp [Value.cells] at hcs
    obtain ⟨rfl, rfl, rfl⟩ := hcs
    simp only [Prod.mk.injEq] at hx
    simp only [if_true] at hmm
    subst hmm
    have num : ∀ i, i < len → ∃ z : Ins, W.cell? (x.add (i * 2)) = some (.int .i64 z.1) ∧ W.cell? (x.add (i * 2 + 1)) = some (.int .i64 z.2) := by
      intro i hi
      obtain ⟨c0, c1, t0, t1⟩ := hcell i (by omega)
      obtain ⟨z0, e0, _, _⟩ := DataW.trod_int Tryd.underlying3 t0
      obtain ⟨z1, e1, _, _⟩ := DataW.trod_int Tryd.underlying3 t1
      simp only [List.cons.injEq, and_true] at e0 e1
      exact ⟨(z0, z1), by rw [c0, e0], by rw [c1, e1]⟩
    obtain ⟨z, hz⟩ := Deep.choose_lt num
    refine .inr ⟨_, _, (List.range len).map z, hx.1, by simp, by simp, ?_⟩
    refine ⟨some x, m, by simp, fun h0 => ?_⟩
    rw [List.length_map, List.length_range] at h0
    obtain ⟨b, off, spot⟩ := x
    have hspot : spot = none := by simpa [Addr.add] using World.cell?_spot (hz 0 h0).1
    subst hspot
    refine ⟨b, off, rfl, fun i hi => ?_⟩
    rw [List.length_map, List.length_range] at hi
    have e : ((List.range len).map z)[i]?.getD (0, 0) = z i := by simp [List.getElem?_map, List.getElem?_range hi]
    rw [e]
    have h2 := hz i hi
    rw [Go.WideShapes.add_plain, Go.WideShapes.add_plain] at h2
    exact h2
#print axioms ins_open
end Go.Proofs.YtdgdoiigcdlpaaaDoor
