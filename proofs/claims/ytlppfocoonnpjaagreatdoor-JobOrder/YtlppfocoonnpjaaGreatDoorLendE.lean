/- The contract of the statements' own SameEvents, proved over the translation. -/
import Derived.Test.YtlppfocoonnpjaaGreatDoorQc
namespace Go.Proofs.YtlppfocoonnpjaaGreatDoor.L.Es
open Go.RowKit
attribute [local go_sem] alloc_drewN setCell_drewN

theorem row_cell {α : Type} {S : Shape α} {lo n c g o : Nat} {W : World} {xs : List α} (h : RowAt S lo W (.slice (some ⟨g, o, none⟩) n c) xs) {j : Nat} {x : α} (hx : xs[j]? = some x) {k : Nat} {u : Value} (hu : (S.f x)[k]? = some u) : W.cell? ⟨g, o + j * S.k + k, none⟩ = some u := by
  obtain ⟨-, a2, c2, e, hc⟩ := h
  simp only [Value.slice.injEq] at e
  obtain ⟨rfl, rfl, rfl⟩ := e
  obtain ⟨g', o', e, -, hc2⟩ := hc (by have := (List.getElem?_eq_some_iff.1 hx).1; omega)
  simp only [Option.some.injEq, Addr.mk.injEq, and_true] at e
  obtain ⟨rfl, rfl⟩ := e
  exact hc2 j x hx k u hu

set_option maxRecDepth 100000 in
set_option maxHeartbeats 1000000 in
theorem same_T {lo lo' : Nat} (u v : Value) (zs : List EvV) (w : World) (hu : RowAt shE lo w u zs) (hv : RowAt shE lo' w v zs) :
    Calls Tryz.prog 18 #[u, v] w fun e w' => e = .returned (.bool true) ∧ ∃ n, w' = w.drewN n := by
  obtain ⟨hl, a, cap, rfl, ha⟩ := hu
  obtain ⟨-, b, cap', rfl, hb⟩ := hv
  have HA := hide ha
  have HB := hide hb
  clear ha hb
  generalize hN : zs.length = N at *
  have HN := hide hN
  clear hN
  go_enter Tryz.func18, Tryz.ntmps18
  go_wp2
  go_loopw [5] (fun i W => ∃ (j n : Nat), j ≤ N ∧ i = .int .i64 j ∧ W = w.drewN n) (fun i _ => N - (intOf i).toNat)
  case atStart => exact ⟨0, 0, by omega, rfl, rfl⟩
  case round =>
    obtain ⟨j, n, hj, rfl, rfl⟩ := hrel
    by_cases hlt : j < N
    · obtain ⟨g, o, rfl, -, hc⟩ := HA.out (by omega)
      obtain ⟨g', o', rfl, -, hc'⟩ := HB.out (by omega)
      obtain ⟨q, hq⟩ : ∃ q, zs[j]? = some q := ⟨_, List.getElem?_eq_getElem (by rw [HN.out]; exact hlt)⟩
      have e1 := hc j q hq
      have e2 := hc' j q hq
      obtain ⟨x0, x1, x2, x3⟩ := q
      have c0 : w.cell? ⟨g, o + j * 4, none⟩ = some (.int .i64 x0) := e1 0 _ rfl
      have c1 : w.cell? ⟨g, o + j * 4 + 1, none⟩ = some (.int .i64 x1) := e1 1 _ rfl
      have c2 : w.cell? ⟨g, o + j * 4 + 2, none⟩ = some (.int .i64 x2) := e1 2 _ rfl
      have c3 : w.cell? ⟨g, o + j * 4 + 3, none⟩ = some (.int .i64 x3) := e1 3 _ rfl
      have d0 : w.cell? ⟨g', o' + j * 4, none⟩ = some (.int .i64 x0) := e2 0 _ rfl
      have d1 : w.cell? ⟨g', o' + j * 4 + 1, none⟩ = some (.int .i64 x1) := e2 1 _ rfl
      have d2 : w.cell? ⟨g', o' + j * 4 + 2, none⟩ = some (.int .i64 x2) := e2 2 _ rfl
      have d3 : w.cell? ⟨g', o' + j * 4 + 3, none⟩ = some (.int .i64 x3) := e2 3 _ rfl
      clear hc hc' e1 e2 hq
      go_wp2
      go_quiet (fail)
      go_wp2
      go_roundw
      case rel => exact ⟨j + 1, _, by omega, by go_num, rfl⟩
      case measure => simp [intOf]; omega
    · go_wp2
      go_ret
      exact ⟨rfl, _, rfl⟩

#print axioms same_T
end Go.Proofs.YtlppfocoonnpjaaGreatDoor.L.Es
