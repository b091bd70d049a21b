/- What came in, opened: a part, a slice of whole numbers. -/
import Derived.Test.YtlppfocoonnpjaaGreatDoorQi
import Derived.Test.YtlppfocoonnpjaaGreatDoorQc
namespace Go.Proofs.YtlppfocoonnpjaaGreatDoor.L
open Go.RowKit Go.ChangeShapes Go.WideShapes

section
variable {H : Type} {enc : TypeId × Value → H} {W : World} {spare : Nat → Bool} {held : Bool}
/-- A slice of whole numbers that came in. -/
theorem ints_open {n : Nat} {v : Value} {y : DataW H × List MemPlace} (h : DataW.trod enc Tryz.prog W 0 spare held n 61 [v] = some y) : ∃ zs, RowAt U.shN 0 W v zs := by
  rcases Deep.open_slice Tryz.underlying61 h with h0 | ⟨a, len, cap, m, n', D, Pl, h0, -, hl, hm, hmm, rfl, hx⟩
  · have h1 := h0.1
    simp only [List.cons.injEq, and_true] at h1
    subst h1
    exact ⟨[], rowAt_nil _ _ _ _⟩
  · simp only [List.cons.injEq, and_true] at h0
    subst h0
    have each : ∀ i, i < len → ∃ z : Int, ∀ j u, (U.shN.f z)[j]? = some u → W.cell? (a.add (i * 1 + j)) = some u := by
      intro i hi
      have hlm : len ≤ m := by rw [hmm]; split <;> omega
      obtain ⟨cs', h1, h2⟩ := hx i (by omega)
      rw [cells3] at h1
      obtain ⟨-, hlen, hcell⟩ := World.cells?_some h1
      obtain ⟨z, e, _, _⟩ := DataW.trod_int Tryz.underlying3 h2
      refine ⟨z, fun j u hu => ?_⟩
      match j, hu with
      | 0, hu =>
        cases hu
        have := hcell 0 (by omega)
        rw [Deep.add_add] at this
        rw [this, e]
        rfl
      | j + 1, hu => simp [U.shN] at hu
    have : Inhabited Int := ⟨0⟩
    obtain ⟨z, hz⟩ := Deep.choose_lt each
    exact ⟨_, rowAt_fn (S := U.shN) hl hm z hz⟩
set_option maxRecDepth 10000 in
/-- A part that came in. -/
theorem part_open {r : Reach} {base n : Nat} {v : Value} {y : DataW H × List MemPlace} (hv : Value.okWide Tryz.prog W r base 25 v) (h : DataW.trod enc Tryz.prog W 0 spare held n 25 v.cells.toList = some y) (hS : Small Tryz.prog 25 y.1) : ∃ q P, v = .agg #[.int .i64 (q : PartM).level, .slice q.ta q.tn q.tc, .slice q.ca q.cn q.cc] ∧ PartIs 0 W q P ∧ P.tasks.length * 48 ≤ reachBytes ∧ P.code.length * 16 ≤ reachBytes := by
  obtain ⟨cs, rfl, hsz⟩ := okWide_struct Tryz.underlying25 hv
  rw [cells25] at hsz
  have hcs : (Value.agg cs).cells.toList = cs.toList := rfl
  rw [hcs] at h
  obtain ⟨xs, m, -, hxy, -, hxl, hf⟩ := DataW.trod_struct Tryz.underlying25 h
  obtain ⟨l⟩ := cs
  match l, hsz, xs, hxl with
  | [u0, u1, u2], _, [x0, x1, x2], _ =>
    have g0 := hf 0 _ rfl
    have g1 := hf 1 _ rfl
    have g2 := hf 2 _ rfl
    simp [cells3] at g0
    simp [cells22] at g1
    simp [cells23] at g2
    have hy : y.1 = .agg ([x0, x1, x2].map (·.1)) := by rw [hxy]
    rw [hy] at hS
    obtain ⟨z0, rfl⟩ := int_open g0
    obtain ⟨a1, l1, e1, rfl⟩ := slice_open Tryz.underlying22 g1
    obtain ⟨a2, l2, e2, rfl⟩ := slice_open Tryz.underlying23 g2
    obtain ⟨ts, r1, b1⟩ := tasks_open g1 (small_struct Tryz.underlying25 hS (j := 1) rfl rfl)
    obtain ⟨is, r2, b2⟩ := code_open g2 (small_struct Tryz.underlying25 hS (j := 2) rfl rfl)
    exact ⟨⟨z0, a1, l1, e1, a2, l2, e2⟩, ⟨z0, ts, is⟩, rfl, ⟨rfl, r1, r2⟩, b1, b2⟩
end
#print axioms part_open
end Go.Proofs.YtlppfocoonnpjaaGreatDoor.L
