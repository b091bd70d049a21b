/- One task of a copy's first part written over: nothing of the program's functions. -/
import Derived.Test.YtehnklpjkcofcaaDoorSetrow
import Derived.Test.YtehnklpjkcofcaaDoorCopyD
import Derived.Test.YtehnklpjkcofcaaDoorAdmA
namespace Go.Proofs.YtehnklpjkcofcaaDoor
open Go.RowKit R6

def put6 (W : World) (g o : Nat) (t : TaskV) : World := (((((W.setCell ⟨g, o, none⟩ (.int .i64 t.kind)).setCell ⟨g, o + 1, none⟩ (.int .i64 t.period)).setCell ⟨g, o + 2, none⟩ (.int .i64 t.deadline)).setCell ⟨g, o + 3, none⟩ (.int .i64 t.clow)).setCell ⟨g, o + 4, none⟩ (.int .i64 t.chigh)).setCell ⟨g, o + 5, none⟩ (.int .i64 t.prio)
theorem put6_grown (W : World) (g o : Nat) (t : TaskV) : W.grownBy (put6 W g o t) (some g) := by
  unfold put6
  exact grownBy_trans (grownBy_trans (grownBy_trans (grownBy_trans (grownBy_trans (grownBy_set _ _ _ _) (grownBy_set _ _ _ _)) (grownBy_set _ _ _ _)) (grownBy_set _ _ _ _)) (grownBy_set _ _ _ _)) (grownBy_set _ _ _ _)
theorem own_put6 {W : World} {base g n cap I : Nat} {ts : List TaskV} {x : TaskV} (h : W.ownsRow base 44 6 (.slice (some ⟨g, 0, none⟩) n cap) n (shT.cells ts)) (hx : ts[I]? = some x) (t : TaskV) : (put6 W g (I * 6) t).ownsRow base 44 6 (.slice (some ⟨g, 0, none⟩) n cap) n (shT.cells (ts.set I t)) := by
  have hI : I < ts.length := (List.getElem?_eq_some_iff.1 hx).1
  obtain ⟨k0, k1, k2, k3, k4, k5⟩ := t
  have s0 := own_set (S := shT) h hx (i := 0) (by decide) (u := .int .i64 k0) (x' := ⟨k0, x.period, x.deadline, x.clow, x.chigh, x.prio⟩) rfl
  have s1 := own_set (S := shT) s0 (List.getElem?_set_self hI) (i := 1) (by decide) (u := .int .i64 k1) (x' := ⟨k0, k1, x.deadline, x.clow, x.chigh, x.prio⟩) rfl
  rw [List.set_set] at s1
  have s2 := own_set (S := shT) s1 (List.getElem?_set_self hI) (i := 2) (by decide) (u := .int .i64 k2) (x' := ⟨k0, k1, k2, x.clow, x.chigh, x.prio⟩) rfl
  rw [List.set_set] at s2
  have s3 := own_set (S := shT) s2 (List.getElem?_set_self hI) (i := 3) (by decide) (u := .int .i64 k3) (x' := ⟨k0, k1, k2, k3, x.chigh, x.prio⟩) rfl
  rw [List.set_set] at s3
  have s4 := own_set (S := shT) s3 (List.getElem?_set_self hI) (i := 4) (by decide) (u := .int .i64 k4) (x' := ⟨k0, k1, k2, k3, k4, x.prio⟩) rfl
  rw [List.set_set] at s4
  have s5 := own_set (S := shT) s4 (List.getElem?_set_self hI) (i := 5) (by decide) (u := .int .i64 k5) (x' := ⟨k0, k1, k2, k3, k4, k5⟩) rfl
  rw [List.set_set] at s5
  exact s5
/-- Where the first part's tasks lie, and what is there when one of them is written over. -/
theorem cd_up {base : Nat} {W : World} {v : Value} {ps : List PartV} (h : Cd.POwn base W v ps) (hP : 0 < ps.length) {I : Nat} (hI : I < (partAt ps 0).tasks.length) :
    ∃ g2 c2 tg tc, v = .slice (some ⟨g2, 0, none⟩) ps.length c2 ∧ base ≤ tg ∧ Hid (∀ V, W.grownBy V none → V.cell? ⟨g2, 1, none⟩ = some (.slice (some ⟨tg, 0, none⟩) (partAt ps 0).tasks.length tc)) ∧
      Hid (∀ V, W.grownBy V none → ∀ k u, (taskC (taskAt (partAt ps 0).tasks I))[k]? = some u → V.cell? ⟨tg, I * 6 + k, none⟩ = some u) ∧
      Hid (∀ V, W.grownBy V none → ∀ k, V.frozen? ⟨tg, k, none⟩ = false) ∧ Hid (∀ V, W.grownBy V none → TypeAt V tg 44) ∧
      Hid (∀ V, W.grownBy V none → ∀ t, PartsAt base (put6 V tg (I * 6) t) v (ps.set 0 ⟨(partAt ps 0).level, (partAt ps 0).tasks.set I t, (partAt ps 0).code⟩)) := by
  obtain ⟨qs, h1, h2, h3, h4⟩ := h
  have hq : qs[0]? = some qs[0] := List.getElem?_eq_getElem (by omega)
  have hp := partAt_mem (ws := ps) (i := 0) hP
  obtain ⟨b1, b2, b3⟩ := h3 0 _ _ hq hp
  obtain ⟨a2, c2, rfl⟩ := own_form h2
  obtain ⟨g2, rfl, -, -, -⟩ := own_cap h2 (by omega)
  obtain ⟨at', tc, et⟩ := own_form b2
  have b2' := b2
  rw [et] at b2'
  obtain ⟨tg, rfl, hb, -, -⟩ := own_cap b2' (by omega)
  have hx := taskAt_mem' (ws := (partAt ps 0).tasks) (i := I) hI
  refine ⟨g2, c2, tg, tc, by rw [h1], hb, fun V hV => ?_, fun V hV k u hu => own_cell (S := shT) (own_kept b2' hV) hx hu, fun V hV k => own_free (own_kept b2' hV) k, fun V hV => type_own (own_kept b2' hV), fun V hV t => ?_⟩
  · rw [← et]
    have := own_cell (S := shP) (own_kept h2 hV) hq (i := 1) rfl
    exact this
  · have T := type_own (own_kept b2' hV)
    have hg := put6_grown V tg (I * 6) t
    refine ⟨qs, by rw [List.length_set]; exact h1, rowAt_own (S := shP) (own_type (own_kept h2 hV) hg T (by decide)), fun i q p hq' hp' => ?_⟩
    by_cases e : 0 = i
    · subst e
      rw [hq, Option.some.injEq] at hq'
      subst hq'
      rw [List.getElem?_set_self hP, Option.some.injEq] at hp'
      subst hp'
      refine ⟨b1, ?_, rowAt_own (S := shI) (own_type (own_kept b3 hV) hg T (by decide))⟩
      rw [et]
      have := own_put6 (own_kept b2' hV) hx t
      have hl : (partAt ps 0).tasks.length = ((partAt ps 0).tasks.set I t).length := by rw [List.length_set]
      refine rowAt_own (S := shT) (e := 44) ?_
      show World.ownsRow _ _ _ _ _ ((partAt ps 0).tasks.set I t).length _
      rw [← hl]
      exact this
    · rw [List.getElem?_set_ne e] at hp'
      obtain ⟨c1, c2', c3⟩ := h3 i q p hq' hp'
      refine ⟨c1, rowAt_own (S := shT) ((own_kept c2' hV).kept hg (Or.inr fun e' => ?_)), rowAt_own (S := shI) (own_type (own_kept c3 hV) hg T (by decide))⟩
      have := h4 0 i _ q (by omega) hq hq' tg tg (by rw [et]; rfl) e'
      omega
#print axioms cd_up
end Go.Proofs.YtehnklpjkcofcaaDoor
