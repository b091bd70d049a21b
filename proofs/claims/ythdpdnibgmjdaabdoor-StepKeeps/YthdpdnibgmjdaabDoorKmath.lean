/- What a step keeps, on numbers alone. -/
import Derived.Test.YthdpdnibgmjdaabDoorVmbox
namespace Go.Proofs.YthdpdnibgmjdaabDoor
open Go.RowKit

theorem arg_of {zs : List Ins} {v : VmS} {inn outs : Int} {gs : List Int} (h : stepMay zs v inn outs gs = true) {k op n : Nat} (hz : zs[k]? = some ((op : Int), (n : Int))) : (n : Int) < most op zs.length := by
  unfold stepMay codeMay at h
  simp only [Bool.and_eq_true, decide_eq_true_eq, List.all_eq_true] at h
  have hm := h.1.2 _ (List.mem_of_getElem? hz)
  unfold insMay at hm
  simp only [Bool.and_eq_true, decide_eq_true_eq] at hm
  exact hm.2.2
theorem in_of {zs : List Ins} {v : VmS} {inn outs : Int} {gs : List Int} (h : stepMay zs v inn outs gs = true) : (0 ≤ inn ∧ inn < 4294967296) ∧ ∀ (g : Int) (n : Nat), gs[n]? = some g → g = -1 ∨ (0 ≤ g ∧ g < 4294967296) := by
  unfold stepMay getsMay at h
  simp only [Bool.and_eq_true, decide_eq_true_eq, List.all_eq_true] at h
  refine ⟨isW_of h.2.2.1, fun g n hg => ?_⟩
  have := h.2.2.2.2.2.2 g (List.mem_of_getElem? hg)
  unfold getMay at this
  simp only [Bool.or_eq_true, decide_eq_true_eq] at this
  exact this.imp id isW_of
/-- What an effect says of the operation. -/
def EffOK (op n : Nat) (acc : Int) (f : EfS) : Prop :=
  (op ≠ 8 ∧ f = ⟨false, -1, -1, 0, false⟩) ∨ (op = 8 ∧ f = ⟨true, -1, -1, 0, false⟩) ∨ (op = 9 ∧ f = ⟨false, n, -1, acc, false⟩) ∨ (op = 10 ∧ f = ⟨false, -1, n, 0, false⟩) ∨ ((op = 9 ∨ op = 10) ∧ f = ⟨false, -1, -1, 0, true⟩)
theorem got_in {gs : List Int} {n : Nat} {g : Int} (hgs : ∀ (g : Int) (n : Nat), gs[n]? = some g → g = -1 ∨ (0 ≤ g ∧ g < 4294967296)) (h : gotO gs n = some g) : 0 ≤ g ∧ g < 4294967296 := by
  unfold gotO at h
  cases hg : gs[n]? with
  | none => rw [hg] at h; cases h
  | some x =>
    rw [hg] at h
    dsimp only at h
    by_cases hx : x = -1
    · rw [if_pos hx] at h; cases h
    · rw [if_neg hx] at h
      cases h
      exact (hgs _ _ hg).resolve_left hx
theorem do_keeps {op n N k : Nat} {acc : Int} {m : Nat → Int} {inn outs : Int} {gs : List Int} (hk : k < N) (hA : Able op n ⟨k, acc, m⟩) (harg : (n : Int) < most op N) (hin : 0 ≤ inn ∧ inn < 4294967296) (hgs : ∀ (g : Int) (n : Nat), gs[n]? = some g → g = -1 ∨ (0 ≤ g ∧ g < 4294967296)) :
    0 ≤ (doS op n ⟨k, acc, m⟩ inn outs gs).1.pc ∧ (doS op n ⟨k, acc, m⟩ inn outs gs).1.pc < N ∧ 0 ≤ (doS op n ⟨k, acc, m⟩ inn outs gs).1.acc ∧ (doS op n ⟨k, acc, m⟩ inn outs gs).1.acc < 4294967296 ∧
      (∀ i, i < 16 → (doS op n ⟨k, acc, m⟩ inn outs gs).1.mem i = if op = 3 ∧ n = i then acc else m i) ∧ EffOK op n acc (doS op n ⟨k, acc, m⟩ inn outs gs).2 := by
  have h1 := hA.is
  have ha := hA.acc
  dsimp only at ha
  have hall : op = 0 ∨ op = 1 ∨ op = 2 ∨ op = 3 ∨ op = 4 ∨ op = 5 ∨ op = 6 ∨ op = 7 ∨ op = 8 ∨ op = 9 ∨ op = 10 ∨ op = 11 := by omega
  have e3 : ∀ {i : Nat}, op ≠ 3 → (if op = 3 ∧ n = i then acc else m i) = m i := fun h => if_neg (fun e => h e.1)
  rcases hall with rfl | rfl | rfl | rfl | rfl | rfl | rfl | rfl | rfl | rfl | rfl | rfl
  · exact ⟨by simp [doS], by simp [doS]; omega, ha.1, ha.2, fun i _ => (e3 (by decide)).symm, .inl ⟨by decide, rfl⟩⟩
  · have : (n : Int) < 256 := by simpa [most, opBelow] using harg
    exact ⟨by simp [doS], by simp [doS]; omega, by simp [doS], by simp [doS]; omega, fun i _ => (e3 (by decide)).symm, .inl ⟨by decide, rfl⟩⟩
  · have hm := hA.mem n (hA.word (by simp))
    exact ⟨by simp [doS], by simp [doS]; omega, hm.1, hm.2, fun i _ => (e3 (by decide)).symm, .inl ⟨by decide, rfl⟩⟩
  · refine ⟨by simp [doS], by simp [doS]; omega, ha.1, ha.2, fun i _ => ?_, .inl ⟨by decide, rfl⟩⟩
    show upd m n acc i = _
    unfold upd
    by_cases h : i = n
    · rw [if_pos h, if_pos ⟨rfl, h.symm⟩]
    · rw [if_neg h, if_neg (fun e => h e.2.symm)]
  · exact ⟨by simp [doS], by simp [doS]; omega, by simp only [doS]; omega, by simp only [doS]; omega, fun i _ => (e3 (by decide)).symm, .inl ⟨by decide, rfl⟩⟩
  · exact ⟨by simp [doS], by simp [doS]; omega, by simp only [doS]; omega, by simp only [doS]; omega, fun i _ => (e3 (by decide)).symm, .inl ⟨by decide, rfl⟩⟩
  · have : (n : Int) < N := by simpa [most, opBelow] using harg
    exact ⟨by simp [doS], by simp [doS]; omega, ha.1, ha.2, fun i _ => (e3 (by decide)).symm, .inl ⟨by decide, rfl⟩⟩
  · have : (n : Int) < N := by simpa [most, opBelow] using harg
    by_cases h0 : acc = 0
    · have e : doS 7 n ⟨k, acc, m⟩ inn outs gs = (⟨n, acc, m⟩, quietE) := if_pos h0
      rw [e]
      exact ⟨by simp, by simp; omega, ha.1, ha.2, fun i _ => (e3 (by decide)).symm, .inl ⟨by decide, rfl⟩⟩
    · have e : doS 7 n ⟨k, acc, m⟩ inn outs gs = (⟨k, acc, m⟩, quietE) := if_neg h0
      rw [e]
      exact ⟨by simp, by simp; omega, ha.1, ha.2, fun i _ => (e3 (by decide)).symm, .inl ⟨by decide, rfl⟩⟩
  · exact ⟨by simp [doS], by simp [doS]; omega, hin.1, hin.2, fun i _ => (e3 (by decide)).symm, .inr (.inl ⟨rfl, rfl⟩)⟩
  · by_cases hb : bitB outs n = true
    · have e : doS 9 n ⟨k, acc, m⟩ inn outs gs = (⟨k, acc, m⟩, ⟨false, n, -1, acc, false⟩) := if_pos hb
      rw [e]
      exact ⟨by simp, by simp; omega, ha.1, ha.2, fun i _ => (e3 (by decide)).symm, .inr (.inr (.inl ⟨rfl, rfl⟩))⟩
    · have e : doS 9 n ⟨k, acc, m⟩ inn outs gs = (⟨0, 0, m⟩, faultE) := if_neg hb
      rw [e]
      exact ⟨by simp, by simp; omega, by simp, by simp, fun i _ => (e3 (by decide)).symm, .inr (.inr (.inr (.inr ⟨.inl rfl, rfl⟩)))⟩
  · cases hg : gotO gs n with
    | none =>
      have e : doS 10 n ⟨k, acc, m⟩ inn outs gs = (⟨0, 0, m⟩, faultE) := by simp only [doS, hg]; rfl
      rw [e]
      exact ⟨by simp, by simp; omega, by simp, by simp, fun i _ => (e3 (by decide)).symm, .inr (.inr (.inr (.inr ⟨.inr rfl, rfl⟩)))⟩
    | some g =>
      have e : doS 10 n ⟨k, acc, m⟩ inn outs gs = (⟨k, g, m⟩, ⟨false, -1, n, 0, false⟩) := by simp only [doS, hg]
      rw [e]
      have := got_in hgs hg
      exact ⟨by simp, by simp; omega, this.1, this.2, fun i _ => (e3 (by decide)).symm, .inr (.inr (.inr (.inl ⟨rfl, rfl⟩)))⟩
  · exact ⟨by simp [doS], by simp [doS]; omega, ha.1, ha.2, fun i _ => (e3 (by decide)).symm, .inl ⟨by decide, rfl⟩⟩

theorem keeps_facts {zs : List Ins} {v : VmS} {inn outs : Int} {gs : List Int} {D : VmS} {F : EfS} {E : Int} (h : stepAns zs v inn outs gs = (D, F, E)) :
    (E = 1000 ∧ D = ⟨0, 0, fun _ => 0⟩ ∧ F = ⟨false, 0, 0, 0, false⟩) ∨ (E = 0 ∧ zs.length = 0 ∧ D = v ∧ F = ⟨false, -1, -1, 0, false⟩) ∨
    (E = 0 ∧ ∃ k op n : Nat, v.pc = k ∧ k < zs.length ∧ zs.length ≤ 64 ∧ zs[k]? = some ((op : Int), (n : Int)) ∧ op < 12 ∧ 0 ≤ D.pc ∧ D.pc < zs.length ∧ 0 ≤ D.acc ∧ D.acc < 4294967296 ∧ (∀ i, i < 16 → D.mem i = if op = 3 ∧ n = i then v.acc else v.mem i) ∧ EffOK op n v.acc F) := by
  cases hm : stepMay zs v inn outs gs with
  | false =>
    rw [step_no hm] at h
    simp only [Prod.mk.injEq] at h
    exact .inl ⟨h.2.2.symm, h.1.symm, h.2.1.symm⟩
  | true =>
    by_cases h0 : zs.length = 0
    · unfold stepAns at h
      rw [if_pos hm, if_pos h0] at h
      simp only [Prod.mk.injEq] at h
      exact .inr (.inl ⟨h.2.2.symm, h0, h.1.symm, h.2.1.symm⟩)
    · obtain ⟨k, op, n, hpc, hk, h64, hz, hi, hA⟩ := able_of hm h0
      rw [step_ok k op n hm hpc h0 hi] at h
      simp only [Prod.mk.injEq] at h
      obtain ⟨h1, h2, h3⟩ := h
      have hmod : (k + 1) % zs.length < zs.length := Nat.mod_lt _ (by omega)
      have hin := in_of hm
      obtain ⟨g1, g2, g3, g4, g5, g6⟩ := do_keeps (outs := outs) (gs := gs) hmod hA (arg_of hm hz) hin.1 hin.2
      rw [h1] at g1 g2 g3 g4 g5
      rw [h2] at g6
      exact .inr (.inr ⟨h3.symm, k, op, n, hpc, hk, h64, hz, hA.is, g1, g2, g3, g4, g5, g6⟩)
#print axioms keeps_facts
end Go.Proofs.YthdpdnibgmjdaabDoor
