/- Contracts of the statements' own SpoilTasks, SpoilInstrs and SpoilConfig, proved over the translation: numbers become numbers, within the blocks from lo to hi. -/
import Derived.Test.YtgaegggiehhcpaaDoorRefGm
namespace Go.Proofs.YtgaegggiehhcpaaDoor.R5
open Go.RowKit
attribute [local go_sem] alloc_drewN setCell_drewN

/-- Numbers may have become others within the blocks from lo to hi; all else stands. -/
structure Sh (lo hi : Nat) (W V : World) : Prop where
  os : V.os = W.os
  tape : V.tape = W.tape
  output : V.output = W.output
  size : W.heap.size ≤ V.heap.size
  block : ∀ k, k < W.heap.size → (k < lo ∨ hi ≤ k) → V.heap[k]? = W.heap[k]?
  num : ∀ g j x, g < W.heap.size → W.cell? ⟨g, j, none⟩ = some (.int .i64 x) → ∃ y, V.cell? ⟨g, j, none⟩ = some (.int .i64 y)
  other : ∀ g j a n c, g < W.heap.size → W.cell? ⟨g, j, none⟩ = some (.slice a n c) → V.cell? ⟨g, j, none⟩ = some (.slice a n c)
  free : ∀ g j, g < W.heap.size → W.frozen? ⟨g, j, none⟩ = false → V.frozen? ⟨g, j, none⟩ = false
theorem Sh.refl (lo hi : Nat) (W : World) : Sh lo hi W W := ⟨rfl, rfl, rfl, Nat.le_refl _, fun _ _ _ => rfl, fun _ _ x _ h => ⟨x, h⟩, fun _ _ _ _ _ _ h => h, fun _ _ _ h => h⟩
theorem cell_set_ne (V : World) (g j g' j' : Nat) (u : Value) (h : ¬ (g = g' ∧ j = j')) : (V.setCell ⟨g, j, none⟩ u).cell? ⟨g', j', none⟩ = V.cell? ⟨g', j', none⟩ := by
  by_cases hg : g = g'
  · subst hg
    have hj : j ≠ j' := fun e => h ⟨rfl, e⟩
    cases hh : V.heap[g]? with
    | none => simp [World.setCell, World.cell?, Array.getElem?_modify, hh]
    | some o =>
      cases o <;> simp [World.setCell, World.cell?, Array.getElem?_modify, hh, hj]
  · simp [World.setCell, World.cell?, Array.getElem?_modify, hg]
theorem cell_set_eq {V : World} {g j : Nat} {u u' : Value} (h : V.cell? ⟨g, j, none⟩ = some u') : (V.setCell ⟨g, j, none⟩ u).cell? ⟨g, j, none⟩ = some u := by
  cases hh : V.heap[g]? with
  | none => simp [World.cell?, hh] at h
  | some o =>
    cases o <;> simp [World.cell?, hh] at h
    obtain ⟨hj, _⟩ := Array.getElem?_eq_some_iff.1 h
    simp [World.setCell, World.cell?, Array.getElem?_modify, hh, hj]
theorem frozen_set (V : World) (g j g' j' : Nat) (u : Value) : (V.setCell ⟨g, j, none⟩ u).frozen? ⟨g', j', none⟩ = V.frozen? ⟨g', j', none⟩ := by
  by_cases hg : g = g'
  · subst hg
    cases hh : V.heap[g]? with
    | none => simp [World.setCell, World.frozen?, Array.getElem?_modify, hh]
    | some o => cases o <;> simp [World.setCell, World.frozen?, Array.getElem?_modify, hh]
  · simp [World.setCell, World.frozen?, Array.getElem?_modify, hg]
theorem Sh.set {lo hi : Nat} {W V : World} {g j : Nat} {x y : Int} (h : Sh lo hi W V) (hc : V.cell? ⟨g, j, none⟩ = some (.int .i64 x)) (h1 : lo ≤ g) (h2 : g < hi) : Sh lo hi W (V.setCell ⟨g, j, none⟩ (.int .i64 y)) := by
  refine ⟨h.os, h.tape, h.output, by simpa [World.setCell] using h.size, fun k hk hn => ?_, fun g' j' x' hg hx => ?_, fun g' j' a n c hg hx => ?_, fun g' j' hg hx => ?_⟩
  · have e : k ≠ g := by omega
    have := h.block k hk hn
    simpa [World.setCell, Array.getElem?_modify, e.symm] using this
  · by_cases e : g = g' ∧ j = j'
    · obtain ⟨rfl, rfl⟩ := e
      exact ⟨y, cell_set_eq hc⟩
    · obtain ⟨z, hz⟩ := h.num g' j' x' hg hx
      exact ⟨z, (cell_set_ne _ _ _ _ _ _ e).trans hz⟩
  · have hz := h.other g' j' a n c hg hx
    by_cases e : g = g' ∧ j = j'
    · obtain ⟨rfl, rfl⟩ := e
      rw [hc] at hz; cases hz
    · exact (cell_set_ne _ _ _ _ _ _ e).trans hz
  · exact (frozen_set _ _ _ _ _ _).trans (h.free g' j' hg hx)
theorem Sh.grown {lo hi : Nat} {W V V2 : World} (h : Sh lo hi W V) (hg : V.grownBy V2 none) : Sh lo hi W V2 := by
  have key : ∀ k, k < W.heap.size → V2.heap[k]? = V.heap[k]? := fun k hk => hg.block k (by have := h.size; omega) (by simp)
  refine ⟨hg.os.trans h.os, hg.tape.trans h.tape, hg.output.trans h.output, Nat.le_trans h.size hg.size, fun k hk hn => (key k hk).trans (h.block k hk hn), fun g' j' x' hg' hx => ?_, fun g' j' a n c hg' hx => ?_, fun g' j' hg' hx => ?_⟩
  · obtain ⟨z, hz⟩ := h.num g' j' x' hg' hx
    exact ⟨z, by rw [← hz]; exact World.cell?_of_block (a := ⟨g', j', none⟩) (key g' hg')⟩
  · rw [← h.other g' j' a n c hg' hx]; exact World.cell?_of_block (a := ⟨g', j', none⟩) (key g' hg')
  · rw [← h.free g' j' hg' hx]; simp [World.frozen?, key g' hg']
/-- A cell of an owned row: it holds what the list says, and is not frozen. -/
theorem own_at {W : World} {base e size n g o cap : Nat} {xs : List Value} (h : W.ownsRow base e size (.slice (some ⟨g, o, none⟩) n cap) n xs) : base ≤ g ∧ g < W.heap.size ∧ (∀ j, W.frozen? ⟨g, j, none⟩ = false) := by
  rcases h.2 with ⟨h1, _⟩ | ⟨g', cap', cur, h1, hb, hc, _⟩
  · cases h1
  · cases h1
    exact ⟨hb, box_lt hc, fun j => by simp [World.frozen?, hc]⟩

set_option maxRecDepth 100000 in
set_option maxHeartbeats 1000000 in
theorem spoilT {lo : Nat} {W0 W : World} (v : Value) (ts : List TaskV) (hv : W0.ownsRow lo 52 6 v ts.length (shT.cells ts)) (hg0 : W0.grownBy W none) (V : World) (hS : Sh lo W0.heap.size W V) :
    Calls Tryd.prog 42 #[v] V fun e V' => e = .returned (.tuple #[]) ∧ Sh lo W0.heap.size W V' := by
  have HV := hide hv
  obtain ⟨hl, a, cap, rfl, ha⟩ := rowAt_own (S := shT) hv
  have HA := hide ha
  have HG0 := hide hg0
  have HS0 := hide hS
  have HSZ := hide hg0.size
  clear hv ha hg0 hS
  generalize hn : ts.length = n at *
  have HN := hide hn
  clear hn
  go_enter Tryd.func42, Tryd.ntmps42
  go_wp2
  go_loopw [2] (fun i X => ∃ j : Nat, j ≤ n ∧ i = .int .i64 j ∧ Hid (Sh lo W0.heap.size W X)) (fun i _ => n - (intOf i).toNat)
  case atStart => exact ⟨0, by omega, rfl, HS0⟩
  case round =>
    obtain ⟨j, hj, rfl, HS⟩ := hrel
    by_cases hlt : j < n
    · obtain ⟨g, o, rfl, hlo, hc⟩ := HA.out (by omega)
      obtain ⟨m1, m2, m3⟩ := own_at HV.out
      obtain ⟨t, ht⟩ : ∃ t, ts[j]? = some t := ⟨_, List.getElem?_eq_getElem (by have := HN.out; omega)⟩
      have hw := hc j t ht 5 _ rfl
      have hw2 := (World.cell?_of_block (a := ⟨g, o + j * 6 + 5, none⟩) (HG0.out.block g m2 (by simp))).trans hw
      have hgW : g < W.heap.size := by have := HSZ.out; omega
      obtain ⟨y, hy⟩ := HS.out.num g _ _ hgW hw2
      have hf : wr.frozen? ⟨g, o + j * 6 + 5, none⟩ = false := HS.out.free g _ hgW (by
        have e := HG0.out.block g m2 (by simp)
        have := m3 (o + j * 6 + 5)
        simp only [World.frozen?] at this ⊢
        rw [e]; exact this)
      have HY := hide hy
      clear hw hw2 hc ht
      go_wp2
      go_roundw
      case rel => exact ⟨j + 1, by omega, by go_num, HS.out.set HY.out hlo.1 m2⟩
      case measure => simp [intOf]; omega
    · go_wp2
      go_end0
      exact ⟨rfl, HS.out⟩

set_option maxRecDepth 100000 in
set_option maxHeartbeats 1000000 in
theorem spoilI {lo : Nat} {W0 W : World} (v : Value) (ts : List Ins) (hv : W0.ownsRow lo 54 2 v ts.length (shI.cells ts)) (hg0 : W0.grownBy W none) (V : World) (hS : Sh lo W0.heap.size W V) :
    Calls Tryd.prog 43 #[v] V fun e V' => e = .returned (.tuple #[]) ∧ Sh lo W0.heap.size W V' := by
  have HV := hide hv
  obtain ⟨hl, a, cap, rfl, ha⟩ := rowAt_own (S := shI) hv
  have HA := hide ha
  have HG0 := hide hg0
  have HS0 := hide hS
  have HSZ := hide hg0.size
  clear hv ha hg0 hS
  generalize hn : ts.length = n at *
  have HN := hide hn
  clear hn
  go_enter Tryd.func43, Tryd.ntmps43
  go_wp2
  go_loopw [2] (fun i X => ∃ j : Nat, j ≤ n ∧ i = .int .i64 j ∧ Hid (Sh lo W0.heap.size W X)) (fun i _ => n - (intOf i).toNat)
  case atStart => exact ⟨0, by omega, rfl, HS0⟩
  case round =>
    obtain ⟨j, hj, rfl, HS⟩ := hrel
    by_cases hlt : j < n
    · obtain ⟨g, o, rfl, hlo, hc⟩ := HA.out (by omega)
      obtain ⟨m1, m2, m3⟩ := own_at HV.out
      obtain ⟨t, ht⟩ : ∃ t, ts[j]? = some t := ⟨_, List.getElem?_eq_getElem (by have := HN.out; omega)⟩
      have hw : W0.cell? ⟨g, o + j * 2, none⟩ = some (.int .i64 t.1) := hc j t ht 0 _ rfl
      have hw2 := (World.cell?_of_block (a := ⟨g, o + j * 2, none⟩) (HG0.out.block g m2 (by simp))).trans hw
      have hgW : g < W.heap.size := by have := HSZ.out; omega
      obtain ⟨y, hy⟩ := HS.out.num g _ _ hgW hw2
      have hf : wr.frozen? ⟨g, o + j * 2, none⟩ = false := HS.out.free g _ hgW (by
        have e := HG0.out.block g m2 (by simp)
        have := m3 (o + j * 2)
        simp only [World.frozen?] at this ⊢
        rw [e]; exact this)
      have HY := hide hy
      clear hw hw2 hc ht
      go_wp2
      go_roundw
      case rel => exact ⟨j + 1, by omega, by go_num, HS.out.set HY.out hlo.1 m2⟩
      case measure => simp [intOf]; omega
    · go_wp2
      go_end0
      exact ⟨rfl, HS.out⟩
#print axioms spoilT
#print axioms spoilI
end Go.Proofs.YtgaegggiehhcpaaDoor.R5
