/- Contracts of the statements' own LendJobs, KeptJobs and SpoilJobs for a law's walk, proved over the translation. -/
import Derived.Test.YtebiifcifcefoaaLaw0
namespace Go.Proofs.Ytebiifcifcefoaa
open Go.RowKit
attribute [local go_sem] alloc_drewN setCell_drewN

theorem cells_set (js : List JobV) (i : Nat) (x : JobV) (u : Int) (h : js[i]? = some x) : shJ.cells (js.set i { x with task := u }) = (shJ.cells js).set (i * 7) (.int .i64 u) := by
  induction js generalizing i with
  | nil => simp at h
  | cons y ys ih =>
    cases i with
    | zero =>
      simp only [List.getElem?_cons_zero, Option.some.injEq] at h
      subst h
      rw [List.set_cons_zero, shJ.cells_cons, shJ.cells_cons, Nat.zero_mul]
      rfl
    | succ i =>
      simp only [List.getElem?_cons_succ] at h
      rw [List.set_cons_succ, shJ.cells_cons, shJ.cells_cons, ih i h, List.set_append_right _ _ (by rw [shJ.len]; show 7 ≤ (i + 1) * 7; omega)]
      rw [shJ.len, show (i + 1) * 7 - shJ.k = i * 7 by show (i + 1) * 7 - 7 = i * 7; omega]
theorem own_setJ {W : World} {base n cap g i : Nat} {js : List JobV} {x : JobV} {u : Int} (h : W.ownsRow base 24 7 (.slice (some ⟨g, 0, none⟩) n cap) n (shJ.cells js)) (hx : js[i]? = some x) : (W.setCell ⟨g, i * 7, none⟩ (.int .i64 u)).ownsRow base 24 7 (.slice (some ⟨g, 0, none⟩) n cap) n (shJ.cells (js.set i { x with task := u })) := by
  rw [cells_set js i x u hx]
  exact (h.stored (i * 7) _).1
set_option maxRecDepth 100000 in
set_option maxHeartbeats 1000000 in
theorem spoil_some (g n : Nat) (js : List JobV) (cap base : Nat) (hz : n ≤ 9223372036854775807) (hn : js.length = n) (w : World) (hu : w.ownsRow base 24 7 (.slice (some ⟨g, 0, none⟩) n cap) n (shJ.cells js)) :
    Calls Try.prog 17 #[.slice (some ⟨g, 0, none⟩) n cap] w fun e w' => e = .returned (.tuple #[]) ∧ w.grownBy w' (some g) := by
  have HU := hide hu
  have HN := hide hn
  clear hu hn
  go_enter Try.func17, Try.ntmps17
  go_wp2
  go_loopw [2] (fun i W => ∃ (j : Nat) (ys : List JobV), j ≤ n ∧ i = .int .i64 j ∧ Hid (ys.length = n) ∧ Hid (W.ownsRow base 24 7 (.slice (some ⟨g, 0, none⟩) n cap) n (shJ.cells ys)) ∧ Hid (w.grownBy W (some g))) (fun i _ => n - (intOf i).toNat)
  case atStart => exact ⟨0, js, by omega, rfl, HN, HU, grownBy_refl _ _⟩
  case round =>
    obtain ⟨j, ys, hj, rfl, HY, HO, HG⟩ := hrel
    by_cases hlt : j < n
    · have hr := rowAt_own (S := shJ) (by have := HO.out; rw [← HY.out] at this; exact this)
      obtain ⟨-, a2, c2, e, ha⟩ := hr
      simp only [Value.slice.injEq] at e
      obtain ⟨rfl, -, rfl⟩ := e
      obtain ⟨g', o', e, -, hc⟩ := ha (by rw [HY.out]; omega)
      simp only [Option.some.injEq, Addr.mk.injEq, and_true] at e
      obtain ⟨rfl, rfl⟩ := e
      obtain ⟨q, hq⟩ : ∃ q, ys[j]? = some q := ⟨_, List.getElem?_eq_getElem (by rw [HY.out]; exact hlt)⟩
      have c3 : wr.cell? ⟨g, 0 + j * 7 + 0, none⟩ = some (.int .i64 q.task) := hc j q hq 0 _ rfl
      rw [Nat.zero_add, Nat.add_zero] at c3
      have c4 : wr.frozen? ⟨g, j * 7, none⟩ = false := HO.out.frozenAt (j * 7)
      have HQ := hide hq
      clear hc ha hq
      generalize hu1 : bits .xor .i64 q.task 90 = u1 at *
      have HU1 := hide hu1
      go_wp2
      clear hu1
      go_roundw
      case rel =>
        refine ⟨j + 1, ys.set j { q with task := u1 }, by omega, by go_num, hide (by simpa using HY.out), own_setJ HO.out HQ.out, grownBy_trans HG.out (grownBy_set _ _ _ _)⟩
      case measure => simp [intOf]; omega
    · go_wp2
      go_end0
      exact ⟨rfl, HG.out⟩
set_option maxRecDepth 100000 in
set_option maxHeartbeats 1000000 in
theorem spoil_none (cap : Nat) (w : World) :
    Calls Try.prog 17 #[.slice none 0 cap] w fun e w' => e = .returned (.tuple #[]) ∧ w = w' := by
  go_enter Try.func17, Try.ntmps17
  go_wp2
  go_loopw [2] (fun i W => i = .int .i64 0 ∧ W = w) (fun _ _ => 0)
  case atStart => exact ⟨rfl, rfl⟩
  case round =>
    obtain ⟨rfl, rfl⟩ := hrel
    go_wp2
    go_end0
    exact ⟨rfl, rfl⟩
/-- What was handed out is written over: nothing else has turned. -/
theorem spoil_any {base n : Nat} (u : Option Addr) (c : Nat) (js : List JobV) (w : World) (hn : js.length = n) (hu : Own base w (.slice u n c) js) :
    Calls Try.prog 17 #[.slice u n c] w fun e w' => e = .returned (.tuple #[]) ∧ w.grownBy w' (Value.slice u n c).ownBlock := by
  unfold Own at hu
  rw [hn] at hu
  have hu2 := hu
  rcases hu.2 with ⟨e, h0⟩ | ⟨g, cap, cur, e, hg, h2, h3, h4, -⟩
  · simp only [Value.slice.injEq] at e
    obtain ⟨rfl, -, rfl⟩ := e
    subst h0
    exact (spoil_none 0 w).mono fun e w' h => ⟨h.1, by rw [← h.2]; exact grownBy_refl _ _⟩
  · simp only [Value.slice.injEq, true_and] at e
    obtain ⟨rfl, rfl⟩ := e
    exact spoil_some g n js c base (by unfold maxLen at h4; omega) hn w hu2
#print axioms spoil_any
end Go.Proofs.Ytebiifcifcefoaa
