/- What the statements' walks share: Num, SameTurns, SpoilInts, and Pick and Release where their answers are known. -/
import Derived.Test.YtephnppanbckkaaLate
import Derived.Test.YtephnppanbckkaaRelease
import Derived.Test.YtephnppanbckkaaPick
import Derived.Test.YtephnppanbckkaaLendN
namespace Go.Proofs.Ytephnppanbckkaa
open Go.RowKit
attribute [local go_sem] alloc_drewN setCell_drewN

theorem num_to (e : Int) (w : World) :
    Calls Try.prog 14 #[.int .i64 e] w fun r w' => r = .returned (.int .i64 e) ∧ w = w' := by
  go_enter Try.func14, Try.ntmps14
  go_wp2
  go_ret
  exact ⟨rfl, rfl⟩
theorem pick_at {lo N : Nat} {t : TaskV} {L : Int} {v : Value} {zs : List Int} {d L' E : Int} {zs' : List Int} (w : World) (hv : RowAt shN lo w v zs) (hS : pickS t ⟨L, zs⟩ d = ⟨L', zs'⟩) (hE : pickE t ⟨L, zs⟩ d = E) (hN : zs'.length = N) :
    Calls Try.prog 9 #[taskVal t, .agg #[.int .i64 L, v], .int .i64 d] w fun e w' => ∃ u c, e = .returned (.tuple #[.agg #[.int .i64 L', .slice u N c], .int .i64 E]) ∧ Own w.heap.size w' (.slice u N c) zs' ∧ w.grownBy w' none := by
  have := pick_any t L v zs d w hv
  rw [hS, hE] at this
  refine this.mono ?_; rintro e w' ⟨v', rfl, ho, hg⟩
  obtain ⟨u, c, rfl⟩ := own_form ho
  dsimp only at ho ⊢
  rw [hN] at ho ⊢
  exact ⟨u, c, rfl, ho, hg⟩
theorem rel_at {lo N : Nat} {t : TaskV} {L : Int} {v : Value} {zs : List Int} {now L' D : Int} {b : Bool} {zs' : List Int} (w : World) (hv : RowAt shN lo w v zs) (hS : relS t ⟨L, zs⟩ now = ⟨L', zs'⟩) (hD : relD t ⟨L, zs⟩ now = D) (hB : isB t ⟨L, zs⟩ now = b) (hN : zs'.length = N) :
    Calls Try.prog 11 #[taskVal t, .agg #[.int .i64 L, v], .int .i64 now] w fun e w' => ∃ u c, e = .returned (.tuple #[.agg #[.int .i64 L', .slice u N c], .int .i64 D, .bool b]) ∧ Own w.heap.size w' (.slice u N c) zs' ∧ w.grownBy w' none := by
  have := rel_any t L v zs now w hv
  rw [hS, hD, hB] at this
  refine this.mono ?_; rintro e w' ⟨v', rfl, ho, hg⟩
  obtain ⟨u, c, rfl⟩ := own_form ho
  dsimp only at ho ⊢
  rw [hN] at ho ⊢
  exact ⟨u, c, rfl, ho, hg⟩
theorem may_at {t : TaskV} {b : Bool} (w : World) (hB : taskMay t = b) :
    Calls Try.prog 16 #[taskVal t] w fun e w' => e = .returned (.bool b) ∧ w.grownBy w' none := by
  have := may_any t w
  rwa [hB] at this
theorem late_at {lo : Nat} {t : TaskV} {L : Int} {a : Option Addr} {n cap : Nat} {zs : List Int} {now : Int} {b : Bool} (w : World) (hv : RowAt shN lo w (.slice a n cap) zs) (hB : lateB t ⟨L, zs⟩ now = b) :
    Calls Try.prog 18 #[taskVal t, .agg #[.int .i64 L, .slice a n cap], .int .i64 now] w fun e w' => e = .returned (.bool b) ∧ w.grownBy w' none := by
  have := late_any t L a n cap zs now w hv
  rwa [hB] at this

set_option maxRecDepth 100000 in
set_option maxHeartbeats 1000000 in
theorem sameT_any {lo lo' : Nat} (L : Int) (a b : Option Addr) (n m c c' : Nat) (zs : List Int) (w : World) (hu : RowAt shN lo w (.slice a n c) zs) (hv : RowAt shN lo' w (.slice b m c') zs) :
    Calls Try.prog 13 #[.agg #[.int .i64 L, .slice a n c], .agg #[.int .i64 L, .slice b m c']] w fun e w' => e = .returned (.bool true) ∧ w.grownBy w' none := by
  have C := hide (fun W (hg : w.grownBy W none) => Nn.same_T (.slice a n c) (.slice b m c') zs W (hu.grown hg) (hv.grown hg))
  clear hu hv
  go_enter Try.func13, Try.ntmps13
  go_wp2_with (first | fail)
  refine (C.out _ (grownBy_trans (World.grownBy_alloc _ _ _) (World.grownBy_alloc _ _ _))).mono ?_; rintro e w1 ⟨rfl, k, rfl⟩
  go_wp2
  go_ret
  exact ⟨rfl, grownBy_trans (grownBy_trans (World.grownBy_alloc _ _ _) (World.grownBy_alloc _ _ _)) (grownBy_draws _ _ _)⟩

theorem own_set1 {W : World} {base n cap g j : Nat} {zs : List Int} {u : Int} (h : W.ownsRow base 3 1 (.slice (some ⟨g, 0, none⟩) n cap) n (shN.cells zs)) : (W.setCell ⟨g, j, none⟩ (.int .i64 u)).ownsRow base 3 1 (.slice (some ⟨g, 0, none⟩) n cap) n (shN.cells (zs.set j u)) := by
  have e : shN.cells (zs.set j u) = (shN.cells zs).set j (.int .i64 u) := by
    have hm : ∀ ys : List Int, shN.cells ys = ys.map (Value.int .i64) := by
      intro ys
      induction ys with
      | nil => rfl
      | cons y ys ih => rw [shN.cells_cons, ih]; rfl
    rw [hm, hm, List.map_set]
  rw [e]
  exact (h.stored j _).1
set_option maxRecDepth 100000 in
set_option maxHeartbeats 1000000 in
theorem spoil_some (g n : Nat) (zs : List Int) (cap base : Nat) (hz : n ≤ 9223372036854775807) (hn : zs.length = n) (w : World) (hu : w.ownsRow base 3 1 (.slice (some ⟨g, 0, none⟩) n cap) n (shN.cells zs)) :
    Calls Try.prog 15 #[.slice (some ⟨g, 0, none⟩) n cap] w fun e w' => e = .returned (.tuple #[]) ∧ w.grownBy w' (some g) := by
  have HU := hide hu
  have HN := hide hn
  clear hu hn
  go_enter Try.func15, Try.ntmps15
  go_wp2
  go_loopw [2] (fun i W => ∃ (j : Nat) (ys : List Int), j ≤ n ∧ i = .int .i64 j ∧ Hid (ys.length = n) ∧ Hid (W.ownsRow base 3 1 (.slice (some ⟨g, 0, none⟩) n cap) n (shN.cells ys)) ∧ Hid (w.grownBy W (some g))) (fun i _ => n - (intOf i).toNat)
  case atStart => exact ⟨0, zs, by omega, rfl, HN, HU, grownBy_refl _ _⟩
  case round =>
    obtain ⟨j, ys, hj, rfl, HY, HO, HG⟩ := hrel
    by_cases hlt : j < n
    · have hr := rowAt_own (S := shN) (by have := HO.out; rw [← HY.out] at this; exact this)
      obtain ⟨-, a2, c2, e, ha⟩ := hr
      simp only [Value.slice.injEq] at e
      obtain ⟨rfl, -, rfl⟩ := e
      obtain ⟨g', o', e, -, hc⟩ := ha (by rw [HY.out]; omega)
      simp only [Option.some.injEq, Addr.mk.injEq, and_true] at e
      obtain ⟨rfl, rfl⟩ := e
      obtain ⟨q, hq⟩ : ∃ q, ys[j]? = some q := ⟨_, List.getElem?_eq_getElem (by rw [HY.out]; exact hlt)⟩
      have c3 : wr.cell? ⟨g, 0 + j * 1 + 0, none⟩ = some (.int .i64 q) := hc j q hq 0 _ rfl
      rw [Nat.zero_add, Nat.mul_one, Nat.add_zero] at c3
      have c4 : wr.frozen? ⟨g, j, none⟩ = false := HO.out.frozenAt j
      clear hc ha hq
      go_wp2
      go_roundw
      case rel =>
        refine ⟨j + 1, ys.set j (wrap64 (-9 - q)), by omega, by go_num, hide (by simpa using HY.out), own_set1 HO.out, grownBy_trans HG.out (grownBy_set _ _ _ _)⟩
      case measure => simp [intOf]; omega
    · go_wp2
      go_end0
      exact ⟨rfl, HG.out⟩
set_option maxRecDepth 100000 in
set_option maxHeartbeats 1000000 in
theorem spoil_none (cap : Nat) (w : World) :
    Calls Try.prog 15 #[.slice none 0 cap] w fun e w' => e = .returned (.tuple #[]) ∧ w = w' := by
  go_enter Try.func15, Try.ntmps15
  go_wp2
  go_loopw [2] (fun i W => i = .int .i64 0 ∧ W = w) (fun _ _ => 0)
  case atStart => exact ⟨rfl, rfl⟩
  case round =>
    obtain ⟨rfl, rfl⟩ := hrel
    go_wp2
    go_end0
    exact ⟨rfl, rfl⟩
/-- What was handed out is written over: nothing that lay below its base has turned. -/
theorem spoil_any {base n : Nat} (u : Option Addr) (c : Nat) (zs : List Int) (w : World) (hb : base ≤ w.heap.size) (hn : zs.length = n) (hu : Own base w (.slice u n c) zs) :
    Calls Try.prog 15 #[.slice u n c] w fun e w' => e = .returned (.tuple #[]) ∧ Below base w w' := by
  unfold Own at hu
  rw [hn] at hu
  have hu2 := hu
  rcases hu.2 with ⟨e, h0⟩ | ⟨g, cap, cur, e, hg, h2, h3, h4, -⟩
  · simp only [Value.slice.injEq] at e
    obtain ⟨rfl, -, rfl⟩ := e
    subst h0
    exact (spoil_none 0 w).mono fun e w' h => ⟨h.1, by rw [← h.2]; exact Below.refl _ _⟩
  · simp only [Value.slice.injEq, true_and] at e
    obtain ⟨rfl, rfl⟩ := e
    refine (spoil_some g n zs c base (by unfold maxLen at h4; omega) hn w hu2).mono fun e w' h => ⟨h.1, ?_⟩
    exact (Below.refl base w).grown h.2 hb (fun k hk => by cases hk; exact hg)
#print axioms spoil_any
end Go.Proofs.Ytephnppanbckkaa
