/- The document's calls where their answers have names; a row handed out, written over; what was lent, told by its length. -/
import Derived.Test.YtephnppanbckkaaAw
import Derived.Test.YtephnppanbckkaaRefR
import Derived.Test.YtephnppanbckkaaRefP
namespace Go.Proofs.Ytephnppanbckkaa
open Go.RowKit
attribute [local go_sem] alloc_drewN setCell_drewN

theorem rpick_at {lo N : Nat} {t : TaskV} {L : Int} {v : Value} {zs : List Int} {d L' E : Int} {zs' : List Int} (w : World) (hv : RowAt shN lo w v zs) (hS : pickS t ⟨L, zs⟩ d = ⟨L', zs'⟩) (hE : pickE t ⟨L, zs⟩ d = E) (hN : zs'.length = N) :
    Calls Try.prog 10 #[taskVal t, .agg #[.int .i64 L, v], .int .i64 d] w fun e w' => ∃ u c, e = .returned (.tuple #[.agg #[.int .i64 L', .slice u N c], .int .i64 E]) ∧ Own w.heap.size w' (.slice u N c) zs' ∧ w.grownBy w' none := by
  have := rpick_any t L v zs d w hv
  rw [hS, hE] at this
  refine this.mono ?_; rintro e w' ⟨v', rfl, ho, hg⟩
  obtain ⟨u, c, rfl⟩ := own_form ho
  dsimp only at ho ⊢
  rw [hN] at ho ⊢
  exact ⟨u, c, rfl, ho, hg⟩
theorem rrel_at {lo N : Nat} {t : TaskV} {L : Int} {v : Value} {zs : List Int} {now L' D : Int} {b : Bool} {zs' : List Int} (w : World) (hv : RowAt shN lo w v zs) (hS : relS t ⟨L, zs⟩ now = ⟨L', zs'⟩) (hD : relD t ⟨L, zs⟩ now = D) (hB : isB t ⟨L, zs⟩ now = b) (hN : zs'.length = N) :
    Calls Try.prog 12 #[taskVal t, .agg #[.int .i64 L, v], .int .i64 now] w fun e w' => ∃ u c, e = .returned (.tuple #[.agg #[.int .i64 L', .slice u N c], .int .i64 D, .bool b]) ∧ Own w.heap.size w' (.slice u N c) zs' ∧ w.grownBy w' none := by
  have := rrel_any t L v zs now w hv
  rw [hS, hD, hB] at this
  refine this.mono ?_; rintro e w' ⟨v', rfl, ho, hg⟩
  obtain ⟨u, c, rfl⟩ := own_form ho
  dsimp only at ho ⊢
  rw [hN] at ho ⊢
  exact ⟨u, c, rfl, ho, hg⟩
theorem rlate_at {lo : Nat} {t : TaskV} {L : Int} {a : Option Addr} {n cap : Nat} {zs : List Int} {now : Int} {b : Bool} (w : World) (hv : RowAt shN lo w (.slice a n cap) zs) (hB : lateB t ⟨L, zs⟩ now = b) :
    Calls Try.prog 19 #[taskVal t, .agg #[.int .i64 L, .slice a n cap], .int .i64 now] w fun e w' => e = .returned (.bool b) ∧ w.grownBy w' none := by
  have := rlate_any t L a n cap zs now w hv
  rwa [hB] at this
theorem rmayT_at {t : TaskV} {b : Bool} (w : World) (hB : taskMay t = b) :
    Calls Try.prog 17 #[taskVal t] w fun e w' => e = .returned (.bool b) ∧ w.grownBy w' none := by
  have := rtask_any t w
  rwa [hB] at this
/-- What was handed out is written over, and nothing else. -/
theorem spoil_own {base n : Nat} (u : Option Addr) (c : Nat) (zs : List Int) (w : World) (hn : zs.length = n) (hu : Own base w (.slice u n c) zs) :
    Calls Try.prog 15 #[.slice u n c] w fun e w' => e = .returned (.tuple #[]) ∧ w.grownBy w' (Value.slice u n c).ownBlock := by
  unfold Own at hu
  rw [hn] at hu
  have hu2 := hu
  rcases hu.2 with ⟨e, h0⟩ | ⟨g, cap, cur, e, hg, h2, h3, h4, -⟩
  · simp only [Value.slice.injEq] at e
    obtain ⟨rfl, -, rfl⟩ := e
    subst h0
    exact (spoil_none 0 w).mono fun e w' h => ⟨h.1, by rw [← h.2]; exact grownBy_refl _ _⟩
  · simp only [Value.slice.injEq, true_and] at e
    obtain ⟨rfl, rfl⟩ := e
    exact spoil_some g n zs c base (by unfold maxLen at h4; omega) hn w hu2
theorem Own.kept {base : Nat} {W W1 : World} {v : Value} {xs : List Int} {r : Option Nat} (h : Own base W v xs) (hg : W.grownBy W1 r) (hb : ∀ g, r = some g → g < base) : Own base W1 v xs := by
  refine World.ownsRow.kept h hg ?_
  cases hv : v.ownBlock with
  | none => exact .inl rfl
  | some k =>
    refine .inr fun e => ?_
    have h1 := hb k e.symm
    have h2 := (World.ownsRow.lt h k hv).1
    omega
theorem lend_at {lo n : Nat} (v : Value) (zs : List Int) (hn : zs.length = n) (hz : n ≤ 17592186043904) (w : World) (hv : RowAt shN lo w v zs) :
    Calls Try.prog 8 #[v] w fun e w' => ∃ g cap', e = .returned (.slice (some ⟨g, 0, none⟩) n cap') ∧ n + 2 ≤ cap' ∧ RowAt shN w.heap.size w' (.slice (some ⟨g, 0, none⟩) (n + 2) cap') (zs ++ Nn.mark) ∧ w.grownBy w' none := by
  subst hn
  refine (Nn.lend_any v zs hz w hv).mono ?_; rintro e w' ⟨g, c, rfl, h1, -, h2, h3⟩
  exact ⟨g, c, rfl, h1, h2, h3⟩
theorem lent_at {lo n : Nat} {W : World} {g cap : Nat} {zs : List Int} (hn : zs.length = n) (h : RowAt shN lo W (.slice (some ⟨g, 0, none⟩) (n + 2) cap) (zs ++ Nn.mark)) : RowAt shN lo W (.slice (some ⟨g, 0, none⟩) n cap) zs := by
  subst hn
  exact Nn.lent_reads h
theorem kept_at {lo lo' n : Nat} (g cap : Nat) (v : Value) (zs : List Int) (hn : zs.length = n) (hz : n ≤ 17592186043904) (hc : n + 2 ≤ cap) (w : World) (hl : RowAt shN lo w (.slice (some ⟨g, 0, none⟩) (n + 2) cap) (zs ++ Nn.mark)) (hv : RowAt shN lo' w v zs) :
    Calls Try.prog 20 #[.slice (some ⟨g, 0, none⟩) n cap, v] w fun e w' => e = .returned (.bool true) ∧ w.grownBy w' none := by
  subst hn
  exact (Nn.kept_any g cap v zs hz hc w hl hv).mono fun e w' h => ⟨h.1, by obtain ⟨k, hk⟩ := h.2; rw [hk]; exact grownBy_draws _ _ _⟩
#print axioms kept_at
end Go.Proofs.Ytephnppanbckkaa
