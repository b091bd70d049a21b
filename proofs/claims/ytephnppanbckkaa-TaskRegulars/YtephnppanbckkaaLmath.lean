/- What the document's answers are at the statements' tasks and turns: plain numbers. -/
import Derived.Test.YtephnppanbckkaaLaw0
import Derived.Test.YtephnppanbckkaaBits
namespace Go.Proofs.Ytephnppanbckkaa
open Go.RowKit

/-- A literal's block as a row of the call's own. -/
theorem own_blk {B n : Nat} {W : World} {cs : Array Value} {xs : List Int} (h : W.heap[B]? = some (.cells cs 3 (0, 0))) (e : cs = (shN.cells xs).toArray) (hn : n = xs.length) (hl : xs.length ≤ 9223372036854775807) : Own B W (.slice (some ⟨B, 0, none⟩) n n) xs := by
  subst hn
  subst e
  refine ⟨by rw [shN.cells_length]; rfl, .inr ⟨B, _, _, rfl, Nat.le_refl _, h, Nat.le_refl _, by unfold maxLen; omega, ?_, ?_⟩⟩
  · have := shN.cells_length xs
    rw [List.size_toArray, this]; rfl
  · have := shN.cells_length xs
    show List.take (xs.length * 1) (shN.cells xs) = shN.cells xs
    rw [List.take_of_length_le]
    rw [this]; exact Nat.le_refl _

theorem rel_out {t : TaskV} {s : TurnsV} {now : Int} {m c : Bool} (hm : atMay t s now = m) (hc : comesB t s now = c) : relS t s now = (if m then (if c then jobS s now else s) else noTurns) ∧ relD t s now = (if m && c then jobD t s else 0) ∧ isB t s now = (m && c) := by
  unfold relS relD isB
  rw [hm, hc]
  exact ⟨rfl, rfl, rfl⟩

theorem wt_may {P : Int} (h1 : 1 ≤ P) (h2 : P ≤ 1024) : taskMay ⟨1, P, P, 1, 1, 0⟩ = true := by
  simp [taskMay]; omega
theorem wt_now {P L : Int} {zs : List Int} {now : Int} (h1 : 1 ≤ P) (h2 : P ≤ 1024) (hL : -1 ≤ L) (hL2 : L ≤ 1048575) (hn : 0 ≤ now) (hn2 : now ≤ 1050622) (hz : zs.length ≤ 4) (hd : zs.all demMay = true) : atMay ⟨1, P, P, 1, 1, 0⟩ ⟨L, zs⟩ now = true := by
  unfold atMay turnsMay
  rw [wt_may h1 h2]
  dsimp only
  rw [hd, decide_eq_true hL, decide_eq_true (show L ≤ 1099511627776 by omega), decide_eq_true hz, decide_eq_true hn, decide_eq_true (show now ≤ 1099511627776 by omega)]
  rfl
theorem wt_waits {P K G : Int} (h3 : 0 ≤ K) (x : Int) (zs : List Int) : waitsB ⟨1, P, P, 1, 1, 0⟩ ⟨K, x :: zs⟩ (K + G) = decide (G < P) := by
  unfold waitsB
  have e1 : decide (K = -1) = false := decide_eq_false (by omega)
  dsimp only
  rw [e1, show K + G - K = G by omega]
  simp
/-- Late, Release at the statement's tasks. -/
structure WtAns (P K G : Int) : Prop where
  late : lateB ⟨1, P, P, 1, 1, 0⟩ ⟨K, [6, 7]⟩ (K + G) = decide (G < P)
  one : G < P → relS ⟨1, P, P, 1, 1, 0⟩ ⟨K, [6, 7]⟩ (K + G) = ⟨K, [6, 7]⟩ ∧ relD ⟨1, P, P, 1, 1, 0⟩ ⟨K, [6, 7]⟩ (K + G) = 0 ∧ isB ⟨1, P, P, 1, 1, 0⟩ ⟨K, [6, 7]⟩ (K + G) = false
  two : ¬ G < P → relS ⟨1, P, P, 1, 1, 0⟩ ⟨K, [6, 7]⟩ (K + G) = ⟨K + G, [7]⟩ ∧ relD ⟨1, P, P, 1, 1, 0⟩ ⟨K, [6, 7]⟩ (K + G) = 6 ∧ isB ⟨1, P, P, 1, 1, 0⟩ ⟨K, [6, 7]⟩ (K + G) = true
  none : relS ⟨1, P, P, 1, 1, 0⟩ ⟨K, []⟩ (K + G) = ⟨K, []⟩ ∧ relD ⟨1, P, P, 1, 1, 0⟩ ⟨K, []⟩ (K + G) = 0 ∧ isB ⟨1, P, P, 1, 1, 0⟩ ⟨K, []⟩ (K + G) = false
  first : relS ⟨1, P, P, 1, 1, 0⟩ ⟨-1, [9]⟩ K = ⟨K, []⟩ ∧ relD ⟨1, P, P, 1, 1, 0⟩ ⟨-1, [9]⟩ K = 9 ∧ isB ⟨1, P, P, 1, 1, 0⟩ ⟨-1, [9]⟩ K = true
theorem wt_ans {P K G : Int} (h1 : 1 ≤ P) (h2 : P ≤ 1024) (h3 : 0 ≤ K) (h4 : K ≤ 1048575) (h5 : 0 ≤ G) (h6 : G ≤ 2047) : WtAns P K G := by
  have m1 : atMay ⟨1, P, P, 1, 1, 0⟩ ⟨K, [6, 7]⟩ (K + G) = true := wt_now h1 h2 (by omega) h4 (by omega) (by omega) (by decide) (by decide)
  have m2 : atMay ⟨1, P, P, 1, 1, 0⟩ ⟨K, []⟩ (K + G) = true := wt_now h1 h2 (by omega) h4 (by omega) (by omega) (by decide) (by decide)
  have m3 : atMay ⟨1, P, P, 1, 1, 0⟩ ⟨-1, [9]⟩ K = true := wt_now h1 h2 (by omega) (by omega) (by omega) (by omega) (by decide) (by decide)
  have c1 : comesB ⟨1, P, P, 1, 1, 0⟩ ⟨K, [6, 7]⟩ (K + G) = !decide (G < P) := by
    unfold comesB
    rw [if_pos rfl, wt_waits h3]
    rfl
  have c2 : comesB ⟨1, P, P, 1, 1, 0⟩ ⟨K, []⟩ (K + G) = false := rfl
  have c3 : comesB ⟨1, P, P, 1, 1, 0⟩ ⟨-1, [9]⟩ K = true := rfl
  refine ⟨?_, fun h => ?_, fun h => ?_, ?_, ?_⟩
  · unfold lateB
    rw [m1, wt_waits h3]
    rfl
  · rw [decide_eq_true h] at c1
    exact rel_out m1 c1
  · rw [decide_eq_false h] at c1
    exact rel_out m1 c1
  · exact rel_out m2 c2
  · exact rel_out m3 c3
#print axioms wt_ans
end Go.Proofs.Ytephnppanbckkaa
