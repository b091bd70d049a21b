/- What package supply's sums lay, on lists alone. -/
import Derived.Test.YtgocfgjdafkjlabDoorArr
namespace Go.Proofs.YtgocfgjdafkjlabDoor
open Go.RowKit

/-- The ones that the windows so far have laid. -/
def winF (ws : List WinV) (p : Nat) (F : Nat) : Nat → Nat → Int
  | 0 => fun _ => 0
  | j + 1 => if (winAt ws j).part = p then markF (winF ws p F j) F (winAt ws j).fr.toNat (winAt ws j).til.toNat else winF ws p F j
theorem mod_one {F i : Nat} (h1 : 1 ≤ i) (h2 : i ≤ 2 * F) : (i - 1 < F ∧ (i - 1) % F = i - 1) ∨ (F ≤ i - 1 ∧ (i - 1) % F = i - 1 - F) := by
  rcases Nat.lt_or_ge (i - 1) F with h | h
  · exact .inl ⟨h, Nat.mod_eq_of_lt h⟩
  · exact .inr ⟨h, by rw [Nat.mod_eq_sub_mod h, Nat.mod_eq_of_lt (by omega)]⟩
theorem Fine.winF {C : ConfV} (h : Fine C) (p F : Nat) (hF : (F : Int) = C.frame) {i : Nat} (h1 : 1 ≤ i) (h2 : i ≤ 2 * F) (j : Nat) (hj : j ≤ C.wins.length) : winF C.wins p F j i = sumTo (fun m => ind (winAt C.wins m) p ((i - 1) % F)) j := by
  induction j with
  | zero => rfl
  | succ j ih =>
    have hw := h.win j (by omega)
    have h0 := h.fr0 j (by omega)
    have ih := ih (by omega)
    simp only [sumTo]
    have hm := mod_one h1 h2
    have HZ : inW (winAt C.wins j) (((i - 1) % F : Nat) : Int) = true → sumTo (fun m => ind (winAt C.wins m) p ((i - 1) % F)) j = 0 := by
      intro hin
      refine sumTo_zero fun m hm => ?_
      have hs := h.sorted hm (by omega)
      unfold ind
      rw [if_neg]
      rintro ⟨h3, -⟩
      simp only [inW, Bool.and_eq_true, decide_eq_true_eq] at h3 hin
      omega
    show (if (winAt C.wins j).part = p then markF (Go.Proofs.YtgocfgjdafkjlabDoor.winF C.wins p F j) F (winAt C.wins j).fr.toNat (winAt C.wins j).til.toNat else Go.Proofs.YtgocfgjdafkjlabDoor.winF C.wins p F j) i = _ + ind (winAt C.wins j) p ((i - 1) % F)
    generalize Go.Proofs.YtgocfgjdafkjlabDoor.winF C.wins p F j = f at *
    generalize (i - 1) % F = t at *
    generalize sumTo (fun m => ind (winAt C.wins m) p t) j = s at *
    unfold ind
    by_cases hp : (winAt C.wins j).part = p
    · rw [if_pos hp]
      unfold markF
      by_cases hin : inW (winAt C.wins j) (t : Int) = true
      · have hc : inW (winAt C.wins j) (t : Int) = true ∧ (winAt C.wins j).part = p := ⟨hin, hp⟩
        have hz := HZ hin
        simp only [inW, Bool.and_eq_true, decide_eq_true_eq] at hin
        rw [if_pos hc, if_pos (by omega)]
        omega
      · have hc : ¬ (inW (winAt C.wins j) (t : Int) = true ∧ (winAt C.wins j).part = p) := fun e => hin e.1
        simp only [inW, Bool.and_eq_true, decide_eq_true_eq] at hin
        rw [if_neg hc, if_neg (by omega), ih, Int.add_zero]
    · rw [if_neg hp, if_neg (fun e => hp e.2), ih, Int.add_zero]
theorem winF_none (ws : List WinV) (p F j : Nat) : winF ws p F j 0 = 0 := by
  induction j with
  | zero => rfl
  | succ j ih =>
    show (if (winAt ws j).part = p then markF (winF ws p F j) F (winAt ws j).fr.toNat (winAt ws j).til.toNat else winF ws p F j) 0 = 0
    split
    · unfold markF; rw [if_neg (by omega)]; exact ih
    · exact ih
theorem Fine.laid {C : ConfV} (h : Fine C) (p F : Nat) (hF : (F : Int) = C.frame) (i : Nat) (h2 : i < 2 * F) : Go.Proofs.YtgocfgjdafkjlabDoor.winF C.wins p F C.wins.length (i + 1) = own1 C p F i := by
  have F0 := h.f0
  rw [h.winF p F hF (by omega) (by omega) _ (Nat.le_refl _), Nat.add_sub_cancel, ← h.own]
  rfl
/-- The sums up to j, what is laid behind them. -/
def halfF (o m : Nat → Int) (j i : Nat) : Int := if i ≤ j then sumTo o i else m i

#print axioms Fine.laid
end Go.Proofs.YtgocfgjdafkjlabDoor
