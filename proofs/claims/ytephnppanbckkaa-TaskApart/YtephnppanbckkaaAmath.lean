/- What stands at each tick of the statement TaskApart: plain numbers. -/
import Derived.Test.YtephnppanbckkaaFmath
namespace Go.Proofs.Ytephnppanbckkaa
open Go.RowKit

/-- The turns may be; the last job lies behind; a regular task's came at a tick that its period divides. -/
structure Inv (t : TaskV) (l : Int) (zs : List Int) (j : Nat) : Prop where
  may : turnsMay ⟨l, zs⟩ = true
  past : l = -1 ∨ (0 ≤ l ∧ l < j)
  reg : t.kind = 0 → 0 ≤ l → l % t.period = 0
theorem inv_zero (t : TaskV) : Inv t (-1) [] 0 := ⟨by decide, .inl rfl, fun _ h => by omega⟩
theorem inv_at {t : TaskV} {l : Int} {zs : List Int} {j : Nat} (ht : taskMay t = true) (h : Inv t l zs j) (hj : j ≤ 60) : atMay t ⟨l, zs⟩ (j : Int) = true := by
  unfold atMay
  rw [ht, h.may, decide_eq_true (show (0 : Int) ≤ (j : Int) by omega), decide_eq_true (show (j : Int) ≤ 1099511627776 by omega)]
  rfl
theorem turns_mk {l : Int} {zs : List Int} (h1 : -1 ≤ l) (h2 : l ≤ 1099511627776) (h3 : zs.length ≤ 4) (h4 : zs.all demMay = true) : turnsMay ⟨l, zs⟩ = true := by
  unfold turnsMay
  dsimp only
  rw [decide_eq_true h1, decide_eq_true h2, decide_eq_true h3, h4]
  rfl
theorem inv_full {t : TaskV} {l d : Int} {zs : List Int} {j : Nat} (ht : taskMay t = true) (h : Inv t l zs j) (hd : demMay d = true) (hk : zs.length = 4) : pickS t ⟨l, zs⟩ d = ⟨0, []⟩ ∧ pickE t ⟨l, zs⟩ d = 1101 := by
  unfold pickS pickE
  rw [ht, h.may, hd]
  dsimp only
  rw [if_pos hk, if_pos hk]
  exact ⟨rfl, rfl⟩
theorem inv_room {t : TaskV} {l d : Int} {zs : List Int} {j : Nat} (ht : taskMay t = true) (h : Inv t l zs j) (hd : demMay d = true) (hk : ¬ zs.length = 4) : pickS t ⟨l, zs⟩ d = ⟨l, zs ++ [d]⟩ ∧ pickE t ⟨l, zs⟩ d = 0 ∧ Inv t l (zs ++ [d]) j := by
  obtain ⟨p1, p2, p3, p4⟩ := turns_parts h.may
  refine ⟨?_, ?_, turns_mk p1 p2 (by dsimp only at p3; simp; omega) (by dsimp only at p4; simp [p4, hd]), h.past, h.reg⟩
  · unfold pickS
    rw [ht, h.may, hd]
    dsimp only
    rw [if_neg hk]
    rfl
  · unfold pickE
    rw [ht, h.may, hd]
    dsimp only
    rw [if_neg hk]
    rfl
theorem inv_stay {t : TaskV} {l : Int} {zs : List Int} {j : Nat} (h : Inv t l zs j) (hc : comesB t ⟨l, zs⟩ (j : Int) = false) : Inv t l zs (j + 1) ∧ (t.kind = 1 → 0 < zs.length → 0 ≤ l ∧ (j : Int) - l < t.period) ∧ (t.kind = 0 → ¬ (j : Int) % t.period = 0) := by
  refine ⟨⟨h.may, by have := h.past; omega, h.reg⟩, fun hk hz => ?_, fun hk => ?_⟩
  · unfold comesB waitsB at hc
    dsimp only at hc
    rw [if_pos hk, decide_eq_true hz] at hc
    simp only [Bool.true_and, Bool.not_eq_false', Bool.and_eq_true, Bool.not_eq_true', decide_eq_false_iff_not, decide_eq_true_eq] at hc
    have := h.past
    omega
  · unfold comesB at hc
    rw [if_neg (by omega)] at hc
    exact of_decide_eq_false hc
theorem inv_come {t : TaskV} {l : Int} {zs : List Int} {j : Nat} (ht : taskMay t = true) (h : Inv t l zs j) (hj : j ≤ 60) (hc : comesB t ⟨l, zs⟩ (j : Int) = true) : Inv t (j : Int) (zs.drop 1) (j + 1) ∧ (t.kind = 1 → 0 < zs.length) ∧ (l = -1 ∨ (0 ≤ l ∧ ¬ (j : Int) - l < t.period)) := by
  obtain ⟨p1, p2, p3, p4⟩ := turns_parts h.may
  have hk01 := (may_parts ht).1
  dsimp only at p1 p2 p3 p4
  have hall : (zs.drop 1).all demMay = true := by
    rw [List.all_eq_true] at p4 ⊢
    exact fun x hx => p4 x (List.mem_of_mem_drop hx)
  have hlen : (zs.drop 1).length ≤ 4 := by rw [List.length_drop]; omega
  refine ⟨⟨turns_mk (by omega) (by omega) hlen hall, .inr ⟨by omega, by omega⟩, fun hk _ => ?_⟩, fun hk => ?_, ?_⟩
  · unfold comesB at hc
    rw [if_neg (by omega)] at hc
    exact of_decide_eq_true hc
  · unfold comesB at hc
    rw [if_pos hk] at hc
    simp only [Bool.and_eq_true, decide_eq_true_eq] at hc
    exact hc.1
  · rcases h.past with hl | ⟨hl0, hl1⟩
    · exact .inl hl
    · refine .inr ⟨hl0, fun hlt => ?_⟩
      rcases hk01 with hk | hk
      · unfold comesB at hc
        rw [if_neg (by omega)] at hc
        have h1 := of_decide_eq_true hc
        have h2 := h.reg hk hl0
        have hd : t.period ∣ (j : Int) - l := Int.dvd_sub (Int.dvd_of_emod_eq_zero h1) (Int.dvd_of_emod_eq_zero h2)
        have := Int.le_of_dvd (by omega) hd
        omega
      · unfold comesB waitsB at hc
        dsimp only at hc
        rw [if_pos hk] at hc
        simp only [Bool.and_eq_true, Bool.not_eq_true', decide_eq_true_eq] at hc
        rw [decide_eq_true hc.1, decide_eq_false (show ¬ l = -1 by omega), decide_eq_true hlt] at hc
        exact absurd hc.2 (by simp)
#print axioms inv_come
end Go.Proofs.Ytephnppanbckkaa
