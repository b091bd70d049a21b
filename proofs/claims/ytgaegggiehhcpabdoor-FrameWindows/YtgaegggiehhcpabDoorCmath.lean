/- A part's share is the ticks of a frame that are its: on lists alone. -/
import Derived.Test.YtgaegggiehhcpabDoorFrm3
namespace Go.Proofs.YtgaegggiehhcpabDoor
open Go.RowKit

def sumTo (f : Nat → Int) : Nat → Int
  | 0 => 0
  | n + 1 => sumTo f n + f n
theorem sumTo_congr {f g : Nat → Int} {n : Nat} (h : ∀ i, i < n → f i = g i) : sumTo f n = sumTo g n := by
  induction n with
  | zero => rfl
  | succ n ih => simp only [sumTo]; rw [ih fun i hi => h i (by omega), h n (by omega)]
theorem sumTo_zero {f : Nat → Int} {n : Nat} (h : ∀ i, i < n → f i = 0) : sumTo f n = 0 := by
  induction n with
  | zero => rfl
  | succ n ih => simp only [sumTo]; rw [ih fun i hi => h i (by omega), h n (by omega)]; rfl
theorem sumTo_add (f g : Nat → Int) (n : Nat) : sumTo (fun i => f i + g i) n = sumTo f n + sumTo g n := by
  induction n with
  | zero => rfl
  | succ n ih => simp only [sumTo]; rw [ih]; omega
theorem sumTo_swap (f : Nat → Nat → Int) (m n : Nat) : sumTo (fun t => sumTo (fun i => f i t) n) m = sumTo (fun i => sumTo (fun t => f i t) m) n := by
  induction m with
  | zero => exact (sumTo_zero fun _ _ => rfl).symm
  | succ m ih => simp only [sumTo]; rw [ih, sumTo_add]
/-- Only one of them is not 0. -/
theorem sumTo_one {f : Nat → Int} {n j : Nat} (hj : j < n) (h : ∀ i, i < n → i ≠ j → f i = 0) : sumTo f n = f j := by
  induction n with
  | zero => omega
  | succ n ih =>
    simp only [sumTo]
    rcases (by omega : j = n ∨ j < n) with rfl | hlt
    · rw [sumTo_zero fun i hi => h i (by omega) (by omega)]; omega
    · rw [ih hlt fun i hi hne => h i (by omega) hne, h n (by omega) (by omega)]; omega
def ind (x : WinV) (p : Int) (t : Nat) : Int := if inW x t = true ∧ x.part = p then 1 else 0
theorem ind_sum (x : WinV) (p : Int) (h0 : 0 ≤ x.fr) (h1 : x.fr < x.til) (m : Nat) : sumTo (ind x p) m = if x.part = p then (if (m : Int) ≤ x.fr then 0 else if (m : Int) ≤ x.til then m - x.fr else x.til - x.fr) else 0 := by
  induction m with
  | zero => simp only [sumTo]; split <;> (try split) <;> simp_all
  | succ m ih =>
    simp only [sumTo]
    rw [ih]
    unfold ind inW
    by_cases hp : x.part = p
    · simp only [hp, and_true, if_true, Bool.and_eq_true, decide_eq_true_eq]
      split <;> split <;> (try split) <;> (try split) <;> omega
    · simp [hp]
theorem ind_whole (x : WinV) (p : Int) (h0 : 0 ≤ x.fr) (h1 : x.fr < x.til) (F : Nat) (hF : x.til ≤ F) : sumTo (ind x p) F = tickOne x p := by
  rw [ind_sum x p h0 h1]
  unfold tickOne
  split
  · split
    · omega
    · split <;> omega
  · rfl
theorem Fine.sorted {C : ConfV} (h : Fine C) {j i : Nat} (hji : j < i) (hi : i < C.wins.length) : (winAt C.wins j).til ≤ (winAt C.wins i).fr := by
  induction i with
  | zero => omega
  | succ i ih =>
    have h1 := (h.win (i + 1) hi).1
    have h2 : (winAt C.wins i).til ≤ (winAt C.wins (i + 1)).fr := h1
    rcases (by omega : j = i ∨ j < i) with rfl | hlt
    · exact h2
    · have := ih hlt (by omega)
      have := (h.win i (by omega)).2.1
      omega
theorem first_in {ws : List WinV} {k : Int} : (∀ i, i < ws.length → inW (winAt ws i) k = false) ∨ ∃ j, j < ws.length ∧ (∀ i, i < j → inW (winAt ws i) k = false) ∧ inW (winAt ws j) k = true := by
  have key : ∀ n, n ≤ ws.length → (∀ i, i < n → inW (winAt ws i) k = false) ∨ ∃ j, j < ws.length ∧ (∀ i, i < j → inW (winAt ws i) k = false) ∧ inW (winAt ws j) k = true := by
    intro n
    induction n with
    | zero => exact fun _ => .inl fun i hi => absurd hi (Nat.not_lt_zero _)
    | succ n ih =>
      intro hn
      rcases ih (by omega) with h | h
      · cases hb : inW (winAt ws n) k with
        | true => exact .inr ⟨n, by omega, h, hb⟩
        | false =>
          refine .inl fun i hi => ?_
          rcases (by omega : i < n ∨ i = n) with h' | rfl
          · exact h i h'
          · exact hb
      · exact .inr h
  exact key _ (Nat.le_refl _)
/-- Whose tick it is, as a sum over the windows. -/
theorem Fine.own {C : ConfV} (h : Fine C) (t : Nat) (p : Nat) : (if ownerN C.wins t = p then (1 : Int) else 0) = sumTo (fun i => ind (winAt C.wins i) p t) C.wins.length := by
  rcases first_in (ws := C.wins) (k := (t : Int)) with hn | ⟨j, hj, hb, hin⟩
  · rw [ownerN_none hn, if_neg (by omega), sumTo_zero]
    intro i hi
    unfold ind
    rw [hn i hi, if_neg (by simp)]
  · rw [ownerN_some hj hb hin, sumTo_one hj]
    · unfold ind
      rw [hin]
      simp
    · intro i hi hne
      unfold ind
      rw [if_neg]
      rintro ⟨h1, -⟩
      rcases (by omega : i < j ∨ j < i) with h' | h'
      · rw [hb i h'] at h1; cases h1
      · have := h.sorted h' hi
        simp only [inW, Bool.and_eq_true, decide_eq_true_eq] at h1 hin
        omega
/-- How many of the first ticks are a part's. -/
def cnt (C : ConfV) (p : Nat) (n : Nat) : Int := sumTo (fun t => if ownerN C.wins t = p then (1 : Int) else 0) n
theorem tickTo_sum (ws : List WinV) (p : Int) (n : Nat) : tickTo ws p n = sumTo (fun i => tickOne (winAt ws i) p) n := by
  induction n with
  | zero => rfl
  | succ n ih => simp only [sumTo, tickTo]; rw [ih]
theorem Fine.share {C : ConfV} (h : Fine C) (p F : Nat) (hF : (F : Int) = C.frame) : cnt C p F = ticksN C.wins p := by
  unfold cnt ticksN
  rw [tickTo_sum, sumTo_congr fun t _ => h.own t p, sumTo_swap]
  exact sumTo_congr fun i hi => ind_whole _ _ (h.fr0 i hi) (h.win i hi).2.1 F (by have := (h.win i hi).2.2.1; omega)
theorem Fine.range {C : ConfV} (h : Fine C) (t : Int) : -1 ≤ ownerN C.wins t ∧ ownerN C.wins t < C.parts.length := by
  have p0 := h.p0
  rcases first_in (ws := C.wins) (k := t) with hn | ⟨j, hj, hb, hin⟩
  · rw [ownerN_none hn]; omega
  · rw [ownerN_some hj hb hin]; have := h.win j hj; omega
theorem cnt_bd (C : ConfV) (p n : Nat) : 0 ≤ cnt C p n ∧ cnt C p n ≤ n := by
  unfold cnt
  induction n with
  | zero => exact ⟨Int.le_refl _, Int.le_refl _⟩
  | succ n ih => simp only [sumTo]; split <;> omega
theorem cnt_succ (C : ConfV) (p n : Nat) : cnt C p (n + 1) = cnt C p n + if ownerN C.wins n = p then 1 else 0 := rfl
theorem at_in {C : ConfV} (hc : checkN C = 0) (i : Nat) (hi : (i : Int) < C.frame) (T : Int) (t0 : 0 ≤ T) (t1 : T ≤ 1048575) : atV C (i + C.frame * T) = ownerN C.wins i ∧ atE C (i + C.frame * T) = 0 ∧ 0 ≤ C.frame * T ∧ C.frame * T ≤ 268435200 := by
  have F := fine_of hc
  have f0 := F.f0
  have f1 := F.f1
  have b0 : 0 ≤ C.frame * T := Int.mul_nonneg (by omega) t0
  have b1 : C.frame * T ≤ 256 * 1048575 := Int.le_trans (Int.mul_le_mul_of_nonneg_right f1 t0) (Int.mul_le_mul_of_nonneg_left t1 (by decide))
  have ok : atOK C (i + C.frame * T) = true := by
    unfold atOK; rw [hc]; simp; omega
  have e : (i + C.frame * T) % C.frame = i := by
    rw [Int.add_mul_emod_self_left]; exact Int.emod_eq_of_lt (by omega) hi
  unfold atV atE
  rw [if_pos ok, if_pos ok, e]
  exact ⟨rfl, rfl, b0, by omega⟩
theorem at_in0 {C : ConfV} (hc : checkN C = 0) (i : Nat) (hi : (i : Int) < C.frame) : atV C i = ownerN C.wins i ∧ atE C i = 0 := by
  have := at_in hc i hi 0 (by omega) (by omega)
  rw [Int.mul_zero, Int.add_zero] at this
  exact ⟨this.1, this.2.1⟩
theorem sh_in {C : ConfV} (hc : checkN C = 0) (p F : Nat) (hp : p < C.parts.length) (hF : (F : Int) = C.frame) : shV C p = cnt C p F ∧ shE C p = 0 := by
  have ok : shOK C p = true := by unfold shOK; rw [hc]; simp; omega
  unfold shV shE
  rw [if_pos ok, if_pos ok, (fine_of hc).share p F hF]
  exact ⟨rfl, rfl⟩
#print axioms sh_in
end Go.Proofs.YtgaegggiehhcpabDoor
