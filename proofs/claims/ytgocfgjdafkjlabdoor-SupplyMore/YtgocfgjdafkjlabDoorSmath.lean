/- The least number of a part's ticks in so many one behind the other: on lists alone. -/
import Derived.Test.YtgocfgjdafkjlabDoorCmath
namespace Go.Proofs.YtgocfgjdafkjlabDoor
open Go.RowKit

/-- The least of some numbers and of a first one. -/
def minTo (g : Nat → Int) (a : Int) : Nat → Int
  | 0 => a
  | n + 1 => min (minTo g a n) (g n)
theorem minTo_succ (g : Nat → Int) (a : Int) (n : Nat) : minTo g a (n + 1) = min (minTo g a n) (g n) := rfl
theorem minTo_le0 (g : Nat → Int) (a : Int) (n : Nat) : minTo g a n ≤ a := by
  induction n with
  | zero => exact Int.le_refl _
  | succ n ih => rw [minTo_succ]; omega
theorem minTo_le {g : Nat → Int} {a : Int} {n i : Nat} (hi : i < n) : minTo g a n ≤ g i := by
  induction n with
  | zero => omega
  | succ n ih =>
    rw [minTo_succ]
    rcases (by omega : i < n ∨ i = n) with h | rfl
    · have := ih h; omega
    · omega
theorem le_minTo {g : Nat → Int} {a x : Int} {n : Nat} (h0 : x ≤ a) (h : ∀ i, i < n → x ≤ g i) : x ≤ minTo g a n := by
  induction n with
  | zero => exact h0
  | succ n ih =>
    rw [minTo_succ]
    have := ih fun i hi => h i (by omega)
    have := h n (by omega)
    omega
theorem minTo_mem (g : Nat → Int) (a : Int) (n : Nat) : minTo g a n = a ∨ ∃ i, i < n ∧ minTo g a n = g i := by
  induction n with
  | zero => exact .inl rfl
  | succ n ih =>
    rw [minTo_succ]
    by_cases h : g n ≤ minTo g a n
    · exact .inr ⟨n, by omega, by omega⟩
    · rcases ih with e | ⟨i, hi, e⟩
      · exact .inl (by omega)
      · exact .inr ⟨i, by omega, by omega⟩
theorem minTo_congr {g h : Nat → Int} {a : Int} {n : Nat} (e : ∀ i, i < n → g i = h i) : minTo g a n = minTo h a n := by
  induction n with
  | zero => rfl
  | succ n ih => rw [minTo_succ, minTo_succ, ih fun i hi => e i (by omega), e n (by omega)]
theorem minTo_mono {g h : Nat → Int} {a : Int} {n : Nat} (e : ∀ i, i < n → g i ≤ h i) : minTo g a n ≤ minTo h a n := by
  refine le_minTo (minTo_le0 _ _ _) fun i hi => ?_
  have := minTo_le (g := g) (a := a) hi
  have := e i hi
  omega
theorem minTo_init {g : Nat → Int} {a b : Int} {n : Nat} (hn : 0 < n) (ha : g 0 ≤ a) (hb : g 0 ≤ b) : minTo g a n = minTo g b n := by
  have h1 : minTo g a n ≤ minTo g b n := le_minTo (by have := minTo_le (g := g) (a := a) hn; omega) fun i hi => minTo_le hi
  have h2 : minTo g b n ≤ minTo g a n := le_minTo (by have := minTo_le (g := g) (a := b) hn; omega) fun i hi => minTo_le hi
  omega
theorem minTo_shift (g : Nat → Int) (a c : Int) (n : Nat) : minTo (fun i => c + g i) (c + a) n = c + minTo g a n := by
  induction n with
  | zero => rfl
  | succ n ih => rw [minTo_succ, minTo_succ, ih]; omega

/-! The endless row of frames. -/
section frames
variable (o : Nat → Int)
/-- Of so many ticks behind a begin, how many are the part's. -/
def cf (s k : Nat) : Int := sumTo o (s + k) - sumTo o s
theorem cf_zero (s : Nat) : cf o s 0 = 0 := by unfold cf; rw [Nat.add_zero]; omega
theorem cf_succ (s k : Nat) : cf o s (k + 1) = cf o s k + o (s + k) := by
  unfold cf; rw [show s + (k + 1) = (s + k) + 1 by omega]; simp only [sumTo]; omega
theorem cf_add (s k m : Nat) : cf o s (k + m) = cf o s k + cf o (s + k) m := by
  unfold cf; rw [show s + (k + m) = s + k + m by omega]; omega
variable {o}
theorem cf_bd (h : ∀ t, 0 ≤ o t ∧ o t ≤ 1) (s k : Nat) : 0 ≤ cf o s k ∧ cf o s k ≤ k := by
  induction k with
  | zero => rw [cf_zero]; simp
  | succ k ih => rw [cf_succ]; have := h (s + k); omega
theorem cf_mono {o' : Nat → Int} (h : ∀ t, o t ≤ o' t) (s k : Nat) : cf o s k ≤ cf o' s k := by
  induction k with
  | zero => rw [cf_zero, cf_zero]; omega
  | succ k ih => rw [cf_succ, cf_succ]; have := h (s + k); omega
theorem sum_period {F : Nat} (h : ∀ t, o (t + F) = o t) (n : Nat) : sumTo o (n + F) = sumTo o n + sumTo o F := by
  induction n with
  | zero => rw [Nat.zero_add]; simp [sumTo]
  | succ n ih => rw [show n + 1 + F = (n + F) + 1 by omega]; simp only [sumTo]; rw [ih, h]; omega
theorem cf_period {F : Nat} (h : ∀ t, o (t + F) = o t) (s k : Nat) : cf o (s + F) k = cf o s k := by
  unfold cf; rw [show s + F + k = (s + k) + F by omega, sum_period h, sum_period h]; omega
theorem cf_frame {F : Nat} (h : ∀ t, o (t + F) = o t) (s k : Nat) : cf o s (k + F) = cf o s k + sumTo o F := by
  unfold cf; rw [show s + (k + F) = (s + k) + F by omega, sum_period h]; omega
theorem cf_frames {F : Nat} (h : ∀ t, o (t + F) = o t) (s k m : Nat) : cf o s (k + m * F) = cf o s k + m * sumTo o F := by
  induction m with
  | zero => simp
  | succ m ih =>
    rw [show k + (m + 1) * F = (k + m * F) + F by rw [Nat.add_mul]; omega, cf_frame h, ih]
    rw [show (((m + 1 : Nat)) : Int) = m + 1 by omega, Int.add_mul]
    omega
/-- The least of a stretch: over all begins of one frame. -/
def leastS (o : Nat → Int) (F k : Nat) : Int := minTo (fun s => cf o s k) k F
/-- Whole frames, and the least of what is left. -/
def leastN (o : Nat → Int) (F k : Nat) : Int := ((k / F : Nat) : Int) * sumTo o F + minTo (fun s => cf o s (k % F)) ((k % F : Nat) : Int) F
theorem leastN_eq {F : Nat} (hF : 0 < F) (hp : ∀ t, o (t + F) = o t) (hb : ∀ t, 0 ≤ o t ∧ o t ≤ 1) (k : Nat) : leastN o F k = leastS o F k := by
  unfold leastN leastS
  rw [← minTo_shift]
  have e : ∀ s, ((k / F : Nat) : Int) * sumTo o F + cf o s (k % F) = cf o s k := by
    intro s
    have := cf_frames hp s (k % F) (k / F)
    rw [Nat.mul_comm, Nat.mod_add_div] at this
    omega
  rw [minTo_congr (fun i _ => e i)]
  refine minTo_init hF ?_ (cf_bd hb 0 k).2
  have := e 0
  have := (cf_bd hb 0 (k % F)).2
  omega
theorem leastS_le {F k s : Nat} (hs : s < F) : leastS o F k ≤ cf o s k := minTo_le (g := fun s => cf o s k) hs
theorem leastS_step {F : Nat} (hb : ∀ t, 0 ≤ o t ∧ o t ≤ 1) (k : Nat) : leastS o F k ≤ leastS o F (k + 1) ∧ leastS o F (k + 1) ≤ leastS o F k + 1 := by
  constructor
  · refine le_minTo (by have := minTo_le0 (fun s => cf o s k) k F; unfold leastS; omega) fun i hi => ?_
    have h1 := leastS_le (o := o) (k := k) hi
    rw [cf_succ]
    have := hb (i + k)
    omega
  · rcases minTo_mem (fun s => cf o s k) k F with e | ⟨i, hi, e⟩
    · have := minTo_le0 (fun s => cf o s (k + 1)) ((k + 1 : Nat) : Int) F
      unfold leastS
      omega
    · have h1 := leastS_le (o := o) (k := k + 1) hi
      rw [cf_succ] at h1
      have := hb (i + k)
      have e' : leastS o F k = cf o i k := e
      omega
theorem leastS_bd {F : Nat} (hb : ∀ t, 0 ≤ o t ∧ o t ≤ 1) (k : Nat) : 0 ≤ leastS o F k ∧ leastS o F k ≤ k :=
  ⟨le_minTo (by omega) fun i _ => (cf_bd hb i k).1, minTo_le0 _ _ _⟩
/-- Of some begins. -/
theorem leastS_some {F n : Nat} (hn : n ≤ F) (hb : ∀ t, 0 ≤ o t ∧ o t ≤ 1) (k : Nat) : leastS o F k ≤ minTo (fun s => cf o s k) (k + 1) n :=
  le_minTo (by have := (leastS_bd (F := F) hb k).2; omega) fun i hi => leastS_le (by omega)
theorem leastS_all {F : Nat} (hF : 0 < F) (hb : ∀ t, 0 ≤ o t ∧ o t ≤ 1) (k : Nat) : minTo (fun s => cf o s k) (k + 1) F = leastS o F k :=
  minTo_init hF (by have := (cf_bd hb 0 k).2; omega) (cf_bd hb 0 k).2
theorem leastN_whole {F : Nat} (hF : 0 < F) (k : Nat) : leastN o F (k * F) = k * sumTo o F := by
  unfold leastN
  rw [Nat.mul_div_cancel _ hF, Nat.mul_mod_left]
  have : minTo (fun s => cf o s 0) ((0 : Nat) : Int) F = 0 := by
    have h1 := minTo_le0 (fun s => cf o s 0) ((0 : Nat) : Int) F
    have h2 : (0 : Int) ≤ minTo (fun s => cf o s 0) ((0 : Nat) : Int) F := le_minTo (by omega) fun i _ => by rw [cf_zero]; omega
    omega
  omega
theorem leastN_more {F : Nat} (hF : 0 < F) (r k : Nat) : leastN o F (r + k * F) = leastN o F r + k * sumTo o F := by
  unfold leastN
  rw [Nat.add_mul_div_right _ _ hF, Nat.add_mul_mod_self_right]
  rw [show ((r / F + k : Nat) : Int) = ((r / F : Nat) : Int) + k by omega, Int.add_mul]
  omega
end frames

/-- One, where a tick of the endless row of frames is the part's. -/
def own1 (C : ConfV) (p F t : Nat) : Int := if ownerN C.wins ((t % F : Nat) : Int) = p then 1 else 0
theorem own1_bd (C : ConfV) (p F t : Nat) : 0 ≤ own1 C p F t ∧ own1 C p F t ≤ 1 := by unfold own1; split <;> omega
theorem own1_period (C : ConfV) (p F t : Nat) : own1 C p F (t + F) = own1 C p F t := by unfold own1; rw [Nat.add_mod_right]
theorem own1_cnt (C : ConfV) (p F n : Nat) (hn : n ≤ F) : sumTo (own1 C p F) n = cnt C p n := by
  unfold cnt
  refine sumTo_congr fun i hi => ?_
  unfold own1
  rw [Nat.mod_eq_of_lt (by omega)]
theorem Fine.whole {C : ConfV} (h : Fine C) (p F : Nat) (hF : (F : Int) = C.frame) : sumTo (own1 C p F) F = ticksN C.wins p := by
  rw [own1_cnt C p F F (Nat.le_refl _), h.share p F hF]

/-! The answers. -/
def leOK (C : ConfV) (p k : Int) : Bool := decide (checkN C = 0) && (decide (0 ≤ p) && (decide (p < C.parts.length) && (decide (0 ≤ k) && decide (k ≤ 4096))))
def leV (C : ConfV) (p k : Int) : Int := if leOK C p k = true then leastN (own1 C p.toNat C.frame.toNat) C.frame.toNat k.toNat else 0
def leE (C : ConfV) (p k : Int) : Int := if leOK C p k = true then 0 else 700
theorem le_in {C : ConfV} (hc : checkN C = 0) (p F k : Nat) (hp : p < C.parts.length) (hF : (F : Int) = C.frame) (hk : k ≤ 4096) : leV C p k = leastN (own1 C p F) F k ∧ leE C p k = 0 := by
  have ok : leOK C p k = true := by unfold leOK; rw [hc]; simp; omega
  unfold leV leE
  rw [if_pos ok, if_pos ok, ← hF, Int.toNat_natCast, Int.toNat_natCast, Int.toNat_natCast]
  exact ⟨rfl, rfl⟩
#print axioms le_in
end Go.Proofs.YtgocfgjdafkjlabDoor
