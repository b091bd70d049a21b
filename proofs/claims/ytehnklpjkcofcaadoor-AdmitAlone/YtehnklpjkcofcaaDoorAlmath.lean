/- A part that has all ticks: what it has, what is asked for, its responses: on lists alone. -/
import Derived.Test.YtehnklpjkcofcaaDoorAmath
namespace Go.Proofs.YtehnklpjkcofcaaDoor
open Go.RowKit R6

def aloneC (F x y p : Int) : ConfV := ⟨F, 1, [⟨1, [⟨0, p, p, 1, y, 7⟩, ⟨0, p, p, 1, x, 3⟩], []⟩], [⟨0, F, 0⟩], []⟩
section
variable {F x y p : Int}
theorem alone_check (f0 : 1 ≤ F) (f1 : F ≤ 64) (x0 : 1 ≤ x) (x1 : x ≤ 16) (y0 : 1 ≤ y) (y1 : y ≤ 16) (p0 : 32 ≤ p) (p1 : p ≤ 543) : checkN (aloneC F x y p) = 0 := by
  have e1 : frameB F 1 = true := by simp [frameB]; omega
  have e2 : partsB (aloneC F x y p).parts = true := rfl
  have e3 : allB 1 (fun i => tasksB (partAt (aloneC F x y p).parts i)) = true := by
    refine allB_true fun i hi => ?_
    obtain rfl : i = 0 := by omega
    show tasksB ⟨1, [⟨0, p, p, 1, y, 7⟩, ⟨0, p, p, 1, x, 3⟩], []⟩ = true
    unfold tasksB
    rw [Bool.and_eq_true]
    refine ⟨rfl, allB_true fun j hj => ?_⟩
    rcases (by simp only [List.length_cons, List.length_nil] at hj; omega : j = 0 ∨ j = 1) with rfl | rfl
    · simp [taskOK, taskMay, taskAt, anyPrio, allB]; omega
    · simp [taskOK, taskMay, taskAt, anyPrio, allB]; omega
  have e4 : winsB F 1 [⟨0, F, 0⟩] = true := by
    simp [winsB, allB, winB, isPartB, endAt, winAt, List.range_succ]
    omega
  have e5 : portsB ((aloneC F x y p).parts.map PartV.level) (aloneC F x y p).ports = true := by kernel_rfl
  have e6 : allB 1 (fun i => codeMay (partAt (aloneC F x y p).parts i).code) = true := by kernel_rfl
  unfold checkN
  rw [if_neg (by rw [show frameB (aloneC F x y p).frame (aloneC F x y p).quiet = frameB F 1 from rfl, e1]; simp), if_neg (by rw [e2]; simp), if_neg (by rw [show (aloneC F x y p).parts.length = 1 from rfl, e3]; simp), if_neg (by rw [show winsB (aloneC F x y p).frame (aloneC F x y p).parts.length (aloneC F x y p).wins = winsB F 1 [⟨0, F, 0⟩] from rfl, e4]; simp), if_neg (by rw [e5]; simp), if_neg (by rw [show (aloneC F x y p).parts.length = 1 from rfl, e6]; simp)]
theorem alone_least (f0 : 1 ≤ F) (hc : checkN (aloneC F x y p) = 0) {k : Nat} (hk : k ≤ 4096) : leV (aloneC F x y p) 0 k = k := by
  have h := (least_in hc (p := 0) (show 0 < 1 by omega) hk).1
  rw [show ((0 : Nat) : Int) = 0 from rfl] at h
  rw [h]
  have ho : ∀ t, own1 (aloneC F x y p) 0 (aloneC F x y p).frame.toNat t = 1 := by
    intro t
    unfold own1
    show (if ownerN [⟨0, F, 0⟩] ((t % F.toNat : Nat) : Int) = ((0 : Nat) : Int) then (1 : Int) else 0) = 1
    have hm : t % F.toNat < F.toNat := Nat.mod_lt _ (by omega)
    have hin : inW ⟨0, F, 0⟩ ((t % F.toNat : Nat) : Int) = true := by
      unfold inW
      simp only [Bool.and_eq_true, decide_eq_true_eq]
      omega
    rw [show ownerN [⟨0, F, 0⟩] ((t % F.toNat : Nat) : Int) = 0 by unfold ownerN; rw [if_pos hin]]
    rfl
  have hcf : ∀ s m : Nat, cf (own1 (aloneC F x y p) 0 (aloneC F x y p).frame.toNat) s m = m := by
    intro s m
    induction m with
    | zero => rw [cf_zero]; rfl
    | succ m ih => rw [cf_succ, ih, ho]; omega
  have h1 : (k : Int) ≤ leastS (own1 (aloneC F x y p) 0 (aloneC F x y p).frame.toNat) (aloneC F x y p).frame.toNat k := le_minTo (Int.le_refl _) fun i _ => by rw [hcf]; omega
  have h2 := (leastS_bd (o := own1 (aloneC F x y p) 0 (aloneC F x y p).frame.toNat) (F := (aloneC F x y p).frame.toNat) (own1_bd _ _ _) k).2
  omega
theorem alone_jobs (p0 : 1 ≤ p) {k : Nat} (k1 : 1 ≤ k) (k2 : (k : Int) ≤ p) : jobsN p k = 1 := by
  unfold jobsN
  rw [show (k : Int) + p - 1 = ((k : Int) - 1) + 1 * p by omega, Int.add_mul_ediv_right _ _ (by omega), Int.ediv_eq_zero_of_lt (by omega) (by omega)]
  omega
theorem alone_bound (hc : checkN (aloneC F x y p) = 0) (p0 : 1 ≤ p) {k : Nat} (k1 : 1 ≤ k) (k2 : (k : Int) ≤ p) (hk : k ≤ 4096) : boundV (tasksOf (aloneC F x y p) 0) 1 k = x ∧ boundV (tasksOf (aloneC F x y p) 0) 0 k = y + x := by
  have hm := (tasks_may hc (p := 0) (show 0 < 1 by omega)).2
  have b1 := (bound_in hm (i := 1) (k := k) (show 1 < 2 by omega) hk).1
  have b0 := (bound_in hm (i := 0) (k := k) (show 0 < 2 by omega) hk).1
  have ej := alone_jobs p0 k1 k2
  constructor
  · refine b1.trans ?_
    show x + askedN [⟨0, p, p, 1, y, 7⟩, ⟨0, p, p, 1, x, 3⟩] 3 k = x
    simp [askedN, addAhead]
  · refine b0.trans ?_
    show y + askedN [⟨0, p, p, 1, y, 7⟩, ⟨0, p, p, 1, x, 3⟩] 7 k = y + x
    simp [askedN, addAhead, ej]
theorem alone_first {f : Nat → Bool} {n k : Nat} (k1 : 1 ≤ k) (k2 : k ≤ n) (h : ∀ j, 1 ≤ j → j ≤ n → f j = decide (k ≤ j)) : firstTo f n = k :=
  firstTo_yes k1 k2 (by rw [h k k1 k2]; simp) fun j j1 j2 => by rw [h j j1 (by omega)]; simp; omega
theorem alone_resp (f0 : 1 ≤ F) (f1 : F ≤ 64) (x0 : 1 ≤ x) (x1 : x ≤ 16) (y0 : 1 ≤ y) (y1 : y ≤ 16) (p0 : 32 ≤ p) (p1 : p ≤ 543) :
    reV (aloneC F x y p) 0 1 = x ∧ reE (aloneC F x y p) 0 1 = 0 ∧ reV (aloneC F x y p) 0 0 = x + y ∧ reE (aloneC F x y p) 0 0 = 0 ∧ adN (aloneC F x y p) = 0 := by
  have hc := alone_check f0 f1 x0 x1 y0 y1 p0 p1
  have n1 : reN (aloneC F x y p) 0 1 = x.toNat := by
    show firstTo (enoughB (aloneC F x y p) 0 1) p.toNat = x.toNat
    refine alone_first (by omega) (by omega) fun j j1 j2 => ?_
    unfold enoughB
    rw [show (((0 : Nat) : Int)) = 0 from rfl, show (((1 : Nat) : Int)) = 1 from rfl, (alone_bound hc (by omega) j1 (by omega) (by omega)).1, alone_least f0 hc (by omega)]
    simp only [decide_eq_decide]
    omega
  have n0 : reN (aloneC F x y p) 0 0 = (x + y).toNat := by
    show firstTo (enoughB (aloneC F x y p) 0 0) p.toNat = (x + y).toNat
    refine alone_first (by omega) (by omega) fun j j1 j2 => ?_
    unfold enoughB
    rw [show (((0 : Nat) : Int)) = 0 from rfl, (alone_bound hc (by omega) j1 (by omega) (by omega)).2, alone_least f0 hc (by omega)]
    simp only [decide_eq_decide]
    omega
  have r1 := re_in hc (P := 0) (I := 1) (show 0 < 1 by omega) rfl (show 1 < 2 by omega)
  have r0 := re_in hc (P := 0) (I := 0) (show 0 < 1 by omega) rfl (show 0 < 2 by omega)
  rw [n1, if_neg (by omega)] at r1
  rw [n0, if_neg (by omega)] at r0
  have a1 : reV (aloneC F x y p) 0 1 = x := by have := r1.1; rw [Int.toNat_of_nonneg (by omega)] at this; exact this
  have a2 : reE (aloneC F x y p) 0 1 = 0 := r1.2
  have a3 : reV (aloneC F x y p) 0 0 = x + y := by have := r0.1; rw [Int.toNat_of_nonneg (by omega)] at this; exact this
  have a4 : reE (aloneC F x y p) 0 0 = 0 := r0.2
  refine ⟨a1, a2, a3, a4, ?_⟩
  have hl : lateB (aloneC F x y p) = false := by
    unfold lateB
    rw [allB_true]
    · rfl
    · intro q hq
      obtain rfl : q = 0 := by have : q < 1 := hq; omega
      refine allB_true fun i hi => ?_
      rcases (by have : i < 2 := hi; omega : i = 0 ∨ i = 1) with rfl | rfl
      · rw [show reE (aloneC F x y p) ((0 : Nat) : Int) ((0 : Nat) : Int) = 0 from a4]; rfl
      · rw [show reE (aloneC F x y p) ((0 : Nat) : Int) ((1 : Nat) : Int) = 0 from a2]; rfl
  have hb : bareB (aloneC F x y p) = false := by
    unfold bareB
    rw [allB_true]
    · rfl
    · intro q hq
      obtain rfl : q = 0 := by have : q < 1 := hq; omega
      rfl
  unfold adN
  rw [if_pos hc, hl, hb]
  rfl
end
#print axioms alone_resp
end Go.Proofs.YtehnklpjkcofcaaDoor
