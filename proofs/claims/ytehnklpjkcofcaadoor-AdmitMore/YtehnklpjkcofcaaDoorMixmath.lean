/- Low parts with other tasks: what high parts are answered stands; on lists alone. -/
import Derived.Test.YtehnklpjkcofcaaDoorAdmC
namespace Go.Proofs.YtehnklpjkcofcaaDoor
open Go.RowKit R6

theorem low_time9 {C : ConfV} {p : Nat} (h : (partAt C.parts p).level = 0) : inTime C p = true := by
  refine allB_true fun i hi => ?_
  have : reE C p i = 900 := (re_no (by
    cases h2 : reOK C p i with
    | false => rfl
    | true =>
      obtain ⟨-, P, I, e1, -, -, h3, -⟩ := re_yes h2
      obtain rfl : p = P := by omega
      omega)).2
  rw [this]
  rfl
def mixB (ps ds : List PartV) (j : Nat) : Bool := decide ((partAt ps j).level = 0) && decide ((partAt ds j).level = 0)
/-- The first j parts: each low one with the tasks of the other's low part of its number. -/
def mixTo (ps ds : List PartV) : Nat → List PartV
  | 0 => ps
  | j + 1 => if mixB ps ds j = true then (mixTo ps ds j).set j ⟨(partAt ps j).level, (partAt ds j).tasks, (partAt ps j).code⟩ else mixTo ps ds j
theorem mix_length (ps ds : List PartV) (j : Nat) : (mixTo ps ds j).length = ps.length := by
  induction j with
  | zero => rfl
  | succ j ih => unfold mixTo; split <;> simp [ih]
theorem partAt_set (ps : List PartV) (j : Nat) (p : PartV) (i : Nat) : partAt (ps.set j p) i = if i = j ∧ i < ps.length then p else partAt ps i := by
  by_cases h : i = j ∧ i < ps.length
  · obtain ⟨rfl, hl⟩ := h
    rw [if_pos ⟨rfl, hl⟩]
    unfold partAt
    rw [List.getElem?_set_self hl]
    rfl
  · rw [if_neg h]
    unfold partAt
    by_cases e : j = i
    · subst e
      have hl : ps.length ≤ j := by
        rcases Nat.lt_or_ge j ps.length with h' | h'
        · exact absurd ⟨rfl, h'⟩ h
        · exact h'
      rw [List.getElem?_eq_none (by simpa using hl), List.getElem?_eq_none hl]
    · rw [List.getElem?_set_ne e]
theorem mix_at (ps ds : List PartV) (j i : Nat) : (partAt (mixTo ps ds j) i).level = (partAt ps i).level ∧ (partAt (mixTo ps ds j) i).code = (partAt ps i).code ∧ ((partAt ps i).level ≠ 0 → partAt (mixTo ps ds j) i = partAt ps i) ∧ (j ≤ i → partAt (mixTo ps ds j) i = partAt ps i) := by
  induction j with
  | zero => exact ⟨rfl, rfl, fun _ => rfl, fun _ => rfl⟩
  | succ j ih =>
    obtain ⟨h1, h2, h3, h4⟩ := ih
    unfold mixTo
    by_cases hb : mixB ps ds j = true
    · rw [if_pos hb, partAt_set]
      by_cases h : i = j ∧ i < (mixTo ps ds j).length
      · rw [if_pos h]
        obtain ⟨rfl, -⟩ := h
        refine ⟨rfl, rfl, fun hl => ?_, fun hl => by omega⟩
        unfold mixB at hb
        simp only [Bool.and_eq_true, decide_eq_true_eq] at hb
        exact absurd hb.1 hl
      · rw [if_neg h]
        exact ⟨h1, h2, h3, fun hl => h4 (by omega)⟩
    · rw [if_neg hb]
      exact ⟨h1, h2, h3, fun hl => h4 (by omega)⟩
def mixC (C D : ConfV) (j : Nat) : ConfV := ⟨C.frame, C.quiet, mixTo C.parts D.parts j, C.wins, C.ports⟩
theorem mix_le {C D : ConfV} {j : Nat} (h1 : checkN C = 0) (h2 : checkN (mixC C D j) = 0) (p k : Int) : leV (mixC C D j) p k = leV C p k := by
  have e : leOK (mixC C D j) p k = leOK C p k := by
    unfold leOK
    rw [h1, h2, show (mixC C D j).parts.length = C.parts.length from mix_length _ _ _]
  unfold leV
  rw [e]
  rfl
theorem mix_sh {C D : ConfV} {j : Nat} (h1 : checkN C = 0) (h2 : checkN (mixC C D j) = 0) (p : Int) : shV (mixC C D j) p = shV C p := by
  have e : shOK (mixC C D j) p = shOK C p := by
    unfold shOK
    rw [h1, h2, show (mixC C D j).parts.length = C.parts.length from mix_length _ _ _]
  unfold shV
  rw [e]
  rfl
theorem mix_tasks {C D : ConfV} {j p : Nat} (h : (partAt C.parts p).level ≠ 0) : tasksOf (mixC C D j) p = tasksOf C p := by
  unfold tasksOf mixC
  dsimp only
  rw [(mix_at C.parts D.parts j p).2.2.1 h]
theorem mix_level {C D : ConfV} {j p : Nat} : (partAt (mixC C D j).parts p).level = (partAt C.parts p).level := (mix_at C.parts D.parts j p).1
theorem mix_re {C D : ConfV} {j : Nat} (h1 : checkN C = 0) (h2 : checkN (mixC C D j) = 0) {p : Nat} (hl : (partAt C.parts p).level ≠ 0) (i : Int) : reV (mixC C D j) p i = reV C p i ∧ reE (mixC C D j) p i = reE C p i := by
  have e : reOK (mixC C D j) p i = reOK C p i := by
    unfold reOK
    rw [h1, h2, show (mixC C D j).parts.length = C.parts.length from mix_length _ _ _, Int.toNat_natCast, mix_level, mix_tasks hl]
  have en : reN (mixC C D j) p i.toNat = reN C p i.toNat := by
    unfold reN
    rw [mix_tasks hl]
    refine firstTo_congr fun k _ _ => ?_
    unfold enoughB
    rw [mix_tasks hl, mix_le h1 h2]
  unfold reV reE
  rw [e, Int.toNat_natCast, en]
  exact ⟨rfl, rfl⟩
theorem mix_ad {C D : ConfV} {j : Nat} (h1 : checkN C = 0) (h2 : checkN (mixC C D j) = 0) : adN (mixC C D j) = adN C := by
  have el : lateB (mixC C D j) = lateB C := by
    rw [lateB_eq, lateB_eq, show (mixC C D j).parts.length = C.parts.length from mix_length _ _ _]
    rw [allB_congr (n := C.parts.length) (f := inTime (mixC C D j)) (g := inTime C)]
    intro p hp
    by_cases hl : (partAt C.parts p).level = 0
    · rw [low_time9 hl, low_time9 (by rw [mix_level]; exact hl)]
    · unfold inTime
      rw [mix_tasks hl]
      exact allB_congr fun i _ => by rw [(mix_re h1 h2 hl i).2]
  have eb : bareB (mixC C D j) = bareB C := by
    rw [bareB_eq, bareB_eq, show (mixC C D j).parts.length = C.parts.length from mix_length _ _ _]
    rw [allB_congr (n := C.parts.length) (f := fedB (mixC C D j)) (g := fedB C)]
    intro p hp
    unfold fedB
    rw [mix_level, mix_sh h1 h2]
  unfold adN
  rw [h1, h2, el, eb]
theorem re_form {C : ConfV} {p i : Int} (h : reE C p i ≠ 900) : reOK C p i = true := by
  cases hok : reOK C p i with
  | true => rfl
  | false => exact absurd (re_no hok).2 h
/-- What AdmitHigh says, of the answers. -/
theorem mix_all {C D : ConfV} {j : Nat} {i : Int} (h1 : reE C 0 i ≠ 900) (h2 : reE (mixC C D j) 0 i ≠ 900) : reV (mixC C D j) 0 i = reV C 0 i ∧ reE (mixC C D j) 0 i = reE C 0 i ∧ adN (mixC C D j) = adN C := by
  obtain ⟨c1, P, I, e, rfl, -, hl, -⟩ := re_yes (re_form h1)
  obtain ⟨c2, -⟩ := re_yes (re_form h2)
  obtain rfl : P = 0 := by omega
  have h := mix_re (D := D) (j := j) c1 c2 (p := 0) (by omega) I
  exact ⟨h.1, h.2, mix_ad c1 c2⟩
#print axioms mix_all
end Go.Proofs.YtehnklpjkcofcaaDoor
