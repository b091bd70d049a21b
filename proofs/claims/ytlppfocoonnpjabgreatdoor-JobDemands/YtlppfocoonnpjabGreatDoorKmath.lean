/- JobKills' and JobDemands' schedules of one task, on lists alone: nothing of the program's functions. -/
import Derived.Test.YtlppfocoonnpjabGreatDoorQh
namespace Go.Proofs.YtlppfocoonnpjabGreatDoor.L
open Go.RowKit
open Go.Proofs.YtlppfocoonnpjabGreatDoor.J (JobV jz jobAt jobMay rowMay putV putE putL okB hasB leftV lateV chMay chJ chO chD chK chE oneMore)
open Go.Proofs.YtlppfocoonnpjabGreatDoor.U (TurnsV turnsMay atMay isB relS relD pickS pickE lateB)

/-- No job: what a call answers then. -/
theorem one_none {i l : Int} {t : TaskV} {s : TurnsV} {q : Int} : runO (one i l t s q []) = false ∧ runD (one i l t s q []) = false ∧ runK (one i l t s q []) = false ∧ runN (one i l t s q []) = 1401 ∧ runL (one i l t s q []) = one i l t s q [] ∧ runV (one i l t s q []) = [] ∧ failL (one i l t s q []) = one i l t s q [] ∧ failV (one i l t s q []) = [] := by
  have hj : (one i l t s q []).jobs = [] := rfl
  have a1 : runO (one i l t s q []) = false := by unfold runO; rw [if_pos hj]
  have a2 : runD (one i l t s q []) = false := by unfold runD; rw [if_pos hj]
  have a3 : runK (one i l t s q []) = false := by unfold runK; rw [if_pos hj]
  refine ⟨a1, a2, a3, by unfold runN; rw [if_pos hj], by unfold runL; rw [if_pos hj], by unfold runV; rw [a1, a2, a3]; rfl, by unfold failL; rw [if_pos hj], by unfold failV; rw [if_pos hj]⟩

/-! JobKills. -/
def tK (a b : Int) : TaskV := ⟨1, 40, 40, a, b, 0⟩
def kilN (a b lv : Int) : LocV := one 2 lv (tK a b) ⟨-1, []⟩ 0 []
def kilP (a b lv d : Int) : LocV := one 2 lv (tK a b) ⟨-1, [d]⟩ 0 []
def kilA (a b lv d u : Int) : LocV := one 2 lv (tK a b) ⟨7, []⟩ 1 [⟨0, 0, 0, 7, 47, d, u⟩]
def kilE (a b lv : Int) : LocV := one 2 lv (tK a b) ⟨7, []⟩ 1 []
theorem tK_may {a b : Int} (h1 : 1 ≤ a) (h2 : a ≤ b) (h3 : b ≤ 15) : taskMay (tK a b) = true := by
  unfold taskMay tK
  simp only [Bool.and_eq_true, decide_eq_true_eq, or_true, true_and]
  omega
theorem dem_of {d : Int} (h1 : 1 ≤ d) (h2 : d ≤ 65535) : U.demMay d = true := by
  unfold U.demMay
  simp only [Bool.and_eq_true, decide_eq_true_eq]
  omega
theorem turns_one {d : Int} (h1 : 1 ≤ d) (h2 : d ≤ 65535) : turnsMay ⟨-1, [d]⟩ = true := by
  unfold turnsMay
  simp only [Bool.and_eq_true, decide_eq_true_eq, List.all_cons, List.all_nil]
  exact ⟨by decide, by decide, by simp, dem_of h1 h2, trivial⟩
theorem pick_ok {t : TaskV} {s : TurnsV} {d : Int} (h1 : taskMay t = true) (h2 : turnsMay s = true) (h3 : U.demMay d = true) (h4 : s.picks.length ≠ 4) : pickE t s d = 0 ∧ pickS t s d = ⟨s.last, s.picks ++ [d]⟩ := by
  unfold pickE pickS
  rw [h1, h2, h3, if_neg h4, if_neg h4]
  exact ⟨rfl, rfl⟩
theorem kilPick {a b lv d : Int} (h1 : 1 ≤ a) (h2 : a ≤ b) (h3 : b ≤ 15) (h4 : 1 ≤ d) (h5 : d ≤ 32) : pickN (kilN a b lv) 0 d 7 = 0 ∧ pickL (kilN a b lv) 0 d 7 = kilP a b lv d ∧ pickV (kilN a b lv) 0 d 7 = [] := by
  have hp := pick_ok (tK_may h1 h2 h3) (turns_no (x := -1) (by decide) (by decide)) (dem_of h4 (by omega)) (by decide)
  have hn : pickN (kilN a b lv) 0 d 7 = 0 := hp.1
  refine ⟨hn, ?_, ?_⟩
  · unfold pickL
    rw [if_pos hn]
    show ({ kilN a b lv with turns := [pickS (tK a b) ⟨-1, []⟩ d] } : LocV) = _
    rw [hp.2]
    rfl
  · unfold pickV
    rw [if_pos hn]
    show (if lateB (tK a b) (pickS (tK a b) ⟨-1, []⟩ d) 7 = true then _ else _) = _
    rw [hp.2]
    have : lateB (tK a b) ⟨-1, [] ++ [d]⟩ 7 = false := by
      unfold lateB U.waitsB
      simp
    rw [if_neg (by rw [this]; decide)]
theorem kilBeg {a b lv d : Int} (h1 : 1 ≤ a) (h2 : a ≤ b) (h3 : b ≤ 15) (h4 : 1 ≤ d) (h5 : d ≤ 32) : beginL (kilP a b lv d) 7 = kilA a b lv d 0 ∧ beginV (kilP a b lv d) 7 = [⟨1, 2, 0, d⟩] := by
  have ht : tickB 7 = true := by decide
  have hi : isB (tK a b) ⟨-1, [d]⟩ 7 = true := by
    unfold isB
    rw [at_of (tK_may h1 h2 h3) (turns_one h4 (by omega)) ht]
    rfl
  have hr := rel_of hi
  have hs := step_yes (i := 2) (l := lv) (q := 0) (D := d) hi hr.2 hr.1 (by
    unfold jobMay tK
    simp only [Bool.and_eq_true, decide_eq_true_eq]
    omega)
  unfold kilP kilA
  rw [one_begin ht, one_beginV ht, left_nil, late_nil, hs.1, hs.2]
  exact ⟨rfl, rfl⟩
theorem job_kil {d u : Int} (h1 : 1 ≤ d) (h2 : d ≤ 32) (h4 : 0 ≤ u) (h5 : u < d) : jobMay ⟨0, 0, 0, 7, 47, d, u⟩ = true := by
  unfold jobMay
  simp only [Bool.and_eq_true, decide_eq_true_eq]
  omega
theorem kilCh {a b lv d u : Int} (h1 : 1 ≤ a) (h2 : a ≤ b) (h3 : b ≤ 15) (h4 : 1 ≤ d) (h5 : d ≤ 32) (h6 : 0 ≤ u) (h7 : u < d) (hl : lv = 0 ∨ lv = 1) : chMay ⟨0, 0, 0, 7, 47, d, u⟩ (tK a b) lv = true := by
  unfold chMay; rw [job_kil h4 h5 h6 h7, tK_may h1 h2 h3, lev_may hl]; rfl
/-- What a tick does. -/
theorem kilRun {a b lv d u : Int} (h1 : 1 ≤ a) (h2 : a ≤ b) (h3 : b ≤ 15) (h4 : 1 ≤ d) (h5 : d ≤ 32) (h6 : 0 ≤ u) (h7 : u < d) (hl : lv = 0 ∨ lv = 1) (hb : lv = 0 → b = a) :
    runN (kilA a b lv d u) = 0 ∧ runO (kilA a b lv d u) = (decide (lv = 1) && (decide (u + 1 = a) && decide (u + 1 < d))) ∧ runD (kilA a b lv d u) = decide (u + 1 = d) ∧ runK (kilA a b lv d u) = (decide (u + 1 = b) && decide (u + 1 < d)) := by
  have hm := kilCh h1 h2 h3 h4 h5 h6 h7 hl
  refine ⟨rfl, ?_, ?_, ?_⟩
  · unfold kilA
    rw [one_runO rfl]
    unfold chO
    rw [hm]
    rfl
  · unfold kilA
    rw [one_runD rfl]
    unfold chD
    rw [hm]
    rfl
  · unfold kilA
    rw [one_runK rfl]
    unfold chK
    rw [hm]
    have e : J.endOf (tK a b) lv = b := by
      unfold J.endOf tK
      rcases hl with h | h
      · rw [if_neg (by omega)]; exact (hb h).symm
      · rw [if_pos h]
    rw [e]
    rfl
theorem kilOn {a b lv d u : Int} (hl : lv = 0 ∨ lv = 1) (hb : lv = 0 → b = a) (hd : ¬u + 1 = d) (hk : ¬u + 1 = b) : runL (kilA a b lv d u) = kilA a b lv d (u + 1) := by
  unfold kilA
  rw [one_run rfl hd (by
    unfold J.endOf tK
    rcases hl with h | h
    · rw [if_neg (by omega)]; have := hb h; show ¬u + 1 = a; omega
    · rw [if_pos h]; exact hk)]
  rfl
theorem kilEnd {a b lv d u : Int} (h1 : 1 ≤ a) (h2 : a ≤ b) (h3 : b ≤ 15) (h4 : 1 ≤ d) (h5 : d ≤ 32) (h6 : 0 ≤ u) (h7 : u < d) (hl : lv = 0 ∨ lv = 1) (hb : lv = 0 → b = a) (hd : u + 1 = d ∨ u + 1 = b) : runL (kilA a b lv d u) = kilE a b lv := by
  have hr := kilRun h1 h2 h3 h4 h5 h6 h7 hl hb
  unfold kilA at hr ⊢
  refine one_gone ?_
  rw [hr.2.2.1, hr.2.2.2]
  by_cases h : u + 1 = d
  · rw [decide_eq_true h]; rfl
  · have h8 : u + 1 = b := by omega
    rw [decide_eq_true h8, decide_eq_true (show u + 1 < d by omega), Bool.and_true, Bool.or_true]
theorem kilV {a b lv d u : Int} (h1 : 1 ≤ a) (h2 : a ≤ b) (h3 : b ≤ 15) (h4 : 1 ≤ d) (h5 : d ≤ 32) (h6 : 0 ≤ u) (h7 : u < d) (hl : lv = 0 ∨ lv = 1) (hb : lv = 0 → b = a) : runV (kilA a b lv d u) = (if lv = 1 ∧ u + 1 = a ∧ u + 1 < d then [⟨4, 2, 0, u + 1⟩] else []) ++ (if u + 1 = d then [⟨5, 2, 0, u + 1⟩] else if u + 1 = b then [⟨6, 2, 0, u + 1⟩] else []) := by
  have hr := kilRun h1 h2 h3 h4 h5 h6 h7 hl hb
  unfold runV
  rw [hr.2.1, hr.2.2.1, hr.2.2.2]
  have e1 : headJ (kilA a b lv d u) = ⟨0, 0, 0, 7, 47, d, u⟩ := rfl
  rw [e1]
  congr 1
  · simp only [Bool.and_eq_true, decide_eq_true_eq]
    rfl
  · by_cases hd : u + 1 = d
    · rw [if_pos hd, decide_eq_true hd, if_pos rfl, decide_eq_false (show ¬u + 1 < d by omega), Bool.and_false, if_neg (by decide)]
      rfl
    · rw [if_neg hd, decide_eq_false hd, if_neg (by decide), decide_eq_true (show u + 1 < d by omega), Bool.and_true, List.nil_append]
      simp only [decide_eq_true_eq]
      rfl

/-! JobDemands. -/
def tD (p : Int) : TaskV := ⟨0, p, 5, 2, 5, 0⟩
def demP (p : Int) (ds : List Int) : LocV := one 0 1 (tD p) ⟨-1, ds⟩ 0 []
/-- Behind the k-th one. -/
def demA (p : Int) (ds : List Int) (k x : Int) : LocV := one 0 1 (tD p) ⟨k * p, ds⟩ k [⟨0, k - 1, 0, k * p, k * p + 5, x, 0⟩]
theorem tD_may {p : Int} (h1 : 5 ≤ p) (h2 : p ≤ 12) : taskMay (tD p) = true := by
  unfold taskMay tD
  simp only [Bool.and_eq_true, decide_eq_true_eq, true_or, true_and]
  omega
theorem turns_of {x : Int} {ds : List Int} (h : -1 ≤ x) (h2 : x ≤ 1099511627776) (h3 : ds.length ≤ 4) (h4 : ∀ d, d ∈ ds → 1 ≤ d ∧ d ≤ 256) : turnsMay ⟨x, ds⟩ = true := by
  unfold turnsMay
  simp only [Bool.and_eq_true, decide_eq_true_eq]
  exact ⟨h, h2, h3, List.all_eq_true.2 fun d hd => dem_of (h4 d hd).1 (by have := (h4 d hd).2; omega)⟩
theorem demPick {p : Int} {ds : List Int} {d : Int} (h1 : 5 ≤ p) (h2 : p ≤ 12) (h3 : ds.length ≤ 4) (h4 : ∀ d, d ∈ ds → 1 ≤ d ∧ d ≤ 256) (h5 : 1 ≤ d) (h6 : d ≤ 256) : pickN (demP p ds) 0 d 1 = (if ds.length = 4 then 1101 else 0) ∧ pickL (demP p ds) 0 d 1 = (if ds.length = 4 then demP p ds else demP p (ds ++ [d])) ∧ pickV (demP p ds) 0 d 1 = [] := by
  have ht := tD_may h1 h2
  have hs := turns_of (x := -1) (by decide) (by decide) h3 h4
  have hd : U.demMay d = true := dem_of h5 (by omega)
  by_cases h : ds.length = 4
  · have hn : pickN (demP p ds) 0 d 1 = 1101 := by
      show pickE (tD p) ⟨-1, ds⟩ d = 1101
      unfold pickE
      rw [ht, hs, hd, if_pos h]
      rfl
    have h0 : ¬pickN (demP p ds) 0 d 1 = 0 := by omega
    refine ⟨by rw [if_pos h]; exact hn, ?_, ?_⟩
    · unfold pickL; rw [if_neg h0, if_pos h]
    · unfold pickV; rw [if_neg h0]
  · have hp := pick_ok ht hs hd h
    have hn : pickN (demP p ds) 0 d 1 = 0 := hp.1
    refine ⟨by rw [if_neg h]; exact hn, ?_, ?_⟩
    · unfold pickL
      rw [if_pos hn, if_neg h]
      show ({ demP p ds with turns := [pickS (tD p) ⟨-1, ds⟩ d] } : LocV) = _
      rw [hp.2]
      rfl
    · unfold pickV
      rw [if_pos hn]
      show (if lateB (tD p) (pickS (tD p) ⟨-1, ds⟩ d) 1 = true then _ else _) = _
      rw [hp.2]
      have : lateB (tD p) ⟨-1, ds ++ [d]⟩ 1 = false := by unfold lateB; simp [tD]
      rw [if_neg (by rw [this]; decide)]
theorem dem_is {p k x : Int} {ds : List Int} (h1 : 5 ≤ p) (h2 : p ≤ 12) (h3 : ds.length ≤ 4) (h4 : ∀ d, d ∈ ds → 1 ≤ d ∧ d ≤ 256) (hk : 1 ≤ k) (hk6 : k ≤ 6) (hx : -1 ≤ x) (hx2 : x ≤ 100) : tickB (k * p) = true ∧ isB (tD p) ⟨x, ds⟩ (k * p) = true ∧ 0 ≤ k * p ∧ k * p ≤ 72 := by
  have h5 : 0 ≤ k * p ∧ k * p ≤ 72 := by
    have : k = 1 ∨ k = 2 ∨ k = 3 ∨ k = 4 ∨ k = 5 ∨ k = 6 := by omega
    rcases this with rfl | rfl | rfl | rfl | rfl | rfl <;> omega
  have ht : tickB (k * p) = true := tick_of h5.1 (by omega)
  refine ⟨ht, ?_, h5⟩
  rw [is_reg (at_of (tD_may h1 h2) (turns_of hx (by omega) h3 h4) ht) rfl]
  exact decide_eq_true (Int.mul_emod_left k p)
theorem dem_x {ds : List Int} (h4 : ∀ d, d ∈ ds → 1 ≤ d ∧ d ≤ 256) : (1 : Int) ≤ ds[0]?.getD 2 ∧ ds[0]?.getD 2 ≤ (256 : Int) := by
  cases ds with
  | nil => exact ⟨by decide, by decide⟩
  | cons y ys => exact h4 y (by simp)
theorem dem1 {p : Int} {ds : List Int} (h1 : 5 ≤ p) (h2 : p ≤ 12) (h3 : ds.length ≤ 4) (h4 : ∀ d, d ∈ ds → 1 ≤ d ∧ d ≤ 256) : beginL (demP p ds) (1 * p) = demA p (ds.drop 1) 1 (ds[0]?.getD 2) ∧ beginV (demP p ds) (1 * p) = [⟨1, 0, 0, ds[0]?.getD 2⟩] := by
  obtain ⟨ht, hi, hp0, hp1⟩ := dem_is (k := 1) (x := -1) h1 h2 h3 h4 (by decide) (by decide) (by decide) (by decide)
  have hr := rel_of hi
  have hx := dem_x h4
  have hs := step_yes (i := 0) (l := 1) (q := 0) hi hr.2 hr.1 (by
    unfold jobMay tD
    simp only [Bool.and_eq_true, decide_eq_true_eq]
    omega)
  unfold demP demA
  rw [one_begin ht, one_beginV ht, left_nil, late_nil, hs.1, hs.2]
  exact ⟨rfl, rfl⟩
theorem demK {p k x : Int} {ds : List Int} (h1 : 5 ≤ p) (h2 : p ≤ 12) (h3 : ds.length ≤ 4) (h4 : ∀ d, d ∈ ds → 1 ≤ d ∧ d ≤ 256) (hk : 1 ≤ k) (hk6 : k + 1 ≤ 6) (hx1 : 1 ≤ x) (hx2 : x ≤ 256) : beginL (demA p ds k x) ((k + 1) * p) = demA p (ds.drop 1) (k + 1) (ds[0]?.getD 2) ∧ beginV (demA p ds k x) ((k + 1) * p) = [⟨3, 0, 0, 0⟩, ⟨1, 0, 0, ds[0]?.getD 2⟩] := by
  obtain ⟨-, -, hq0, hq1⟩ := dem_is (x := -1) h1 h2 h3 h4 hk (by omega) (by decide) (by decide)
  obtain ⟨ht, hi, hp0, hp1⟩ := dem_is (k := k + 1) (x := k * p) h1 h2 h3 h4 (by omega) hk6 (by omega) (by omega)
  have hr := rel_of hi
  have hx := dem_x h4
  have hs := step_yes (i := 0) (l := 1) (q := k) hi hr.2 hr.1 (by
    unfold jobMay tD
    simp only [Bool.and_eq_true, decide_eq_true_eq]
    omega)
  have hj : jobMay ⟨0, k - 1, 0, k * p, k * p + 5, x, 0⟩ = true := by
    unfold jobMay
    simp only [Bool.and_eq_true, decide_eq_true_eq]
    omega
  have hle : k * p + 5 ≤ (k + 1) * p := by rw [Int.add_mul]; omega
  unfold demA
  rw [one_begin ht, one_beginV ht, left_one hj, late_one hj, if_pos hle, if_pos hle, hs.1, hs.2]
  refine ⟨?_, rfl⟩
  simp only [Int.add_sub_cancel]
  rfl
#print axioms demK
end Go.Proofs.YtlppfocoonnpjabGreatDoor.L
