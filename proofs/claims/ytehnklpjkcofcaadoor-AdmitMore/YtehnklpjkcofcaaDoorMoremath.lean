/- A longer window, a greater budget: what they do to a response; on lists alone. -/
import Derived.Test.YtehnklpjkcofcaaDoorMixmath
namespace Go.Proofs.YtehnklpjkcofcaaDoor
open Go.RowKit R6

theorem check_iff (C : ConfV) : checkN C = 0 ↔ frameB C.frame C.quiet = true ∧ partsB C.parts = true ∧ allB C.parts.length (fun i => tasksB (partAt C.parts i)) = true ∧ winsB C.frame C.parts.length C.wins = true ∧ portsB (C.parts.map PartV.level) C.ports = true ∧ allB C.parts.length (fun i => codeMay (partAt C.parts i).code) = true := by
  unfold checkN
  cases frameB C.frame C.quiet <;> cases partsB C.parts <;> cases allB C.parts.length (fun i => tasksB (partAt C.parts i)) <;> cases winsB C.frame C.parts.length C.wins <;> cases portsB (C.parts.map PartV.level) C.ports <;> cases allB C.parts.length (fun i => codeMay (partAt C.parts i).code) <;> simp

/-! A longer window. -/
theorem winAt_set (ws : List WinV) (j : Nat) (x : WinV) (i : Nat) : winAt (ws.set j x) i = if i = j ∧ i < ws.length then x else winAt ws i := by
  by_cases h : i = j ∧ i < ws.length
  · obtain ⟨rfl, hl⟩ := h
    rw [if_pos ⟨rfl, hl⟩]
    unfold winAt
    rw [List.getElem?_set_self hl]
    rfl
  · rw [if_neg h]
    unfold winAt
    by_cases e : j = i
    · subst e
      have hl : ws.length ≤ j := by
        rcases Nat.lt_or_ge j ws.length with h' | h'
        · exact absurd ⟨rfl, h'⟩ h
        · exact h'
      rw [List.getElem?_eq_none (by simpa using hl), List.getElem?_eq_none hl]
    · rw [List.getElem?_set_ne e]
def lastW (C : ConfV) : WinV := ⟨(winAt C.wins (C.wins.length - 1)).fr, C.frame, 0⟩
def longC (C : ConfV) : ConfV := ⟨C.frame, C.quiet, C.parts, C.wins.set (C.wins.length - 1) (lastW C), C.ports⟩
theorem long_check {C : ConfV} (h : checkN C = 0) (hn : 0 < C.wins.length) : checkN (longC C) = 0 := by
  have hF := fine_of h
  obtain ⟨h1, h2, h3, h4, h5, h6⟩ := (check_iff C).1 h
  refine (check_iff (longC C)).2 ⟨h1, h2, h3, ?_, h5, h6⟩
  show winsB C.frame C.parts.length (C.wins.set (C.wins.length - 1) (lastW C)) = true
  simp only [winsB, Bool.and_eq_true, List.length_set] at h4 ⊢
  refine ⟨h4.1, allB_true fun i hi => ?_⟩
  have hb := allB_of h4.2 i hi
  have he : endAt (C.wins.set (C.wins.length - 1) (lastW C)) i = endAt C.wins i := by
    cases i with
    | zero => rfl
    | succ i =>
      show (winAt (C.wins.set (C.wins.length - 1) (lastW C)) i).til = (winAt C.wins i).til
      rw [winAt_set, if_neg (by omega)]
  rw [he, winAt_set]
  split
  · rename_i hl
    have hw := hF.win i hi
    have hp := hF.p0
    rw [hl.1] at hb hw
    have hw' := hF.win (C.wins.length - 1) (by omega)
    rw [hl.1]
    simp only [winB, isPartB, Bool.and_eq_true, Bool.not_eq_true', decide_eq_false_iff_not, decide_eq_true_eq, lastW] at hb ⊢
    exact ⟨decide_eq_false (by omega), decide_eq_false (by omega), decide_eq_false (by omega), decide_eq_true (by omega), decide_eq_true (by omega)⟩
  · exact hb
theorem ownerN_last (k : Int) (x : WinV) (hx : x.part = 0) : ∀ (ws : List WinV), ws ≠ [] → x.fr = (winAt ws (ws.length - 1)).fr → (winAt ws (ws.length - 1)).til ≤ x.til → ownerN ws k = 0 → ownerN (ws.set (ws.length - 1) x) k = 0
  | [], h, _, _, _ => absurd rfl h
  | [y], _, h1, h2, h3 => by
    have e : winAt [y] 0 = y := rfl
    have h1' : x.fr = y.fr := h1
    have h2' : y.til ≤ x.til := h2
    show ownerN [x] k = 0
    unfold ownerN at h3 ⊢
    by_cases hb : inW y k = true
    · have hb2 : inW x k = true := by
        unfold inW at hb ⊢
        simp only [Bool.and_eq_true, decide_eq_true_eq] at hb ⊢
        omega
      rw [if_pos hb2]
      exact hx
    · rw [if_neg hb] at h3
      exact absurd h3 (by unfold ownerN; decide)
  | y :: z :: r, _, h1, h2, h3 => by
    have ew : winAt (y :: z :: r) ((y :: z :: r).length - 1) = winAt (z :: r) ((z :: r).length - 1) := rfl
    rw [ew] at h1 h2
    have ih := ownerN_last k x hx (z :: r) (by simp) h1 h2
    show ownerN (y :: (z :: r).set ((z :: r).length - 1) x) k = 0
    unfold ownerN at h3 ⊢
    by_cases hb : inW y k = true
    · rw [if_pos hb] at h3 ⊢
      exact h3
    · rw [if_neg hb] at h3 ⊢
      exact ih h3
theorem long_le {C : ConfV} (h : checkN C = 0) (hn : 0 < C.wins.length) {k : Nat} (hk : k ≤ 4096) : leV C 0 k ≤ leV (longC C) 0 k := by
  have hF := fine_of h
  have a1 := (least_in h (p := 0) (by have := hF.p0; omega) hk).1
  have a2 := (least_in (long_check h hn) (p := 0) (by have := hF.p0; exact this) hk).1
  rw [show ((0 : Nat) : Int) = 0 from rfl] at a1 a2
  rw [a1, a2]
  refine minTo_mono fun s _ => cf_mono (fun t => ?_) s k
  unfold own1
  by_cases ho : ownerN C.wins ((t % C.frame.toNat : Nat) : Int) = ((0 : Nat) : Int)
  · have hw := hF.win (C.wins.length - 1) (by omega)
    have : ownerN (longC C).wins ((t % (longC C).frame.toNat : Nat) : Int) = ((0 : Nat) : Int) := ownerN_last _ (lastW C) rfl C.wins (fun e => by rw [e] at hn; simp at hn) rfl hw.2.2.1 ho
    rw [if_pos ho, if_pos this]
    omega
  · rw [if_neg ho]
    split <;> omega
theorem long_re {C : ConfV} {i : Int} (hn : 0 < C.wins.length) (h : reE C 0 i = 0) : reE (longC C) 0 i = 0 ∧ reV (longC C) 0 i ≤ reV C 0 i := by
  obtain ⟨c1, P, I, e, rfl, hP, hl, hI⟩ := re_yes (re_form (C := C) (p := 0) (i := i) (by omega))
  obtain rfl : P = 0 := by omega
  have c2 := long_check c1 hn
  obtain ⟨v1, e1⟩ := re_in c1 hP hl hI
  obtain ⟨v2, e2⟩ := re_in c2 (P := 0) (I := I) hP hl hI
  have h0 : reE C ((0 : Nat) : Int) I = 0 := h
  rw [e1] at h0
  have hne : reN C 0 I ≠ 0 := fun e => by rw [if_pos e] at h0; omega
  have hta := may_all (may_of (tasks_may c1 hP).2 hI)
  have hm : 1 ≤ reN (longC C) 0 I ∧ reN (longC C) 0 I ≤ reN C 0 I := by
    refine firstTo_mono (f := enoughB C 0 I) (g := enoughB (longC C) 0 I) (n := (taskAt (tasksOf C 0) I).deadline.toNat) (fun k k1 k2 hf => ?_) hne
    unfold enoughB at hf ⊢
    have hf' := of_decide_eq_true hf
    have := long_le c1 hn (k := k) (by omega)
    rw [show ((0 : Nat) : Int) = 0 from rfl] at hf' ⊢
    rw [decide_eq_true]
    show boundV (tasksOf C 0) I k ≤ _
    omega
  rw [if_neg (by omega)] at e2
  refine ⟨e2, ?_⟩
  have a : reV (longC C) 0 I = (reN (longC C) 0 I : Int) := v2
  have b : reV C 0 I = (reN C 0 I : Int) := v1
  omega

/-! A greater budget. -/
theorem taskAt_set (ts : List TaskV) (j : Nat) (x : TaskV) (i : Nat) : taskAt (ts.set j x) i = if i = j ∧ i < ts.length then x else taskAt ts i := by
  by_cases h : i = j ∧ i < ts.length
  · obtain ⟨rfl, hl⟩ := h
    rw [if_pos ⟨rfl, hl⟩]
    unfold taskAt
    rw [List.getElem?_set_self hl]
    rfl
  · rw [if_neg h]
    unfold taskAt
    by_cases e : j = i
    · subst e
      have hl : ts.length ≤ j := by
        rcases Nat.lt_or_ge j ts.length with h' | h'
        · exact absurd ⟨rfl, h'⟩ h
        · exact h'
      rw [List.getElem?_eq_none (by simpa using hl), List.getElem?_eq_none hl]
    · rw [List.getElem?_set_ne e]
def upT (t : TaskV) (h : Int) : TaskV := ⟨t.kind, t.period, t.deadline, t.clow, h, t.prio⟩
theorem up_prio (ts : List TaskV) (I : Nat) (h : Int) (i : Nat) : (taskAt (ts.set I (upT (taskAt ts I) h)) i).prio = (taskAt ts i).prio := by
  rw [taskAt_set]
  split
  · rename_i e; rw [e.1]; rfl
  · rfl
theorem up_any (ts : List TaskV) (I : Nat) (h : Int) (j : Nat) (p : Int) : anyPrio ((ts.set I (upT (taskAt ts I) h)).take j) p = anyPrio (ts.take j) p := by
  unfold anyPrio
  rw [List.length_take, List.length_take, List.length_set]
  congr 1
  refine allB_congr fun i hi => ?_
  rw [taskAt_take (by omega), taskAt_take (by omega), up_prio]
def upP (p : PartV) (I : Nat) (h : Int) : PartV := ⟨p.level, p.tasks.set I (upT (taskAt p.tasks I) h), p.code⟩
theorem up_tasks {p : PartV} (hp : tasksB p = true) (hl : p.level = 1) {I : Nat} (hI : I < p.tasks.length) {h : Int} (h1 : (taskAt p.tasks I).chigh ≤ h) (h2 : h ≤ (taskAt p.tasks I).deadline) : tasksB (upP p I h) = true := by
  unfold tasksB at hp ⊢
  simp only [Bool.and_eq_true, decide_eq_true_eq] at hp ⊢
  show (p.tasks.set I (upT (taskAt p.tasks I) h)).length ≤ 6 ∧ allB (p.tasks.set I (upT (taskAt p.tasks I) h)).length (taskOK p.level (p.tasks.set I (upT (taskAt p.tasks I) h))) = true
  rw [List.length_set]
  refine ⟨hp.1, allB_true fun j hj => ?_⟩
  have hb := allB_of hp.2 j hj
  have hbI := allB_of hp.2 I hI
  unfold taskOK at hb hbI ⊢
  rw [up_any, up_prio]
  rw [hl] at hb hbI ⊢
  simp only [Bool.and_eq_true] at hb hbI ⊢
  refine ⟨?_, by simp, hb.2.2⟩
  rw [taskAt_set]
  split
  · have := may_all hbI.1
    unfold taskMay upT
    simp only [Bool.and_eq_true, decide_eq_true_eq]
    omega
  · exact hb.1
def upC (C : ConfV) (I : Nat) (h : Int) : ConfV := ⟨C.frame, C.quiet, C.parts.set 0 (upP (partAt C.parts 0) I h), C.wins, C.ports⟩
theorem up_level (ps : List PartV) (I : Nat) (h : Int) (i : Nat) : (partAt (ps.set 0 (upP (partAt ps 0) I h)) i).level = (partAt ps i).level ∧ (partAt (ps.set 0 (upP (partAt ps 0) I h)) i).code = (partAt ps i).code := by
  rw [partAt_set]
  split
  · rename_i e; rw [e.1]; exact ⟨rfl, rfl⟩
  · exact ⟨rfl, rfl⟩
theorem up_levels (ps : List PartV) (I : Nat) (h : Int) : (ps.set 0 (upP (partAt ps 0) I h)).map PartV.level = ps.map PartV.level := by
  cases ps with
  | nil => rfl
  | cons p r => rfl
theorem up_check {C : ConfV} (hc : checkN C = 0) (hP : 0 < C.parts.length) (hl : (partAt C.parts 0).level = 1) {I : Nat} (hI : I < (tasksOf C 0).length) {h : Int} (h1 : (taskAt (tasksOf C 0) I).chigh ≤ h) (h2 : h ≤ (taskAt (tasksOf C 0) I).deadline) : checkN (upC C I h) = 0 := by
  obtain ⟨a1, a2, a3, a4, a5, a6⟩ := (check_iff C).1 hc
  refine (check_iff (upC C I h)).2 ⟨a1, ?_, ?_, ?_, ?_, ?_⟩
  · show partsB (C.parts.set 0 (upP (partAt C.parts 0) I h)) = true
    unfold partsB at a2 ⊢
    rw [List.length_set]
    simp only [Bool.and_eq_true] at a2 ⊢
    refine ⟨a2.1, a2.2.1, allB_true fun i hi => ?_⟩
    rw [(up_level C.parts I h i).1]
    exact allB_of a2.2.2 i hi
  · show allB (C.parts.set 0 (upP (partAt C.parts 0) I h)).length (fun i => tasksB (partAt (C.parts.set 0 (upP (partAt C.parts 0) I h)) i)) = true
    rw [List.length_set]
    refine allB_true fun i hi => ?_
    rw [partAt_set]
    split
    · exact up_tasks (allB_of a3 0 hP) hl hI h1 h2
    · exact allB_of a3 i hi
  · show winsB C.frame (C.parts.set 0 (upP (partAt C.parts 0) I h)).length C.wins = true
    rw [List.length_set]
    exact a4
  · show portsB ((C.parts.set 0 (upP (partAt C.parts 0) I h)).map PartV.level) C.ports = true
    rw [up_levels]
    exact a5
  · show allB (C.parts.set 0 (upP (partAt C.parts 0) I h)).length (fun i => codeMay (partAt (C.parts.set 0 (upP (partAt C.parts 0) I h)) i).code) = true
    rw [List.length_set]
    refine allB_true fun i hi => ?_
    rw [(up_level C.parts I h i).2]
    exact allB_of a6 i hi
theorem asked_not (P len : Int) : ∀ (ts : List TaskV) (I : Nat) (t : TaskV) (s : Int), t.prio = (taskAt ts I).prio → ¬ t.prio < P → (ts.set I t).foldl (addAhead P len) s = ts.foldl (addAhead P len) s
  | [], _, _, _, _, _ => rfl
  | x :: r, 0, t, s, h, hp => by
    have h' : t.prio = x.prio := h
    show List.foldl (addAhead P len) (addAhead P len s t) r = List.foldl (addAhead P len) (addAhead P len s x) r
    unfold addAhead
    rw [if_neg hp, if_neg (by rw [← h']; exact hp)]
  | x :: r, I + 1, t, s, h, hp => asked_not P len r I t (addAhead P len s x) h hp
theorem up_re {C : ConfV} (hc : checkN C = 0) (hP : 0 < C.parts.length) (hl : (partAt C.parts 0).level = 1) {I : Nat} (hI : I < (tasksOf C 0).length) {h : Int} (h1 : (taskAt (tasksOf C 0) I).chigh ≤ h) (h2 : h ≤ (taskAt (tasksOf C 0) I).deadline) :
    reE (upC C I h) 0 I = 901 ∨ (reE (upC C I h) 0 I = 0 ∧ reE C 0 I = 0 ∧ reV C 0 I ≤ reV (upC C I h) 0 I) := by
  have c2 := up_check hc hP hl hI h1 h2
  have et : tasksOf (upC C I h) 0 = (tasksOf C 0).set I (upT (taskAt (tasksOf C 0) I) h) := by
    unfold tasksOf upC
    dsimp only
    rw [partAt_set, if_pos ⟨rfl, hP⟩]
    rfl
  have hI2 : I < (tasksOf (upC C I h) 0).length := by rw [et, List.length_set]; exact hI
  have hl2 : (partAt (upC C I h).parts 0).level = 1 := by rw [← hl]; exact (up_level C.parts I h 0).1
  have hP2 : 0 < (upC C I h).parts.length := by show 0 < (C.parts.set 0 _).length; rw [List.length_set]; exact hP
  obtain ⟨v1, e1⟩ := re_in hc hP hl hI
  obtain ⟨v2, e2⟩ := re_in c2 hP2 hl2 hI2
  have eI : taskAt (tasksOf (upC C I h) 0) I = upT (taskAt (tasksOf C 0) I) h := by rw [et, taskAt_set, if_pos ⟨rfl, hI⟩]
  have hta := may_all (may_of (tasks_may hc hP).2 hI)
  have hle : ∀ k : Int, leV (upC C I h) 0 k = leV C 0 k := fun k => by
    have e : leOK (upC C I h) 0 k = leOK C 0 k := by
      unfold leOK
      rw [hc, c2, show (upC C I h).parts.length = C.parts.length by show (C.parts.set 0 _).length = _; rw [List.length_set]]
    unfold leV
    rw [e]
    rfl
  have hbd : ∀ k : Nat, k ≤ 4096 → boundV (tasksOf C 0) I k ≤ boundV (tasksOf (upC C I h) 0) I k := fun k hk => by
    rw [(bound_in (tasks_may hc hP).2 hI hk).1, (bound_in (tasks_may c2 hP2).2 hI2 hk).1, eI]
    show (taskAt (tasksOf C 0) I).chigh + askedN (tasksOf C 0) (taskAt (tasksOf C 0) I).prio k ≤ h + askedN (tasksOf (upC C I h) 0) (taskAt (tasksOf C 0) I).prio k
    have : askedN (tasksOf (upC C I h) 0) (taskAt (tasksOf C 0) I).prio k = askedN (tasksOf C 0) (taskAt (tasksOf C 0) I).prio k := by
      rw [et]
      exact asked_not _ _ _ _ _ _ rfl (Int.lt_irrefl _)
    omega
  by_cases h0 : reN (upC C I h) 0 I = 0
  · rw [if_pos h0] at e2
    exact .inl e2
  · rw [if_neg h0] at e2
    have hm : 1 ≤ reN C 0 I ∧ reN C 0 I ≤ reN (upC C I h) 0 I := by
      have hd : (taskAt (tasksOf (upC C I h) 0) I).deadline = (taskAt (tasksOf C 0) I).deadline := by rw [eI]; rfl
      have h0' : firstTo (enoughB (upC C I h) 0 I) (taskAt (tasksOf C 0) I).deadline.toNat ≠ 0 := by rw [← hd]; exact h0
      have := firstTo_mono (f := enoughB (upC C I h) 0 I) (g := enoughB C 0 I) (n := (taskAt (tasksOf C 0) I).deadline.toNat) (fun k k1 k2 hf => by
        unfold enoughB at hf ⊢
        have hf' := of_decide_eq_true hf
        rw [show ((0 : Nat) : Int) = 0 from rfl] at hf' ⊢
        rw [hle] at hf'
        have := hbd k (by omega)
        exact decide_eq_true (by omega)) h0'
      refine ⟨this.1, ?_⟩
      have e : reN (upC C I h) 0 I = firstTo (enoughB (upC C I h) 0 I) (taskAt (tasksOf C 0) I).deadline.toNat := by rw [← hd]; rfl
      rw [e]
      exact this.2
    rw [if_neg (by omega)] at e1
    refine .inr ⟨e2, e1, ?_⟩
    have a : reV (upC C I h) 0 I = (reN (upC C I h) 0 I : Int) := v2
    have b : reV C 0 I = (reN C 0 I : Int) := v1
    omega
#print axioms long_re
#print axioms up_re
end Go.Proofs.YtehnklpjkcofcaaDoor
