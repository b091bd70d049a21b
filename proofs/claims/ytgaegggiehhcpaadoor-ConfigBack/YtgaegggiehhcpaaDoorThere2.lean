/- Bytes of a configuration, there and back, whole: lemmas on lists alone; nothing of the program's functions. -/
import Derived.Test.YtgaegggiehhcpaaDoorThere
namespace Go.Proofs.YtgaegggiehhcpaaDoor
open Go.RowKit

def confT : St → ConfV × St := seqR (numR 2) (seqR (numR 1) (seqR (allR partR) (seqR (allR winR) (allR portR) Prod.mk) Prod.mk) Prod.mk) (fun f r => ⟨f, r.1, r.2.1, r.2.2.1, r.2.2.2⟩)
theorem conf_eq (st : St) : confR st = confT ((takeR 2 st).2.1, decide ((takeR 2 st).1 ≠ [78, 67])) := by
  unfold confR confT seqR
  dsimp only
def layT (C : ConfV) : List Int := be 2 C.frame ++ (be 1 C.quiet ++ (layAll layPart C.parts ++ (layAll layWin C.wins ++ layAll layPort C.ports)))
theorem layConf_eq (C : ConfV) : layConf C = [78, 67] ++ layT C := rfl
theorem confT_stays : Stays confT := (num_stays 2).seq ((num_stays 1).seq ((all_stays part_stays).seq ((all_stays win_stays).seq (all_stays port_stays))))
theorem confT_lays : Lays confT layT := by
  have l1 : Lays (seqR (allR winR) (allR portR) Prod.mk) (fun r : List WinV × List PortV => layAll layWin r.1 ++ layAll layPort r.2) := Lays.seq (all_lays win_stays win_lays) (all_lays port_stays port_lays) (all_stays port_stays) (fun _ _ => rfl)
  have s1 : Stays (seqR (allR winR) (allR portR) (Prod.mk : List WinV → List PortV → List WinV × List PortV)) := (all_stays win_stays).seq (all_stays port_stays)
  have l2 : Lays (seqR (allR partR) (seqR (allR winR) (allR portR) Prod.mk) Prod.mk) (fun r : List PartV × (List WinV × List PortV) => layAll layPart r.1 ++ (layAll layWin r.2.1 ++ layAll layPort r.2.2)) := Lays.seq (all_lays part_stays part_lays) l1 s1 (fun _ _ => rfl)
  have s2 : Stays (seqR (allR partR) (seqR (allR winR) (allR portR) (Prod.mk : List WinV → List PortV → List WinV × List PortV)) (Prod.mk : List PartV → List WinV × List PortV → List PartV × (List WinV × List PortV))) := (all_stays part_stays).seq s1
  have l3 : Lays (seqR (numR 1) (seqR (allR partR) (seqR (allR winR) (allR portR) Prod.mk) Prod.mk) Prod.mk) (fun r : Int × (List PartV × (List WinV × List PortV)) => be 1 r.1 ++ (layAll layPart r.2.1 ++ (layAll layWin r.2.2.1 ++ layAll layPort r.2.2.2))) := Lays.seq num1_lays l2 s2 (fun _ _ => rfl)
  exact Lays.seq num2_lays l3 ((num_stays 1).seq s2) (fun _ _ => rfl)

/-! What fits its bytes. -/
theorem ins_takes (x : Ins) (h1 : 0 ≤ x.1 ∧ x.1 < 256) (h2 : 0 ≤ x.2 ∧ x.2 < 256) : Takes insR (layIns x) x := (num1_takes x.1 h1.1 h1.2).seq (c := Prod.mk) (num1_takes x.2 h2.1 h2.2) (num_stays 1)
structure TaskFits (t : TaskV) : Prop where
  kind : 0 ≤ t.kind ∧ t.kind < 256
  period : 0 ≤ t.period ∧ t.period < 65536
  deadline : 0 ≤ t.deadline ∧ t.deadline < 65536
  clow : 0 ≤ t.clow ∧ t.clow < 65536
  chigh : 0 ≤ t.chigh ∧ t.chigh < 65536
  prio : 0 ≤ t.prio ∧ t.prio < 256
theorem task_takes (t : TaskV) (h : TaskFits t) : Takes taskR (layTask t) t := by
  rw [task_eq]
  exact (num1_takes t.kind h.kind.1 h.kind.2).seq ((num2_takes t.period h.period.1 h.period.2).seq ((num2_takes t.deadline h.deadline.1 h.deadline.2).seq ((num2_takes t.clow h.clow.1 h.clow.2).seq ((num2_takes t.chigh h.chigh.1 h.chigh.2).seq (num1_takes t.prio h.prio.1 h.prio.2) (num_stays 1)) ((num_stays 2).seq (num_stays 1))) ((num_stays 2).seq ((num_stays 2).seq (num_stays 1)))) ((num_stays 2).seq ((num_stays 2).seq ((num_stays 2).seq (num_stays 1))))) ((num_stays 2).seq ((num_stays 2).seq ((num_stays 2).seq ((num_stays 2).seq (num_stays 1)))))
theorem win_takes (x : WinV) (h1 : 0 ≤ x.fr ∧ x.fr < 65536) (h2 : 0 ≤ x.til ∧ x.til < 65536) (h3 : 0 ≤ x.part ∧ x.part < 256) : Takes winR (layWin x) x := by
  rw [win_eq]
  exact (num2_takes x.fr h1.1 h1.2).seq ((num2_takes x.til h2.1 h2.2).seq (num1_takes x.part h3.1 h3.2) (num_stays 1)) ((num_stays 2).seq (num_stays 1))
theorem port_takes (x : PortV) (h1 : 0 ≤ x.kind ∧ x.kind < 256) (h2 : 0 ≤ x.fr ∧ x.fr < 256) (h3 : 0 ≤ x.til ∧ x.til < 256) (h4 : 0 ≤ x.size ∧ x.size < 256) : Takes portR (layPort x) x := by
  rw [port_eq]
  exact (num1_takes x.kind h1.1 h1.2).seq ((num1_takes x.fr h2.1 h2.2).seq ((num1_takes x.til h3.1 h3.2).seq (num1_takes x.size h4.1 h4.2) (num_stays 1)) ((num_stays 1).seq (num_stays 1))) ((num_stays 1).seq ((num_stays 1).seq (num_stays 1)))
theorem part_takes (p : PartV) (h1 : 0 ≤ p.level ∧ p.level < 256) (h2 : p.tasks.length < 256) (h3 : ∀ t ∈ p.tasks, TaskFits t) (h4 : p.code.length < 256) (h5 : ∀ x ∈ p.code, (0 ≤ x.1 ∧ x.1 < 256) ∧ 0 ≤ x.2 ∧ x.2 < 256) : Takes partR (layPart p) p := by
  rw [part_eq]
  exact (num1_takes p.level h1.1 h1.2).seq ((all_takes task_stays p.tasks h2 (fun t ht => task_takes t (h3 t ht))).seq (all_takes ins_stays p.code h4 (fun x hx => ins_takes x (h5 x hx).1 (h5 x hx).2)) (all_stays ins_stays)) ((all_stays task_stays).seq (all_stays ins_stays))
theorem may_bytes {N : Nat} (hN : N ≤ 64) {x y : Int} (h : insMay N (x, y) = true) : 0 ≤ x ∧ x < 12 ∧ 0 ≤ y ∧ y < 256 := by
  unfold insMay isOpB at h
  simp only [Bool.and_eq_true, decide_eq_true_eq] at h
  obtain ⟨⟨h1, h2⟩, h3, h4⟩ := h
  refine ⟨h1, h2, h3, Int.lt_of_lt_of_le h4 ?_⟩
  unfold most
  split
  · omega
  · obtain ⟨k, rfl⟩ : ∃ k : Nat, x = k := ⟨x.toNat, by omega⟩
    have hk : k < 12 := by omega
    rw [Int.toNat_natCast]
    clear h4
    have hall : ((List.range 12).all fun k => decide (opBelow k ≤ 256)) = true := by decide
    exact of_decide_eq_true (List.all_eq_true.1 hall k (List.mem_range.2 hk))
theorem taskMay_fits {t : TaskV} (h : taskMay t = true) : TaskFits t := by
  unfold taskMay at h
  simp only [Bool.and_eq_true, decide_eq_true_eq] at h
  exact ⟨by omega, by omega, by omega, by omega, by omega, by omega⟩
theorem mem_at {α : Type} {xs : List α} {x : α} (h : x ∈ xs) : ∃ i, i < xs.length ∧ xs[i]? = some x := by
  obtain ⟨i, hi, rfl⟩ := List.getElem_of_mem h
  exact ⟨i, hi, List.getElem?_eq_getElem hi⟩
theorem isLevelB_fits {ls : List Int} {i l : Int} (h : isLevelB ls i l = true) (hl : ls.length ≤ 8) : 0 ≤ i ∧ i < 256 := by
  unfold isLevelB isPartB at h
  simp only [Bool.and_eq_true, decide_eq_true_eq] at h
  omega
/-- The bytes of what may be are read as it. -/
theorem conf_takes {C : ConfV} (h : checkN C = 0) : Takes confT (layT C) C := by
  obtain ⟨h1, h2, h3, h4, h5, h6⟩ := check_ok h
  unfold frameB at h1
  unfold partsB at h2
  simp only [Bool.and_eq_true, decide_eq_true_eq] at h1 h2
  have hw := h4
  have ho := h5
  unfold winsB at hw
  unfold portsB at ho
  simp only [Bool.and_eq_true, decide_eq_true_eq] at hw ho
  have tp : ∀ p ∈ C.parts, Takes partR (layPart p) p := by
    intro p hp
    have ht := all_mem (P := tasksB) h3 p hp
    have hc := all_mem (P := fun p => codeMay p.code) h6 p hp
    have hl := all_mem (P := fun p => levelB p.level) h2.2.2 p hp
    unfold tasksB at ht
    unfold codeMay at hc
    unfold levelB at hl
    simp only [Bool.and_eq_true, Bool.or_eq_true, decide_eq_true_eq] at ht hc hl
    refine part_takes p (by omega) (by omega) (fun t htm => ?_) (by omega) (fun x hx => ?_)
    · obtain ⟨i, hi, e⟩ := mem_at htm
      have := allB_of ht.2 i hi
      unfold taskOK at this
      rw [taskAt_of e] at this
      simp only [Bool.and_eq_true] at this
      exact taskMay_fits this.1
    · have := may_bytes hc.1 (List.all_eq_true.1 hc.2 x hx)
      exact ⟨⟨this.1, by omega⟩, this.2.2⟩
  have tw : ∀ x ∈ C.wins, Takes winR (layWin x) x := by
    intro x hx
    obtain ⟨i, hi, e⟩ := mem_at hx
    have := allB_of hw.2 i hi
    rw [winAt_of e] at this
    unfold winB isPartB at this
    simp only [Bool.and_eq_true, Bool.not_eq_true', decide_eq_false_iff_not, decide_eq_true_eq] at this
    have hend : ∀ j, j ≤ i → 0 ≤ endAt C.wins j := by
      intro j
      induction j with
      | zero => intro _; exact Int.le_refl _
      | succ j ih =>
        intro hj
        have h7 := allB_of hw.2 j (by omega)
        have h8 := ih (by omega)
        unfold winB at h7
        simp only [Bool.and_eq_true, Bool.not_eq_true', decide_eq_false_iff_not] at h7
        show 0 ≤ (winAt C.wins j).til
        omega
    have := hend i (Nat.le_refl _)
    exact win_takes x (by omega) (by omega) (by omega)
  have tk : ∀ x ∈ C.ports, Takes portR (layPort x) x := by
    intro x hx
    obtain ⟨i, hi, e⟩ := mem_at hx
    have := allB_of ho.2 i hi
    rw [portAt_of e] at this
    unfold portB at this
    simp only [Bool.and_eq_true] at this
    have a1 := isLevelB_fits this.1 (by simp; omega)
    have a2 := isLevelB_fits this.2.1 (by simp; omega)
    have a3 := this.2.2
    unfold sizeB at a3
    have a4 : (0 ≤ x.kind ∧ x.kind < 256) ∧ 0 ≤ x.size ∧ x.size < 256 := by
      split at a3
      · simp only [decide_eq_true_eq] at a3; omega
      · split at a3
        · simp only [Bool.and_eq_true, decide_eq_true_eq] at a3; omega
        · cases a3
    exact port_takes x a4.1 a1 a2 a4.2
  exact (num2_takes C.frame (by omega) (by omega)).seq ((num1_takes C.quiet (by omega) (by omega)).seq ((all_takes part_stays C.parts (by omega) tp).seq ((all_takes win_stays C.wins (by omega) tw).seq (all_takes port_stays C.ports (by omega) tk) (all_stays port_stays)) ((all_stays win_stays).seq (all_stays port_stays))) ((all_stays part_stays).seq ((all_stays win_stays).seq (all_stays port_stays)))) ((num_stays 1).seq ((all_stays part_stays).seq ((all_stays win_stays).seq (all_stays port_stays))))
theorem conf_there {C : ConfV} (h : checkN C = 0) (l : List Int) : confR (layConf C ++ l, false) = (C, (l, false)) := by
  rw [conf_eq, layConf_eq]
  have e : takeR 2 ([78, 67] ++ layT C ++ l, false) = ([78, 67], (layT C ++ l, false)) := by
    have hn : ¬ ((layT C).length + l.length + 1 + 1 < 2) := by omega
    simp [takeR, hn]
  rw [e]
  exact (conf_takes h).there l
theorem conf_cut {C : ConfV} (h : checkN C = 0) (k : Nat) (hk : k < (layConf C).length) : (confR ((layConf C).take k, false)).2.2 = true := by
  rw [conf_eq, layConf_eq]
  rcases Nat.lt_or_ge k 2 with h2 | h2
  · have e : takeR 2 (([78, 67] ++ layT C).take k, false) = ([], (([78, 67] ++ layT C).take k, true)) := if_pos (.inr (by rw [List.length_take]; omega))
    rw [e]
    exact confT_stays _ (by simp)
  · obtain ⟨j, rfl⟩ : ∃ j, k = j + 2 := ⟨k - 2, by omega⟩
    have e0 : ([78, 67] ++ layT C).take (j + 2) = [78, 67] ++ (layT C).take j := by simp
    have e : takeR 2 ([78, 67] ++ (layT C).take j, false) = ([78, 67], ((layT C).take j, false)) := by
      have hn : ¬ (min j (layT C).length + 1 + 1 < 2) := by omega
      simp [takeR, hn]
    rw [e0, e]
    exact (conf_takes h).cut j (by rw [layConf_eq] at hk; simp at hk; omega)
theorem conf_lays (l : List Int) (hb : ∀ b ∈ l, 0 ≤ b ∧ b < 256) (h : (confR (l, false)).2.2 = false) : l = layConf (confR (l, false)).1 ++ (confR (l, false)).2.1 := by
  rw [conf_eq] at h ⊢
  rcases Nat.lt_or_ge l.length 2 with h2 | h2
  · have e : takeR 2 (l, false) = ([], (l, true)) := if_pos (.inr h2)
    rw [e] at h
    rw [confT_stays _ (by simp)] at h
    cases h
  · have e : takeR 2 (l, false) = (l.take 2, (l.drop 2, false)) := if_neg (by simp; omega)
    rw [e] at h ⊢
    dsimp only at h ⊢
    by_cases hm : l.take 2 = [78, 67]
    · rw [hm] at h ⊢
      have hd : decide ([78, 67] ≠ ([78, 67] : List Int)) = false := by decide
      rw [hd] at h ⊢
      have := (confT_lays (l.drop 2, false) (fun b hh => hb b (List.mem_of_mem_drop hh)) h).2
      dsimp only at this
      rw [layConf_eq, List.append_assoc, ← this, ← hm, List.take_append_drop]
    · rw [confT_stays _ (by simpa using hm)] at h
      cases h
#print axioms conf_there
#print axioms conf_cut
#print axioms conf_lays
end Go.Proofs.YtgaegggiehhcpaaDoor
