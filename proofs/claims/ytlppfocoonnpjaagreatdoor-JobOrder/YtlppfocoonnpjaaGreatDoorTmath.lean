/- JobTicks' schedule, on lists alone: each job that comes is done, killed, missed, or still there; never two of one task. -/
import Derived.Test.YtlppfocoonnpjaaGreatDoorQc
namespace Go.Proofs.YtlppfocoonnpjaaGreatDoor.L
open Go.RowKit
open Go.Proofs.YtlppfocoonnpjaaGreatDoor.J (JobV jz jobAt jobMay rowMay putV putE putL okB hasB leftV lateV placeN chMay chJ chO chD chK chE oneMore)
open Go.Proofs.YtlppfocoonnpjaaGreatDoor.U (TurnsV turnsMay atMay isB relS relD pickS pickE lateB)

/-- A job that stands there as its task's last one. -/
structure Kept (L : LocV) (j : JobV) : Prop where
  last : (L.turnAt j.task.toNat).last = j.rel
  dead : j.dead = j.rel + (L.taskAt j.task.toNat).deadline
  reg : (L.taskAt j.task.toNat).kind ≠ 1 → j.rel % (L.taskAt j.task.toNat).period = 0
/-- What holds ahead of a tick. -/
structure Ahead (L : LocV) (m : Nat) (now : Int) : Prop where
  fine : Fine L m
  kept : ∀ j, j ∈ L.jobs → Kept L j ∧ j.rel < now
  apart : L.jobs.Pairwise fun a b => a.task ≠ b.task
theorem new_ahead {i : Int} {p : PartV} {m : Nat} (h : Fine (newL i p) m) (now : Int) : Ahead (newL i p) m now := ⟨h, fun j hj => (by cases hj), List.Pairwise.nil⟩
theorem kept_turns {L : LocV} {k : Nat} {s : TurnsV} {j : JobV} (h : Kept L j) (hs : j.task.toNat = k → s.last = (L.turnAt k).last) (hk : k < L.turns.length) : Kept { L with turns := L.turns.set k s } j := by
  refine ⟨?_, h.dead, h.reg⟩
  by_cases e : j.task.toNat = k
  · subst e
    have : ({ L with turns := L.turns.set j.task.toNat s } : LocV).turnAt j.task.toNat = s := by
      unfold LocV.turnAt
      rw [getD_set, if_pos ⟨rfl, hk⟩]
    rw [this, hs rfl]
    exact h.last
  · have : ({ L with turns := L.turns.set k s } : LocV).turnAt j.task.toNat = L.turnAt j.task.toNat := by
      unfold LocV.turnAt
      rw [getD_set, if_neg (fun h => e h.1.symm)]
    rw [this]
    exact h.last
theorem pick_ahead {L : LocV} {m : Nat} {now : Int} (h : Ahead L m now) (i d t : Int) : Ahead (pickL L i d t) m now := by
  have hf := pick_fine h.fine i d t
  unfold pickL at hf ⊢
  split
  · rename_i h1
    rw [if_pos h1] at hf
    refine ⟨hf, fun j hj => ⟨?_, (h.kept j hj).2⟩, h.apart⟩
    by_cases hi : i.toNat < L.turns.length
    · refine kept_turns (h.kept j hj).1 (fun _ => ?_) hi
      unfold pickN at h1
      split at h1
      · unfold pickE at h1
        unfold pickS
        split at h1
        · rename_i h2
          rw [if_pos h2]
          split at h1
          · exact absurd h1 (by decide)
          · rename_i h3
            rw [if_neg h3]
        · exact absurd h1 (by decide)
      · exact absurd h1 (by decide)
    · have e : ({ L with turns := L.turns.set i.toNat (pickS (L.taskAt i.toNat) (L.turnAt i.toNat) d) } : LocV) = L := by
        rw [List.set_eq_of_length_le (by omega)]
      rw [e]
      exact (h.kept j hj).1
  · exact h
/-- Behind the misses, ahead of task k's release. -/
structure Mid (L : LocV) (now : Int) (k : Nat) : Prop where
  kept : ∀ j, j ∈ L.jobs → Kept L j ∧ j.rel ≤ now ∧ now < j.dead
  young : ∀ j, j ∈ L.jobs → k ≤ j.task.toNat → j.rel < now
  apart : L.jobs.Pairwise fun a b => a.task ≠ b.task
theorem miss_mid {L : LocV} {m : Nat} {now : Int} (h : Ahead L m now) : Mid (missL L now) now 0 := by
  have e : (missL L now).jobs = L.jobs.filter (fun x => !decide (x.dead ≤ now)) := by show leftV L.jobs now = _; unfold leftV; rw [if_pos h.fine.row]
  have hm : ∀ j, j ∈ (missL L now).jobs → j ∈ L.jobs ∧ now < j.dead := fun j hj => by
    rw [e] at hj
    have := List.mem_filter.1 hj
    exact ⟨this.1, by simpa using this.2⟩
  refine ⟨fun j hj => ⟨⟨(h.kept j (hm j hj).1).1.last, (h.kept j (hm j hj).1).1.dead, (h.kept j (hm j hj).1).1.reg⟩, Int.le_of_lt (h.kept j (hm j hj).1).2, (hm j hj).2⟩, fun j hj _ => (h.kept j (hm j hj).1).2, ?_⟩
  rw [e]
  exact h.apart.filter _
theorem multiple_gap {a b p : Int} (ha : a % p = 0) (hb : b % p = 0) (h : a < b) : p ≤ b - a := by
  have h1 : (b - a) % p = 0 := by rw [Int.sub_emod, ha, hb]; simp
  rcases Int.lt_or_le (b - a) p with h2 | h2
  · have := Int.emod_eq_of_lt (show 0 ≤ b - a by omega) h2
    omega
  · exact h2
theorem mid_none {L : LocV} {m : Nat} {now : Int} {k : Nat} (hF : Fine L m) (h : Mid L now k) (hb : isB (L.taskAt k) (L.turnAt k) now = true) : ∀ j, j ∈ L.jobs → j.task.toNat ≠ k := by
  intro j hj e
  obtain ⟨hk, -, hd⟩ := h.kept j hj
  have hy := h.young j hj (by omega)
  have hjp := J.job_parts (job_of hF hj)
  have ht := J.may_parts (hF.taskMay j.task.toNat (by have := hF.of j hj; omega))
  subst e
  have hdead := hk.dead
  have hlast := hk.last
  unfold isB at hb
  rw [Bool.and_eq_true] at hb
  have hc := hb.2
  unfold U.comesB at hc
  by_cases h1 : (L.taskAt j.task.toNat).kind = 1
  · rw [if_pos h1, Bool.and_eq_true] at hc
    have hw : U.waitsB (L.taskAt j.task.toNat) (L.turnAt j.task.toNat) now = false := by simpa using hc.2
    unfold U.waitsB at hw
    rw [hc.1, Bool.true_and, hlast, decide_eq_false (show ¬j.rel = -1 by omega)] at hw
    have : ¬(now - j.rel < (L.taskAt j.task.toNat).period) := by simpa using hw
    omega
  · rw [if_neg h1] at hc
    have h2 := multiple_gap (hk.reg h1) (of_decide_eq_true hc) hy
    omega
theorem rel_last {t : TaskV} {s : TurnsV} {now : Int} (h : isB t s now = true) : (relS t s now).last = now := by
  unfold isB at h
  rw [Bool.and_eq_true] at h
  unfold relS
  rw [if_pos h.1, if_pos h.2]
  rfl
theorem toNat_ne {a b : Int} (h : a.toNat ≠ b.toNat) : a ≠ b := fun e => h (by rw [e])
theorem step_mid {L : LocV} {m : Nat} {now : Int} {k : Nat} (hF : Fine L m) (h : Mid L now k) (hk : k < L.tasks.length) : Mid (stepL now L k) now (k + 1) := by
  unfold stepL
  split
  · rename_i hb
    have hn := mid_none hF h hb
    have hr := rel_last hb
    have hkt : k < L.turns.length := by rw [hF.turns]; exact hk
    have hold : ∀ j, j ∈ L.jobs → Kept { L with turns := L.turns.set k (relS (L.taskAt k) (L.turnAt k) now) } j := fun j hj => kept_turns (h.kept j hj).1 (fun e => absurd e (hn j hj)) hkt
    split
    · rename_i hp
      have hpv : putV L.jobs (newJob L now k) = putL L.jobs (newJob L now k) := by
        unfold putE at hp
        unfold putV
        split at hp
        · rename_i h1
          split at hp
          · exact absurd hp (by decide)
          · rename_i h2
            rw [if_pos h1, if_neg h2]
        · exact absurd hp (by decide)
      have hmem : ∀ j, j ∈ putV L.jobs (newJob L now k) → j = newJob L now k ∨ j ∈ L.jobs := fun j hj => by rw [hpv] at hj; exact J.putL_mem.1 hj
      refine ⟨fun j hj => ?_, fun j hj hkj => ?_, ?_⟩
      · rcases hmem j hj with rfl | hj2
        · refine ⟨⟨?_, ?_, ?_⟩, Int.le_refl _, ?_⟩
          · show (((L.turns.set k (relS (L.taskAt k) (L.turnAt k) now))[((k : Int)).toNat]?).getD _).last = now
            rw [Int.toNat_natCast, getD_set, if_pos ⟨rfl, hkt⟩, hr]
          · show now + (L.taskAt k).deadline = now + (L.taskAt ((k : Int)).toNat).deadline
            rw [Int.toNat_natCast]
          · intro hkd
            show now % (L.taskAt ((k : Int)).toNat).period = 0
            rw [Int.toNat_natCast]
            have hkd2 : (L.taskAt k).kind ≠ 1 := hkd
            unfold isB at hb
            rw [Bool.and_eq_true] at hb
            have hc := hb.2
            unfold U.comesB at hc
            rw [if_neg hkd2] at hc
            exact of_decide_eq_true hc
          · show now < now + (L.taskAt k).deadline
            have := (J.may_parts (hF.taskMay k hk)).2.2.2.1
            omega
        · exact ⟨⟨(hold j hj2).last, (hold j hj2).dead, (hold j hj2).reg⟩, (h.kept j hj2).2⟩
      · rcases hmem j hj with rfl | hj2
        · have : k + 1 ≤ ((k : Int)).toNat := hkj
          rw [Int.toNat_natCast] at this
          omega
        · exact h.young j hj2 (by omega)
      · show (putV L.jobs (newJob L now k)).Pairwise _
        rw [hpv]
        have hperm : (putL L.jobs (newJob L now k)).Perm (newJob L now k :: L.jobs) := by
          unfold putL
          refine List.perm_middle.trans ?_
          rw [List.take_append_drop]
        refine (hperm.pairwise_iff (fun {a b} hab => fun e => hab e.symm)).2 (List.Pairwise.cons (fun j hj => ?_) h.apart)
        exact toNat_ne (by show ((k : Int)).toNat ≠ _; rw [Int.toNat_natCast]; exact (hn j hj).symm)
    · exact ⟨fun j hj => ⟨hold j hj, (h.kept j hj).2⟩, fun j hj hkj => h.young j hj (by omega), h.apart⟩
  · exact ⟨h.kept, fun j hj hkj => h.young j hj (by omega), h.apart⟩
theorem steps_mid {L : LocV} {m : Nat} {now : Int} (hF : Fine L m) (h : Mid L now 0) : ∀ k, k ≤ L.tasks.length → Mid (stepsL now L k) now k := by
  intro k
  induction k with
  | zero => intro _; exact h
  | succ k ih =>
    intro hk
    have hs := steps_fine hF now k (by omega)
    exact step_mid hs.1 (ih (by omega)) (by rw [hs.2.1]; omega)
/-- A tick's begin. -/
theorem begin_ahead {L : LocV} {m : Nat} {now : Int} (h : Ahead L m now) (h0 : 0 ≤ now) (h1 : now ≤ 1099511627776) : Ahead (beginL L now) (m + 6) (now + 1) ∧ ∀ j, j ∈ (beginL L now).jobs → j.rel ≤ now ∧ now < j.dead := by
  have hf := begin_fine h.fine now
  have ht : tickB now = true := by unfold tickB; rw [decide_eq_true h0, decide_eq_true h1]; rfl
  have hm := steps_mid (miss_fine h.fine now) (miss_mid h) L.tasks.length (Nat.le_refl _)
  have e : beginL L now = stepsL now (missL L now) L.tasks.length := by unfold beginL; rw [if_pos ht]
  rw [e] at hf ⊢
  exact ⟨⟨hf, fun j hj => ⟨(hm.kept j hj).1, by have := (hm.kept j hj).2.1; omega⟩, hm.apart⟩, fun j hj => (hm.kept j hj).2⟩
theorem run_ahead {L : LocV} {m : Nat} {now : Int} (h : Ahead L m now) : Ahead (runL L) m now ∧ ∀ P : JobV → Prop, (∀ j, P j → P (oneMore j)) → (∀ j, j ∈ L.jobs → P j) → ∀ j, j ∈ (runL L).jobs → P j := by
  have hf := run_fine h.fine
  unfold runL at hf ⊢
  split
  · exact ⟨h, fun P _ hP => hP⟩
  · rename_i hne
    rw [if_neg hne] at hf
    have hc := cons_head hne
    split
    · rename_i hd
      rw [if_pos hd] at hf
      have hsub : ∀ j, j ∈ L.jobs.drop 1 → j ∈ L.jobs := fun j hj => List.mem_of_mem_drop hj
      exact ⟨⟨hf, fun j hj => ⟨⟨(h.kept j (hsub j hj)).1.last, (h.kept j (hsub j hj)).1.dead, (h.kept j (hsub j hj)).1.reg⟩, (h.kept j (hsub j hj)).2⟩, h.apart.sublist (List.drop_sublist 1 _)⟩, fun P _ hP j hj => hP j (hsub j hj)⟩
    · rename_i hd
      rw [if_neg hd] at hf
      have hh := h.kept (headJ L) (head_mem hne)
      refine ⟨⟨hf, fun j hj => ?_, ?_⟩, fun P hP1 hP j hj => ?_⟩
      · rcases List.mem_cons.1 hj with rfl | hj2
        · exact ⟨⟨hh.1.last, hh.1.dead, hh.1.reg⟩, hh.2⟩
        · have := h.kept j (List.mem_of_mem_drop hj2)
          exact ⟨⟨this.1.last, this.1.dead, this.1.reg⟩, this.2⟩
      · have ha := h.apart
        rw [hc] at ha
        rw [List.pairwise_cons] at ha
        exact List.Pairwise.cons (fun j hj => ha.1 j hj) ha.2
      · rcases List.mem_cons.1 hj with rfl | hj2
        · exact hP1 _ (hP _ (head_mem hne))
        · exact hP j (List.mem_of_mem_drop hj2)
/-! How many come and go. -/
theorem put_len {js : List JobV} {j : JobV} (h : putE js j = 0) : (putV js j).length = js.length + 1 := by
  unfold putE at h
  unfold putV
  split at h
  · rename_i h1
    split at h
    · exact absurd h (by decide)
    · rename_i h2
      rw [if_pos h1, if_neg h2]
      unfold putL
      rw [List.length_append, List.length_cons, List.length_take, List.length_drop]
      have := J.place_le js j
      omega
  · exact absurd h (by decide)
theorem step_len (now : Int) (L : LocV) (i : Nat) : (stepL now L i).jobs.length = L.jobs.length + (stepV now L i).length := by
  unfold stepL stepV
  split
  · split
    · rename_i h
      exact put_len h
    · rfl
  · rfl
theorem steps_count (now : Int) (L : LocV) : ∀ k, (stepsL now L k).jobs.length = L.jobs.length + (stepsV now L k).length
  | 0 => rfl
  | k + 1 => by
    have h := step_len now (stepsL now L k) k
    have h2 := steps_count now L k
    show (stepL now (stepsL now L k) k).jobs.length = _
    rw [show stepsV now L (k + 1) = stepsV now L k ++ stepV now (stepsL now L k) k from rfl, List.length_append]
    omega
theorem steps_kind (now : Int) (L : LocV) : ∀ k e, e ∈ stepsV now L k → e.kind = 1
  | 0, e, h => by cases h
  | k + 1, e, h => by
    rcases List.mem_append.1 (show e ∈ stepsV now L k ++ stepV now (stepsL now L k) k from h) with h | h
    · exact steps_kind now L k e h
    · unfold stepV at h
      split at h
      · split at h
        · simp only [List.mem_singleton] at h; rw [h]
        · cases h
      · cases h
theorem stepsV_le (now : Int) (L : LocV) : ∀ k, (stepsV now L k).length ≤ k
  | 0 => Nat.le_refl _
  | k + 1 => by
    have := stepsV_le now L k
    rw [show stepsV now L (k + 1) = stepsV now L k ++ stepV now (stepsL now L k) k from rfl, List.length_append]
    unfold stepV
    split
    · split
      · simp only [List.length_cons, List.length_nil]; omega
      · simp only [List.length_nil]; omega
    · simp only [List.length_nil]; omega
theorem filter_two {α : Type} (f : α → Bool) : ∀ xs : List α, (xs.filter f).length + (xs.filter fun x => !f x).length = xs.length
  | [] => rfl
  | x :: xs => by
    have := filter_two f xs
    cases h : f x <;> simp [h] <;> omega
theorem miss_count {L : LocV} (h : rowMay L.jobs = true) (now : Int) : (missL L now).jobs.length + (missV L now).length = L.jobs.length := by
  have e1 : (missL L now).jobs.length = (L.jobs.filter (fun x => !decide (x.dead ≤ now))).length := by show (leftV L.jobs now).length = _; unfold leftV; rw [if_pos h]
  have e2 : (missV L now).length = (L.jobs.filter (fun x => decide (x.dead ≤ now))).length := by unfold missV lateV; rw [List.length_map, if_pos h]
  have := filter_two (fun x : JobV => decide (x.dead ≤ now)) L.jobs
  omega
/-- How many of them are releases. -/
def relN (es : List EvV) : Nat := (es.filter fun e => decide (e.kind = 1)).length
theorem relN_snoc (es : List EvV) (e : EvV) : relN (es ++ [e]) = relN es + if e.kind = 1 then 1 else 0 := by
  unfold relN
  rw [List.filter_append, List.length_append]
  by_cases h : e.kind = 1 <;> simp [h]
theorem relN_le (es : List EvV) : relN es ≤ es.length := List.length_filter_le _ _
theorem begin_count {L : LocV} {m : Nat} (hF : Fine L m) {now : Int} (h0 : 0 ≤ now) (h1 : now ≤ 1099511627776) : (beginL L now).jobs.length + ((beginV L now).length - relN (beginV L now)) = L.jobs.length + relN (beginV L now) ∧ relN (beginV L now) ≤ 6 ∧ (beginV L now).length ≤ 22 := by
  have ht : tickB now = true := by unfold tickB; rw [decide_eq_true h0, decide_eq_true h1]; rfl
  have e1 : beginL L now = stepsL now (missL L now) L.tasks.length := by unfold beginL; rw [if_pos ht]
  have e2 : beginV L now = missV L now ++ stepsV now (missL L now) L.tasks.length := by unfold beginV; rw [if_pos ht]
  have r1 : relN (missV L now ++ stepsV now (missL L now) L.tasks.length) = (stepsV now (missL L now) L.tasks.length).length := by
    unfold relN
    rw [List.filter_append, List.length_append]
    have z1 : (missV L now).filter (fun e => decide (e.kind = 1)) = [] := by
      rw [List.filter_eq_nil_iff]
      intro e he
      unfold missV at he
      obtain ⟨j, -, rfl⟩ := List.mem_map.1 he
      simp
    have z2 : (stepsV now (missL L now) L.tasks.length).filter (fun e => decide (e.kind = 1)) = stepsV now (missL L now) L.tasks.length := by
      rw [List.filter_eq_self]
      intro e he
      exact decide_eq_true (steps_kind now _ _ e he)
    rw [z1, z2]
    simp
  have h2 := steps_count now (missL L now) L.tasks.length
  have h3 := miss_count hF.row now
  have h4 := stepsV_le now (missL L now) L.tasks.length
  have h5 := hF.many
  have h6 := (J.rowMay_iff.1 hF.row).1
  rw [e1, e2, r1, List.length_append]
  omega
theorem run_count {L : LocV} : (runL L).jobs.length + (if (runD L || runK L) = true then 1 else 0) = L.jobs.length := by
  unfold runL
  by_cases h : L.jobs = []
  · have a2 : runD L = false := by unfold runD; rw [if_pos h]
    have a3 : runK L = false := by unfold runK; rw [if_pos h]
    rw [if_pos h, a2, a3]
    rfl
  · rw [if_neg h]
    have hp := List.length_pos_iff.2 h
    split
    · show (L.jobs.drop 1).length + 1 = _
      rw [List.length_drop]
      omega
    · show (L.jobs.drop 1).length + 1 + 0 = _
      rw [List.length_drop]
      omega
#print axioms run_count
end Go.Proofs.YtlppfocoonnpjaaGreatDoor.L
