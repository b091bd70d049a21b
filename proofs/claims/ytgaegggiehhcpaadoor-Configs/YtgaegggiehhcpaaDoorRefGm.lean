/- What the document's reader answers is what the program's does. -/
import Derived.Test.YtgaegggiehhcpaaDoorRefGc
namespace Go.Proofs.YtgaegggiehhcpaaDoor.R5
open Go.RowKit

/-- A reader that stays at its end once it is there. -/
def Stays {α : Type} (f : St → α × St) : Prop := ∀ st : St, st.2 = true → (f st).2 = st
theorem bad_eta {st : St} (h : st.2 = true) : (st.1, true) = st := by rw [← h]
theorem num_stays (k : Nat) : Stays (numR k) := fun st h => by
  unfold numR takeR
  rw [if_pos (Or.inl h)]
  exact bad_eta h
theorem task_stays : Stays taskR := fun st h => by
  unfold taskR; dsimp only
  rw [num_stays 1 st h, num_stays 2 st h, num_stays 2 st h, num_stays 2 st h, num_stays 2 st h]
  exact num_stays 1 st h
theorem ins_stays : Stays insR := fun st h => by
  unfold insR; dsimp only
  rw [num_stays 1 st h]
  exact num_stays 1 st h
theorem win_stays : Stays winR := fun st h => by
  unfold winR; dsimp only
  rw [num_stays 2 st h, num_stays 2 st h]
  exact num_stays 1 st h
theorem port_stays : Stays portR := fun st h => by
  unfold portR; dsimp only
  rw [num_stays 1 st h, num_stays 1 st h, num_stays 1 st h]
  exact num_stays 1 st h
theorem many_stays {α : Type} {f : St → α × St} (hf : Stays f) (st : St) (h : st.2 = true) : ∀ n, (manyR f n st).2 = st
  | 0 => rfl
  | n + 1 => by
    show (f (manyR f n st).2).2 = _
    rw [many_stays hf st h n]; exact hf st h
theorem manyB_stays {α : Type} {f : St → α × St} (st : St) (h : st.2 = true) : ∀ n, (manyB f n st) = ([], st)
  | 0 => rfl
  | n + 1 => by
    show (if _ then _ else _) = _
    rw [manyB_stays st h n, if_pos h]
/-- The same state; and the same list where there was enough to read. -/
theorem many_eq {α : Type} {f g : St → α × St} (hf : Stays f) (hfg : ∀ st : St, (f st).2 = (g st).2 ∧ ((g st).2.2 = false → (f st).1 = (g st).1)) (st : St) : ∀ n, (manyR f n st).2 = (manyB g n st).2 ∧ ((manyB g n st).2.2 = false → (manyR f n st).1 = (manyB g n st).1)
  | 0 => ⟨rfl, fun _ => rfl⟩
  | n + 1 => by
    obtain ⟨h1, h2⟩ := many_eq hf hfg st n
    cases hb : (manyB g n st).2.2 with
    | true =>
      have e : manyB g (n + 1) st = manyB g n st := manyB_stop hb (by omega)
      rw [e]
      refine ⟨?_, fun h => by rw [hb] at h; cases h⟩
      show (f (manyR f n st).2).2 = _
      rw [h1, hf _ hb]
    | false =>
      rw [manyB_next hb]
      show (f (manyR f n st).2).2 = _ ∧ (_ → (manyR f n st).1 ++ [(f (manyR f n st).2).1] = _)
      rw [h1]
      obtain ⟨k1, k2⟩ := hfg (manyB g n st).2
      refine ⟨k1, fun h => ?_⟩
      rw [h2 hb, k2 h]
theorem all_eq {α : Type} {f g : St → α × St} (hf : Stays f) (hfg : ∀ st : St, (f st).2 = (g st).2 ∧ ((g st).2.2 = false → (f st).1 = (g st).1)) (st : St) : (allR f st).2 = (allB g st).2 ∧ ((allB g st).2.2 = false → (allR f st).1 = (allB g st).1) := many_eq hf hfg _ _
theorem all_stays {α : Type} {f : St → α × St} (hf : Stays f) : Stays (allR f) := fun st h => by
  unfold allR
  rw [num_stays 1 st h]
  exact many_stays hf st h _
theorem allB_good {α : Type} {f g : St → α × St} (hf : Stays f) (hfg : ∀ st : St, (f st).2 = (g st).2 ∧ ((g st).2.2 = false → (f st).1 = (g st).1)) {st : St} (h : (allB g st).2.2 = false) : st.2 = false := by
  cases hb : st.2 with
  | false => rfl
  | true =>
    rw [← (all_eq hf hfg st).1, all_stays hf st hb, hb] at h
    cases h
theorem same_self {α : Type} (f : St → α × St) : ∀ st : St, (f st).2 = (f st).2 ∧ ((f st).2.2 = false → (f st).1 = (f st).1) := fun _ => ⟨rfl, fun _ => rfl⟩
theorem part_stays : Stays partR := fun st h => by
  unfold partR; dsimp only
  rw [num_stays 1 st h, all_stays task_stays st h]
  exact all_stays ins_stays st h
theorem part_eq (st : St) : (partR st).2 = (partB st).2 ∧ ((partB st).2.2 = false → (partR st).1 = (partB st).1) := by
  unfold partR partB
  dsimp only
  obtain ⟨t1, t2⟩ := all_eq task_stays (same_self taskR) (numR 1 st).2
  rw [t1]
  obtain ⟨c1, c2⟩ := all_eq ins_stays (same_self insR) (allB taskR (numR 1 st).2).2
  refine ⟨c1, fun h => ?_⟩
  have g := allB_good ins_stays (same_self insR) h
  rw [t2 g, c2 h]
/-- The whole text, as both read it. -/
theorem conf_eq (s : ByteArray) (hh : (nums s).take 2 = [78, 67]) (hs : 2 ≤ s.size) : (confR (nums s, false)).2 = (confB s).2 ∧ ((confB s).2.2 = false → (confR (nums s, false)).1 = (confB s).1) := by
  have e : takeR 2 (nums s, false) = ([78, 67], ((nums s).drop 2, false)) := by
    unfold takeR
    rw [if_neg (by rw [nums_length]; simp; omega), hh]
  unfold confR confB
  rw [e]
  dsimp only
  rw [show decide (¬ ([78, 67] : List Int) = [78, 67]) = false by decide]
  obtain ⟨p1, p2⟩ := all_eq part_stays part_eq (numR 1 (numR 2 ((nums s).drop 2, false)).2).2
  rw [p1]
  obtain ⟨w1, w2⟩ := all_eq win_stays (same_self winR) (allB partB (numR 1 (numR 2 ((nums s).drop 2, false)).2).2).2
  rw [w1]
  obtain ⟨o1, o2⟩ := all_eq port_stays (same_self portR) (allB winR (allB partB (numR 1 (numR 2 ((nums s).drop 2, false)).2).2).2).2
  refine ⟨o1, fun h => ?_⟩
  have g := allB_good port_stays (same_self portR) h
  have g2 := allB_good win_stays (same_self winR) g
  rw [p2 g2, w2 g, o2 h]
theorem conf_bad (s : ByteArray) (h : s.size < 2 ∨ (nums s).take 2 ≠ [78, 67]) : (confR (nums s, false)).2.2 = true := by
  have key : ∀ st : St, st.2 = true → (allR portR (allR winR (allR partR (numR 1 (numR 2 st).2).2).2).2).2 = st := fun st h => by
    rw [num_stays 2 st h, num_stays 1 st h, all_stays part_stays st h, all_stays win_stays st h]
    exact all_stays port_stays st h
  have hb : decide (¬ (takeR 2 (nums s, false)).1 = [78, 67]) = true := by
    unfold takeR
    rcases h with h | h
    · rw [if_pos (by rw [nums_length]; exact .inr h)]; simp
    · by_cases h2 : s.size < 2
      · rw [if_pos (by rw [nums_length]; exact .inr h2)]; simp
      · rw [if_neg (by rw [nums_length]; simp; omega)]; simpa using h
  unfold confR
  dsimp only
  rw [key _ hb]
  exact hb
theorem done_bad {st : St} (h : st.2 = true) : doneR st = false := by unfold doneR; rw [h]; rfl
theorem getE_eq (s : ByteArray) : getE s = (if s.size < 2 ∨ (nums s).take 2 ≠ [78, 67] ∨ 65536 < s.size then 500 else if doneR (confB s).2 = false then 500 else checkN (confB s).1) := by
  unfold getE
  by_cases h1 : 65536 < s.size
  · rw [if_pos h1, if_pos (.inr (.inr h1))]
  · rw [if_neg h1]
    by_cases h2 : s.size < 2 ∨ (nums s).take 2 ≠ [78, 67]
    · have k : s.size < 2 ∨ (nums s).take 2 ≠ [78, 67] ∨ 65536 < s.size := by
        rcases h2 with h | h
        · exact .inl h
        · exact .inr (.inl h)
      exact (if_pos (done_bad (conf_bad s h2))).trans (if_pos k).symm
    · have hs : 2 ≤ s.size := by
        rcases Nat.lt_or_ge s.size 2 with h | h
        · exact absurd (.inl h) h2
        · exact h
      have hh : (nums s).take 2 = [78, 67] := by
        by_cases h : (nums s).take 2 = [78, 67]
        · exact h
        · exact absurd (.inr h) h2
      have k : ¬ (s.size < 2 ∨ (nums s).take 2 ≠ [78, 67] ∨ 65536 < s.size) := by
        rintro (h | h | h)
        · exact h2 (.inl h)
        · exact h2 (.inr h)
        · exact h1 h
      refine Eq.trans ?_ (if_neg k).symm
      obtain ⟨e1, e2⟩ := conf_eq s hh hs
      rw [e1]
      by_cases hd : doneR (confB s).2 = false
      · rw [if_pos hd, if_pos hd]
      · rw [if_neg hd, if_neg hd]
        have hb : (confB s).2.2 = false := by
          cases h : (confB s).2.2 with
          | false => rfl
          | true => exact absurd (done_bad h) hd
        rw [e2 hb]
/-- The document's GetConfig answers what the program's Get answers. -/
theorem getc_ref (s : ByteArray) (hs2 : s.size ≤ 9223372036854775807) (w : World) :
    Calls Tryd.prog 14 #[.string s] w fun e w' => ∃ c, e = .returned (.tuple #[c, .int .i64 (getE s)]) ∧ Cp.COwn w.heap.size w' c (getC s) ∧ w.grownBy w' none := by
  by_cases h : s.size < 2 ∨ (nums s).take 2 ≠ [78, 67] ∨ 65536 < s.size
  · have hE : getE s = 500 := by rw [getE_eq, if_pos h]
    have hC : getC s = cz := if_neg (by rw [hE]; decide)
    rw [hE, hC]
    refine getc_bad s hs2 ?_ w
    by_cases h1 : s.size < 2
    · exact .inl h1
    · by_cases h2 : (nums s).take 2 = [78, 67]
      · refine .inr (.inr ⟨by omega, h2, ?_⟩)
        rcases h with h | h | h
        · exact absurd h h1
        · exact absurd h2 h
        · exact h
      · exact .inr (.inl ⟨by omega, h2⟩)
  · have hs : 2 ≤ s.size := by 
      rcases Nat.lt_or_ge s.size 2 with k | k
      · exact absurd (.inl k) h
      · exact k
    have hh : (nums s).take 2 = [78, 67] := by 
      by_cases k : (nums s).take 2 = [78, 67]
      · exact k
      · exact absurd (.inr (.inl k)) h
    have hl : s.size ≤ 65536 := by 
      rcases Nat.lt_or_ge 65536 s.size with k | k
      · exact absurd (.inr (.inr k)) h
      · exact k
    have hE : getE s = if doneR (confB s).2 = false then 500 else checkN (confB s).1 := by rw [getE_eq, if_neg h]
    have hC : getC s = if (if doneR (confB s).2 = false then 500 else checkN (confB s).1) = 0 then (confB s).1 else cz := by
      unfold getC
      rw [hE]
      by_cases hz : (if doneR (confB s).2 = false then 500 else checkN (confB s).1) = 0
      · rw [if_pos hz, if_pos hz]
        refine (conf_eq s hh hs).2 ?_
        cases hb : (confB s).2.2 with
        | false => rfl
        | true => rw [if_pos (done_bad hb)] at hz; cases hz
      · rw [if_neg hz, if_neg hz]
    exact getc_good s hs hl hh (confB s).1 _ (confB s).2 _ rfl hE (by rw [hC, hE]) w
#print axioms getc_ref
end Go.Proofs.YtgaegggiehhcpaaDoor.R5
