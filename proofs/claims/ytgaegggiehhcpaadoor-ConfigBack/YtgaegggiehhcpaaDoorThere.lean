/- Bytes of a configuration, there and back: lemmas on lists alone; nothing of the program's functions. -/
import Derived.Test.YtgaegggiehhcpaaDoorGet
namespace Go.Proofs.YtgaegggiehhcpaaDoor
open Go.RowKit

/-- A reader that takes just these bytes for x: whatever follows stays; a part of them is too short; what is short stays short. -/
structure Takes {α : Type} (f : St → α × St) (p : List Int) (x : α) : Prop where
  there : ∀ l, f (p ++ l, false) = (x, (l, false))
  cut : ∀ k, k < p.length → (f (p.take k, false)).2.2 = true
/-- What is short stays short. -/
def Stays {α : Type} (f : St → α × St) : Prop := ∀ st : St, st.2 = true → (f st).2.2 = true
/-- What was read is laid again as it lay. -/
def Lays {α : Type} (f : St → α × St) (lay : α → List Int) : Prop := ∀ st : St, (∀ b ∈ st.1, 0 ≤ b ∧ b < 256) → (f st).2.2 = false → st.2 = false ∧ st.1 = lay (f st).1 ++ (f st).2.1

/-! Numbers. -/
theorem takeR_short (k : Nat) (st : St) (h : st.2 = true) : takeR k st = ([], (st.1, true)) := if_pos (.inl h)
theorem num_stays (k : Nat) : Stays (numR k) := fun st h => by unfold numR; rw [takeR_short k st h]
theorem be1 (x : Int) (h0 : 0 ≤ x) (h1 : x < 256) : be 1 x = [x] := by simp [be]; omega
theorem val_be2 (x : Int) (h0 : 0 ≤ x) (h1 : x < 65536) : val [x / 256 % 256, x % 256] = x := by simp [val]; omega
theorem num1_takes (x : Int) (h0 : 0 ≤ x) (h1 : x < 256) : Takes (numR 1) (be 1 x) x := by
  rw [be1 x h0 h1]
  refine ⟨fun l => ?_, fun k hk => ?_⟩
  · simp [numR, takeR, val]
  · obtain rfl : k = 0 := by simp at hk; omega
    simp [numR, takeR]
theorem num2_takes (x : Int) (h0 : 0 ≤ x) (h1 : x < 65536) : Takes (numR 2) (be 2 x) x := by
  have e : be 2 x = [x / 256 % 256, x % 256] := rfl
  rw [e]
  refine ⟨fun l => ?_, fun k hk => ?_⟩
  · have := val_be2 x h0 h1
    have hn : ¬ (l.length + 1 + 1 < 2) := by omega
    simp [numR, takeR, hn]
    exact this
  · have : k = 0 ∨ k = 1 := by simp at hk; omega
    rcases this with rfl | rfl <;> simp [numR, takeR]
theorem num1_lays : Lays (numR 1) (be 1) := by
  intro st hb hs
  obtain ⟨l, sh⟩ := st
  unfold numR takeR at hs ⊢
  split at hs
  · simp at hs
  · rename_i h
    simp only [not_or, Bool.not_eq_true, Nat.not_lt] at h
    dsimp only at h hb ⊢
    match l, h.2, hb with
    | b :: r, _, hb =>
      have := hb b (by simp)
      rw [if_neg (by simp [h.1])]
      refine ⟨h.1, ?_⟩
      simp [val]
      rw [be1 b this.1 this.2]
      rfl
theorem num2_lays : Lays (numR 2) (be 2) := by
  intro st hb hs
  obtain ⟨l, sh⟩ := st
  unfold numR takeR at hs ⊢
  split at hs
  · simp at hs
  · rename_i h
    simp only [not_or, Bool.not_eq_true, Nat.not_lt] at h
    dsimp only at h hb ⊢
    match l, h.2, hb with
    | [b], hl, _ => simp at hl
    | b :: c :: r, _, hb =>
      have h1 := hb b (by simp)
      have h2 := hb c (by simp)
      rw [if_neg (by simp [h.1])]
      refine ⟨h.1, ?_⟩
      simp [val, be]
      omega

/-! One behind the other. -/
section seq
variable {α β γ : Type} {f : St → α × St} {g : St → β × St} {c : α → β → γ}
def seqR (f : St → α × St) (g : St → β × St) (c : α → β → γ) (st : St) : γ × St := (c (f st).1 (g (f st).2).1, (g (f st).2).2)
theorem Takes.seq {p q : List Int} {x : α} {y : β} (h : Takes f p x) (h' : Takes g q y) (hg : Stays g) : Takes (seqR f g c) (p ++ q) (c x y) := by
  refine ⟨fun l => ?_, fun k hk => ?_⟩
  · unfold seqR; rw [List.append_assoc, h.there]; dsimp only; rw [h'.there]
  · unfold seqR
    rcases Nat.lt_or_ge k p.length with hp | hp
    · rw [List.take_append_of_le_length (by omega)]
      exact hg _ (h.cut k hp)
    · rw [List.take_append, List.take_of_length_le hp]
      have := h.there (q.take (k - p.length))
      rw [this]
      exact h'.cut _ (by simp at hk; omega)
theorem Stays.seq (hf : Stays f) (hg : Stays g) : Stays (seqR f g c) := fun st h => hg _ (hf st h)
theorem Lays.seq {la : α → List Int} {lb : β → List Int} {lay : γ → List Int} (hf : Lays f la) (hg : Lays g lb) (sg : Stays g) (hl : ∀ x y, lay (c x y) = la x ++ lb y) : Lays (seqR f g c) lay := by
  intro st hb hs
  unfold seqR at hs ⊢
  dsimp only at hs ⊢
  have h1 : (f st).2.2 = false := by
    cases h : (f st).2.2 with
    | false => rfl
    | true => rw [sg _ h] at hs; cases hs
  obtain ⟨e0, e1⟩ := hf st hb h1
  obtain ⟨_, e2⟩ := hg (f st).2 (fun b h => hb b (by rw [e1]; simp [h])) hs
  refine ⟨e0, ?_⟩
  rw [hl, List.append_assoc, ← e2]
  exact e1
end seq

/-! Many. -/
section many
variable {α : Type} {f : St → α × St} {lay : α → List Int}
theorem manyR_cons (f : St → α × St) : ∀ (n : Nat) (st : St), manyR f (n + 1) st = seqR f (manyR f n) List.cons st
  | 0, st => rfl
  | n + 1, st => by
    have ih := manyR_cons f n st
    show ((manyR f (n + 1) st).1 ++ [(f (manyR f (n + 1) st).2).1], (f (manyR f (n + 1) st).2).2) = _
    rw [ih]
    rfl
theorem many_stays (hs : Stays f) : ∀ n, Stays (manyR f n)
  | 0 => fun st h => h
  | n + 1 => fun st h => by rw [manyR_cons]; exact (Stays.seq hs (many_stays hs n)) st h
theorem many_takes (hs : Stays f) : ∀ xs : List α, (∀ x ∈ xs, Takes f (lay x) x) → Takes (manyR f xs.length) (xs.flatMap lay) xs
  | [], _ => ⟨fun l => rfl, fun k hk => by simp at hk⟩
  | x :: xs, h => by
    have h1 := h x (by simp)
    have h2 := many_takes hs xs (fun y hy => h y (by simp [hy]))
    have h3 := Takes.seq (c := List.cons) h1 h2 (many_stays hs _)
    refine ⟨fun l => ?_, fun k hk => ?_⟩
    · rw [List.length_cons, manyR_cons]; exact h3.there l
    · rw [List.length_cons, manyR_cons]; exact h3.cut k hk
theorem many_lays (hs : Stays f) (hl : Lays f lay) : ∀ n, Lays (manyR f n) (fun xs => xs.flatMap lay)
  | 0 => fun st _ h => ⟨h, rfl⟩
  | n + 1 => fun st hb h => by
    rw [manyR_cons] at h ⊢
    exact Lays.seq (c := List.cons) hl (many_lays hs hl n) (many_stays hs n) (fun x y => rfl) st hb h
theorem all_stays (hs : Stays f) : Stays (allR f) := fun st h => many_stays hs _ _ (num_stays 1 st h)
theorem all_takes (hs : Stays f) (xs : List α) (hn : xs.length < 256) (h : ∀ x ∈ xs, Takes f (lay x) x) : Takes (allR f) (layAll lay xs) xs := by
  have h1 := num1_takes (xs.length : Int) (by omega) (by omega)
  have h2 := many_takes hs xs h
  refine ⟨fun l => ?_, fun k hk => ?_⟩
  · unfold allR layAll
    rw [List.append_assoc, h1.there]
    dsimp only
    rw [Int.toNat_natCast]
    exact h2.there l
  · unfold allR
    unfold layAll at hk ⊢
    rcases Nat.lt_or_ge k (be 1 (xs.length : Int)).length with hp | hp
    · rw [List.take_append_of_le_length (by omega)]
      exact many_stays hs _ _ (h1.cut k hp)
    · rw [List.take_append, List.take_of_length_le hp, h1.there]
      dsimp only
      rw [Int.toNat_natCast]
      exact h2.cut _ (by rw [List.length_append] at hk; omega)
theorem all_lays (hs : Stays f) (hl : Lays f lay) : Lays (allR f) (layAll lay) := by
  intro st hb h
  unfold allR at h ⊢
  have h1 : (numR 1 st).2.2 = false := by
    cases e : (numR 1 st).2.2 with
    | false => rfl
    | true => rw [many_stays hs _ _ e] at h; cases h
  obtain ⟨e0, e1⟩ := num1_lays st hb h1
  obtain ⟨_, e2⟩ := many_lays hs hl _ (numR 1 st).2 (fun b hh => hb b (by rw [e1]; simp [hh])) h
  have hn := num1_byte (st := st) hb
  refine ⟨e0, ?_⟩
  unfold layAll
  rw [manyR_length, Int.toNat_of_nonneg hn.1, List.append_assoc, ← e2]
  exact e1
end many

/-! The readers. -/
theorem ins_eq : insR = seqR (numR 1) (numR 1) Prod.mk := rfl
theorem win_eq : winR = seqR (numR 2) (seqR (numR 2) (numR 1) Prod.mk) (fun a r => ⟨a, r.1, r.2⟩) := rfl
theorem port_eq : portR = seqR (numR 1) (seqR (numR 1) (seqR (numR 1) (numR 1) Prod.mk) Prod.mk) (fun a r => ⟨a, r.1, r.2.1, r.2.2⟩) := rfl
theorem task_eq : taskR = seqR (numR 1) (seqR (numR 2) (seqR (numR 2) (seqR (numR 2) (seqR (numR 2) (numR 1) Prod.mk) Prod.mk) Prod.mk) Prod.mk) (fun a r => ⟨a, r.1, r.2.1, r.2.2.1, r.2.2.2.1, r.2.2.2.2⟩) := rfl
theorem part_eq : partR = seqR (numR 1) (seqR (allR taskR) (allR insR) Prod.mk) (fun a r => ⟨a, r.1, r.2⟩) := rfl
theorem ins_stays : Stays insR := by rw [ins_eq]; exact (num_stays 1).seq (num_stays 1)
theorem win_stays : Stays winR := by rw [win_eq]; exact (num_stays 2).seq ((num_stays 2).seq (num_stays 1))
theorem port_stays : Stays portR := by rw [port_eq]; exact (num_stays 1).seq ((num_stays 1).seq ((num_stays 1).seq (num_stays 1)))
theorem task_stays : Stays taskR := by rw [task_eq]; exact (num_stays 1).seq ((num_stays 2).seq ((num_stays 2).seq ((num_stays 2).seq ((num_stays 2).seq (num_stays 1)))))
theorem part_stays : Stays partR := by rw [part_eq]; exact (num_stays 1).seq ((all_stays task_stays).seq (all_stays ins_stays))
theorem ins_lays : Lays insR layIns := by
  rw [ins_eq]; exact Lays.seq num1_lays num1_lays (num_stays 1) (fun _ _ => rfl)
theorem win_lays : Lays winR layWin := by
  rw [win_eq]; exact Lays.seq num2_lays (Lays.seq (lay := fun r : Int × Int => be 2 r.1 ++ be 1 r.2) num2_lays num1_lays (num_stays 1) (fun _ _ => rfl)) ((num_stays 2).seq (num_stays 1)) (fun _ _ => rfl)
theorem port_lays : Lays portR layPort := by
  rw [port_eq]; exact Lays.seq num1_lays (Lays.seq (lay := fun r : Int × (Int × Int) => be 1 r.1 ++ (be 1 r.2.1 ++ be 1 r.2.2)) num1_lays (Lays.seq (lay := fun r : Int × Int => be 1 r.1 ++ be 1 r.2) num1_lays num1_lays (num_stays 1) (fun _ _ => rfl)) ((num_stays 1).seq (num_stays 1)) (fun _ _ => rfl)) ((num_stays 1).seq ((num_stays 1).seq (num_stays 1))) (fun _ _ => rfl)
theorem task_lays : Lays taskR layTask := by
  rw [task_eq]
  have l1 : Lays (seqR (numR 2) (numR 1) Prod.mk) (fun r : Int × Int => be 2 r.1 ++ be 1 r.2) := Lays.seq num2_lays num1_lays (num_stays 1) (fun _ _ => rfl)
  have s1 : Stays (seqR (numR 2) (numR 1) (Prod.mk : Int → Int → Int × Int)) := (num_stays 2).seq (num_stays 1)
  have l2 : Lays (seqR (numR 2) (seqR (numR 2) (numR 1) Prod.mk) Prod.mk) (fun r : Int × (Int × Int) => be 2 r.1 ++ (be 2 r.2.1 ++ be 1 r.2.2)) := Lays.seq num2_lays l1 s1 (fun _ _ => rfl)
  have s2 : Stays (seqR (numR 2) (seqR (numR 2) (numR 1) (Prod.mk : Int → Int → Int × Int)) (Prod.mk : Int → Int × Int → Int × (Int × Int))) := (num_stays 2).seq s1
  have l3 : Lays (seqR (numR 2) (seqR (numR 2) (seqR (numR 2) (numR 1) Prod.mk) Prod.mk) Prod.mk) (fun r : Int × (Int × (Int × Int)) => be 2 r.1 ++ (be 2 r.2.1 ++ (be 2 r.2.2.1 ++ be 1 r.2.2.2))) := Lays.seq num2_lays l2 s2 (fun _ _ => rfl)
  have s3 : Stays (seqR (numR 2) (seqR (numR 2) (seqR (numR 2) (numR 1) (Prod.mk : Int → Int → Int × Int)) (Prod.mk : Int → Int × Int → Int × (Int × Int))) (Prod.mk : Int → Int × (Int × Int) → Int × (Int × (Int × Int)))) := (num_stays 2).seq s2
  have l4 : Lays (seqR (numR 2) (seqR (numR 2) (seqR (numR 2) (seqR (numR 2) (numR 1) Prod.mk) Prod.mk) Prod.mk) Prod.mk) (fun r : Int × (Int × (Int × (Int × Int))) => be 2 r.1 ++ (be 2 r.2.1 ++ (be 2 r.2.2.1 ++ (be 2 r.2.2.2.1 ++ be 1 r.2.2.2.2)))) := Lays.seq num2_lays l3 s3 (fun _ _ => rfl)
  exact Lays.seq num1_lays l4 ((num_stays 2).seq s3) (fun _ _ => rfl)
theorem part_lays : Lays partR layPart := by
  rw [part_eq]; exact Lays.seq num1_lays (Lays.seq (lay := fun r : List TaskV × List Ins => layAll layTask r.1 ++ layAll layIns r.2) (all_lays task_stays task_lays) (all_lays ins_stays ins_lays) (all_stays ins_stays) (fun _ _ => rfl)) ((all_stays task_stays).seq (all_stays ins_stays)) (fun _ _ => rfl)
#print axioms part_lays
end Go.Proofs.YtgaegggiehhcpaaDoor
