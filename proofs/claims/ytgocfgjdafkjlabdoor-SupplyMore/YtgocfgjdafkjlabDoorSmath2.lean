/- One window a frame; a window that is given to another part: on lists alone. -/
import Derived.Test.YtgocfgjdafkjlabDoorSmath
namespace Go.Proofs.YtgocfgjdafkjlabDoor
open Go.RowKit

/-- Of one window a frame: what the gap leaves. -/
theorem one_least {o : Nat → Int} {F a s k : Nat} (hs : 0 < s) (ha : a + s ≤ F) (hk : k ≤ F) (hp : ∀ t, o (t + F) = o t) (hb : ∀ t, 0 ≤ o t ∧ o t ≤ 1) (h0 : sumTo o a = 0) (h1 : sumTo o (a + s) = s) (h2 : sumTo o F = s) : leastS o F k = max 0 ((k : Int) - (F - s)) := by
  have lower : max 0 ((k : Int) - (F - s)) ≤ leastS o F k := by
    refine le_minTo (by omega) fun i _ => ?_
    have e1 : cf o i F = s := by
      have := cf_frame hp i 0
      rw [Nat.zero_add, cf_zero] at this
      omega
    have e2 := cf_add o i k (F - k)
    rw [show k + (F - k) = F by omega] at e2
    have e3 := cf_bd hb (i + k) (F - k)
    have e4 := cf_bd hb i k
    omega
  have upper : leastS o F k ≤ max 0 ((k : Int) - (F - s)) := by
    have hF : 0 < F := by omega
    have hi : (a + s) % F < F := Nat.mod_lt _ hF
    have u1 := leastS_le (o := o) (k := k) hi
    have u2 : cf o ((a + s) % F) k = cf o (a + s) k := by
      rcases (by omega : a + s < F ∨ a + s = F) with h | h
      · rw [Nat.mod_eq_of_lt h]
      · rw [h, Nat.mod_self]
        have := cf_period hp 0 k
        rw [Nat.zero_add] at this
        exact this.symm
    have u3 : cf o (a + s) (F - s) = 0 := by
      unfold cf
      rw [show a + s + (F - s) = a + F by omega, sum_period hp, h0, h1, h2]
      omega
    rcases (by omega : k ≤ F - s ∨ F - s < k) with h | h
    · have e2 := cf_add o (a + s) k (F - s - k)
      rw [show k + (F - s - k) = F - s by omega] at e2
      have e3 := cf_bd hb (a + s + k) (F - s - k)
      omega
    · have e2 := cf_add o (a + s) (F - s) (k - (F - s))
      rw [show F - s + (k - (F - s)) = k by omega] at e2
      have e3 := cf_bd hb (a + s + (F - s)) (k - (F - s))
      omega
  omega
def oneC (f a s : Nat) : ConfV := ⟨f, 1, [⟨1, [], []⟩], [⟨a, (a : Int) + s, 0⟩], []⟩
theorem one_check {f a s : Nat} (hf : 2 ≤ f) (hf2 : f ≤ 129) (hs : 0 < s) (ha : a + s ≤ f) : checkN (oneC f a s) = 0 := by
  have e1 : frameB f 1 = true := by simp [frameB]; omega
  have e2 : partsB (oneC f a s).parts = true := by kernel_rfl
  have e3 : allB (oneC f a s).parts.length (fun i => tasksB (partAt (oneC f a s).parts i)) = true := by kernel_rfl
  have e4 : winsB f 1 [⟨a, (a : Int) + s, 0⟩] = true := by
    simp [winsB, allB, winB, isPartB, endAt, winAt, List.range_succ]
    omega
  have e5 : portsB ((oneC f a s).parts.map PartV.level) (oneC f a s).ports = true := by kernel_rfl
  have e6 : allB (oneC f a s).parts.length (fun i => codeMay (partAt (oneC f a s).parts i).code) = true := by kernel_rfl
  unfold checkN
  rw [e2, e3, e5, e6]
  show (if frameB f 1 = false then _ else if _ then _ else if _ then _ else if winsB f 1 [⟨a, (a : Int) + s, 0⟩] = false then _ else _) = _
  rw [e1, e4]
  simp
theorem one_sum {f a s : Nat} (hs : 0 < s) (n : Nat) (hn : n ≤ f) : sumTo (own1 (oneC f a s) 0 f) n = if (n : Int) ≤ a then 0 else if (n : Int) ≤ a + s then (n : Int) - a else s := by
  rw [own1_cnt _ _ _ _ hn]
  have h := ind_sum ⟨a, (a : Int) + s, 0⟩ 0 (show (0 : Int) ≤ a by omega) (show (a : Int) < a + s by omega) n
  dsimp only at h
  rw [if_pos rfl] at h
  have e : cnt (oneC f a s) 0 n = sumTo (ind ⟨a, (a : Int) + s, 0⟩ 0) n := by
    unfold cnt
    refine sumTo_congr fun i _ => ?_
    unfold ind oneC ownerN
    cases hb : inW ⟨a, (a : Int) + s, 0⟩ i with
    | true => simp
    | false => simp [ownerN]
  rw [e, h]
  split
  · rfl
  · split <;> omega
theorem one_answer {f a s k : Nat} (hf : 2 ≤ f) (hf2 : f ≤ 129) (hs : 0 < s) (ha : a + s ≤ f) (hk : k ≤ f) : leV (oneC f a s) 0 k = max 0 ((k : Int) - (f - s)) ∧ leE (oneC f a s) 0 k = 0 := by
  have h := le_in (one_check hf hf2 hs ha) 0 f k (show 0 < 1 by omega) rfl (by omega)
  refine ⟨h.1.trans ?_, h.2⟩
  rw [leastN_eq (by omega) (own1_period _ _ _) (own1_bd _ _ _)]
  refine one_least hs ha hk (own1_period _ _ _) (own1_bd _ _ _) ?_ ?_ ?_
  · rw [one_sum hs _ (by omega), if_pos (by omega)]
  · rw [one_sum hs _ (by omega), if_neg (by omega), if_pos (by omega)]; omega
  · rw [one_sum hs _ (by omega), if_neg (by omega)]
    split <;> omega

/-! A window that is given to a part. -/
def setPart (ws : List WinV) (j : Nat) (p : Int) : List WinV := ws.set j ⟨(winAt ws j).fr, (winAt ws j).til, p⟩
theorem setPart_length (ws : List WinV) (j : Nat) (p : Int) : (setPart ws j p).length = ws.length := by simp [setPart]
theorem setPart_at (ws : List WinV) (j : Nat) (p : Int) (i : Nat) : winAt (setPart ws j p) i = if i = j ∧ i < ws.length then ⟨(winAt ws i).fr, (winAt ws i).til, p⟩ else winAt ws i := by
  unfold setPart
  by_cases h : i = j ∧ i < ws.length
  · obtain ⟨rfl, hl⟩ := h
    rw [if_pos ⟨rfl, hl⟩]
    conv => lhs; unfold winAt
    rw [List.getElem?_set_self hl]
    rfl
  · rw [if_neg h]
    unfold winAt
    by_cases e : j = i
    · subst e
      have hl : ws.length ≤ j := by
        rcases Nat.lt_or_ge j ws.length with h' | h'
        · exact absurd ⟨rfl, h'⟩ h
        · exact h'
      rw [List.getElem?_eq_none (by simpa using hl), List.getElem?_eq_none hl]
    · rw [List.getElem?_set_ne e]
theorem setPart_end (ws : List WinV) (j : Nat) (p : Int) (i : Nat) : endAt (setPart ws j p) i = endAt ws i := by
  cases i with
  | zero => rfl
  | succ i =>
    show (winAt (setPart ws j p) i).til = (winAt ws i).til
    rw [setPart_at]
    split <;> rfl
theorem setPart_wins {f : Int} {n : Nat} {ws : List WinV} (h : winsB f n ws = true) (j : Nat) {p : Int} (p0 : 0 ≤ p) (p1 : p < n) : winsB f n (setPart ws j p) = true := by
  simp only [winsB, Bool.and_eq_true, setPart_length] at h ⊢
  refine ⟨h.1, allB_true fun i hi => ?_⟩
  have := allB_of h.2 i hi
  rw [setPart_end, setPart_at]
  split
  · simp only [winB, isPartB, Bool.and_eq_true, Bool.not_eq_true', decide_eq_false_iff_not, decide_eq_true_eq] at this ⊢
    omega
  · exact this
def setC (C : ConfV) (j : Nat) (p : Int) : ConfV := ⟨C.frame, C.quiet, C.parts, setPart C.wins j p, C.ports⟩
theorem set_check {C : ConfV} (h : checkN C = 0) (j : Nat) {p : Int} (p0 : 0 ≤ p) (p1 : p < C.parts.length) : checkN (setC C j p) = 0 := by
  have hw : winsB C.frame C.parts.length C.wins = true → winsB C.frame C.parts.length (setPart C.wins j p) = true := fun h => setPart_wins h j p0 p1
  unfold checkN at h ⊢
  unfold setC
  dsimp only
  cases hb : winsB C.frame C.parts.length C.wins with
  | true => rw [hw hb]; rw [hb] at h; exact h
  | false =>
    rw [hb] at h
    exfalso
    revert h
    simp only [if_true]
    repeat (split <;> first | omega | skip)
theorem ownerN_set (ws : List WinV) (j : Nat) (p k : Int) (h : ownerN ws k = p) : ownerN (setPart ws j p) k = p := by
  induction ws generalizing j with
  | nil => exact h
  | cons x xs ih =>
    cases j with
    | zero =>
      show ownerN (⟨x.fr, x.til, p⟩ :: xs) k = p
      unfold ownerN at h ⊢
      by_cases hb : inW x k = true
      · rw [if_pos (show inW ⟨x.fr, x.til, p⟩ k = true from hb)]
      · rw [if_neg hb] at h
        rw [if_neg (show ¬ inW ⟨x.fr, x.til, p⟩ k = true from hb)]
        exact h
    | succ j =>
      show ownerN (x :: setPart xs j p) k = p
      unfold ownerN at h ⊢
      by_cases hb : inW x k = true
      · rw [if_pos hb] at h ⊢; exact h
      · rw [if_neg hb] at h ⊢; exact ih j h
theorem own1_set (C : ConfV) (j p F t : Nat) : own1 C p F t ≤ own1 (setC C j p) p F t := by
  unfold own1
  by_cases h : ownerN C.wins ((t % F : Nat) : Int) = p
  · have h2 : ownerN (setC C j p).wins ((t % F : Nat) : Int) = p := ownerN_set _ j p _ h
    rw [if_pos h, if_pos h2]; omega
  · rw [if_neg h]; split <;> omega
theorem set_more {C : ConfV} (h : checkN C = 0) (j p k F : Nat) (hp : p < C.parts.length) (hF : (F : Int) = C.frame) (hk : k ≤ 4096) : leV C p k ≤ leV (setC C j p) p k ∧ leE (setC C j p) p k = 0 := by
  have F0 : 0 < F := by have := (fine_of h).f0; omega
  have h1 := le_in h p F k hp hF hk
  have h2 := le_in (set_check h j (p := (p : Int)) (by omega) (by omega)) p F k hp hF hk
  refine ⟨?_, h2.2⟩
  rw [h1.1, h2.1, leastN_eq F0 (own1_period _ _ _) (own1_bd _ _ _), leastN_eq F0 (own1_period _ _ _) (own1_bd _ _ _)]
  exact minTo_mono fun i _ => cf_mono (own1_set C j p F) i k
#print axioms set_more
end Go.Proofs.YtgocfgjdafkjlabDoor
