/- Windows laid one behind the other, and whose each tick is: on lists alone; slices of whole numbers that came in. -/
import Derived.Test.YtgaegggiehhcpabDoorCmath
import Derived.Test.YtgaegggiehhcpabDoorOpen
namespace Go.Proofs.YtgaegggiehhcpabDoor
open Go.RowKit Go.ChangeShapes Go.WideShapes

def shN : Shape Int := ⟨1, fun x => [.int .i64 x], fun _ => rfl, by decide, fun x u h => by simp at h; subst h; rfl⟩
section
variable {H : Type} {enc : TypeId × Value → H} {W : World} {spare : Nat → Bool} {held : Bool}
/-- A slice of whole numbers that came in. -/
theorem ints_open {n : Nat} {v : Value} {y : DataW H × List MemPlace} (h : DataW.trod enc Tryd.prog W 0 spare held n 53 [v] = some y) : ∃ zs, RowAt shN 0 W v zs := by
  rcases Deep.open_slice Tryd.underlying53 h with h0 | ⟨a, len, cap, m, n', D, Pl, h0, -, hl, hm, hmm, rfl, hx⟩
  · have h1 := h0.1
    simp only [List.cons.injEq, and_true] at h1
    subst h1
    exact ⟨[], rowAt_nil _ _ _ _⟩
  · simp only [List.cons.injEq, and_true] at h0
    subst h0
    have each : ∀ i, i < len → ∃ z : Int, ∀ j u, (shN.f z)[j]? = some u → W.cell? (a.add (i * 1 + j)) = some u := by
      intro i hi
      have hlm : len ≤ m := by rw [hmm]; split <;> omega
      obtain ⟨cs', h1, h2⟩ := hx i (by omega)
      rw [cells3] at h1
      obtain ⟨-, hlen, hcell⟩ := World.cells?_some h1
      obtain ⟨z, e, _, _⟩ := DataW.trod_int Tryd.underlying3 h2
      refine ⟨z, fun j u hu => ?_⟩
      match j, hu with
      | 0, hu =>
        cases hu
        have := hcell 0 (by omega)
        rw [Deep.add_add] at this
        rw [this, e]
        rfl
      | j + 1, hu => simp [shN] at hu
    have : Inhabited Int := ⟨0⟩
    obtain ⟨z, hz⟩ := Deep.choose_lt each
    exact ⟨_, rowAt_fn (S := shN) hl hm z hz⟩
end

/-! Whose tick. -/
theorem ownerN_snoc (ws : List WinV) (x : WinV) (k : Int) : ownerN (ws ++ [x]) k = if ws.any (fun y => inW y k) = true then ownerN ws k else if inW x k = true then x.part else -1 := by
  induction ws with
  | nil => rfl
  | cons y ys ih =>
    show ownerN (y :: (ys ++ [x])) k = _
    unfold ownerN
    by_cases h : inW y k = true
    · rw [if_pos h, if_pos (by simp [h]), if_pos h]
    · rw [if_neg h, ih]
      by_cases h2 : ys.any (fun y => inW y k) = true
      · rw [if_pos h2, if_pos (by simp only [List.any_cons, Bool.or_eq_true]; exact .inr h2), if_neg h]
      · have h3 : ¬ (y :: ys).any (fun y => inW y k) = true := by
          simp only [List.any_cons, Bool.or_eq_true]
          exact fun e => e.elim h h2
        rw [if_neg h2, if_neg h3]
theorem ownerN_any (ws : List WinV) (k : Int) (h : ¬ ws.any (fun y => inW y k) = true) : ownerN ws k = -1 := by
  induction ws with
  | nil => rfl
  | cons y ys ih =>
    simp only [List.any_cons, Bool.or_eq_true] at h
    unfold ownerN
    rw [if_neg (fun e => h (.inl e))]
    exact ih fun e => h (.inr e)
/-- Windows, and whose each tick is: they fit. -/
structure Laid6 (ws : List WinV) (wh : List Int) : Prop where
  own : ∀ k : Nat, ownerN ws k = wh[k]?.getD (-1)
  til : ∀ y ∈ ws, y.til ≤ wh.length
  win : ∀ i, i < ws.length → endAt ws i ≤ (winAt ws i).fr ∧ (winAt ws i).fr < (winAt ws i).til ∧ 0 ≤ (winAt ws i).part ∧ (winAt ws i).part < 3
theorem winAt_left {ws : List WinV} {x : WinV} {i : Nat} (h : i < ws.length) : winAt (ws ++ [x]) i = winAt ws i := by
  unfold winAt; rw [List.getElem?_append_left h]
theorem endAt_left {ws : List WinV} {x : WinV} {i : Nat} (h : i ≤ ws.length) : endAt (ws ++ [x]) i = endAt ws i := by
  cases i with
  | zero => rfl
  | succ i => show (winAt (ws ++ [x]) i).til = (winAt ws i).til; rw [winAt_left (by omega)]
theorem Laid6.end {ws : List WinV} {wh : List Int} (h : Laid6 ws wh) (i : Nat) (hi : i ≤ ws.length) : endAt ws i ≤ wh.length := by
  cases i with
  | zero => show (0 : Int) ≤ _; omega
  | succ i => exact h.til _ (List.mem_of_getElem? (winAt_mem (by omega)))
theorem laid6_nil : Laid6 [] [] := ⟨fun _ => rfl, fun y hy => by simp at hy, fun i hi => by simp at hi⟩
theorem Laid6.snoc {ws : List WinV} {wh : List Int} (h : Laid6 ws wh) (g s : Nat) (p : Int) (hs : 0 < s) (p0 : 0 ≤ p) (p1 : p < 3) :
    Laid6 (ws ++ [⟨(wh.length : Int) + g, (wh.length : Int) + g + s, p⟩]) (wh ++ List.replicate g (-1) ++ List.replicate s p) := by
  refine ⟨fun k => ?_, fun y hy => ?_, fun i hi => ?_⟩
  · rw [ownerN_snoc]
    by_cases hk : k < wh.length
    · rw [List.append_assoc, List.getElem?_append_left hk, ← h.own k]
      by_cases ha : ws.any (fun y => inW y (k : Int)) = true
      · rw [if_pos ha]
      · rw [if_neg ha, if_neg, ownerN_any ws k ha]
        simp only [inW, Bool.and_eq_true, decide_eq_true_eq]
        omega
    · have ha : ¬ ws.any (fun y => inW y (k : Int)) = true := by
        intro e
        obtain ⟨y, hy, hin⟩ := List.any_eq_true.1 e
        have := h.til y hy
        simp only [inW, Bool.and_eq_true, decide_eq_true_eq] at hin
        omega
      rw [if_neg ha, List.append_assoc, List.getElem?_append_right (by omega)]
      by_cases h1 : k - wh.length < g
      · rw [List.getElem?_append_left (by simpa using h1), List.getElem?_replicate, if_pos h1, if_neg]
        · rfl
        · simp only [inW, Bool.and_eq_true, decide_eq_true_eq]
          omega
      · rw [List.getElem?_append_right (by simpa using h1), List.getElem?_replicate, List.length_replicate]
        by_cases h2 : k - wh.length - g < s
        · rw [if_pos h2, if_pos]
          · rfl
          · simp only [inW, Bool.and_eq_true, decide_eq_true_eq]
            omega
        · rw [if_neg h2, if_neg]
          · rfl
          · simp only [inW, Bool.and_eq_true, decide_eq_true_eq]
            omega
  · simp only [List.length_append, List.length_replicate]
    rcases List.mem_append.1 hy with hy | hy
    · have := h.til y hy; omega
    · simp only [List.mem_singleton] at hy
      subst hy
      show (wh.length : Int) + g + s ≤ _
      omega
  · simp only [List.length_append, List.length_singleton] at hi
    rcases (by omega : i < ws.length ∨ i = ws.length) with h' | rfl
    · rw [winAt_left h', endAt_left (by omega)]
      exact h.win i h'
    · rw [endAt_left (Nat.le_refl _)]
      have e : winAt (ws ++ [⟨(wh.length : Int) + g, (wh.length : Int) + g + s, p⟩]) ws.length = ⟨(wh.length : Int) + g, (wh.length : Int) + g + s, p⟩ := by
        unfold winAt
        rw [List.getElem?_append_right (Nat.le_refl _), Nat.sub_self]
        rfl
      rw [e]
      have := h.end ws.length (Nat.le_refl _)
      dsimp only
      omega
/-- The configuration of these windows. -/
def fwC (ws : List WinV) (L : Nat) : ConfV := ⟨(L : Int) + 1, 1, [⟨1, [], []⟩, ⟨0, [], []⟩, ⟨0, [], []⟩], ws, []⟩
theorem Laid6.check {ws : List WinV} {wh : List Int} (h : Laid6 ws wh) (hl : ws.length ≤ 32) (hw : wh.length ≤ 255) : checkN (fwC ws wh.length) = 0 := by
  have e1 : frameB ((wh.length : Int) + 1) 1 = true := by simp [frameB]; omega
  have e2 : partsB (fwC ws wh.length).parts = true := by kernel_rfl
  have e3 : allB (fwC ws wh.length).parts.length (fun i => tasksB (partAt (fwC ws wh.length).parts i)) = true := by kernel_rfl
  have e4 : winsB ((wh.length : Int) + 1) 3 ws = true := by
    simp only [winsB, Bool.and_eq_true, decide_eq_true_eq]
    refine ⟨hl, allB_true fun i hi => ?_⟩
    have h1 := h.win i hi
    have h2 := h.til _ (List.mem_of_getElem? (winAt_mem hi))
    simp only [winB, isPartB, Bool.and_eq_true, Bool.not_eq_true', decide_eq_false_iff_not, decide_eq_true_eq]
    omega
  have e5 : portsB ((fwC ws wh.length).parts.map PartV.level) (fwC ws wh.length).ports = true := by kernel_rfl
  have e6 : allB (fwC ws wh.length).parts.length (fun i => codeMay (partAt (fwC ws wh.length).parts i).code) = true := by kernel_rfl
  unfold checkN
  rw [e2, e3, e5, e6]
  show (if frameB ((wh.length : Int) + 1) 1 = false then _ else if _ then _ else if _ then _ else if winsB ((wh.length : Int) + 1) 3 ws = false then _ else _) = _
  rw [e1, e4]
  simp
theorem Laid6.answer {ws : List WinV} {wh : List Int} (h : Laid6 ws wh) (hl : ws.length ≤ 32) (hw : wh.length ≤ 255) (T : Nat) (hT : T ≤ 1048575) :
    atE (fwC ws wh.length) T = 0 ∧ (wh ++ [-1])[T % (wh.length + 1)]? = some (atV (fwC ws wh.length) T) := by
  have ok : atOK (fwC ws wh.length) T = true := by unfold atOK; rw [h.check hl hw]; simp; omega
  unfold atE atV
  rw [if_pos ok, if_pos ok]
  refine ⟨rfl, ?_⟩
  show _ = some (ownerN ws ((T : Int) % ((wh.length : Int) + 1)))
  rw [show (T : Int) % ((wh.length : Int) + 1) = ((T % (wh.length + 1) : Nat) : Int) by rw [Int.natCast_emod]; norm_cast, h.own]
  have hm : T % (wh.length + 1) < wh.length + 1 := Nat.mod_lt _ (by omega)
  rcases (by omega : T % (wh.length + 1) < wh.length ∨ T % (wh.length + 1) = wh.length) with h' | h'
  · rw [List.getElem?_append_left h', List.getElem?_eq_getElem h']
    rfl
  · rw [h', List.getElem?_append_right (Nat.le_refl _), Nat.sub_self, List.getElem?_eq_none (Nat.le_refl _)]
    rfl
#print axioms Laid6.answer
end Go.Proofs.YtgaegggiehhcpabDoor
