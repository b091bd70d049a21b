/- What came in, opened: lists of whole numbers, and how much memory they take at most. -/
import Derived.Test.YtiffpmleeaenjaaNums
import Derived.OpenShut
import Derived.Deep.SlicePairs
import Derived.SizedLaws
namespace Go.Proofs.Ytiffpmleeaenjaa
open Go.RowKit Go.ChangeShapes Go.WideShapes

section
variable {H : Type} {enc : TypeId × Value → H} {W : World} {spare : Nat → Bool} {held : Bool}

/-- No string, slice or map in a datum takes more than what the form reaches. -/
def Small (P : Program) (t : TypeId) (d : DataW H) : Prop := ∀ n ∈ d.weights P t, n ≤ reachBytes
theorem weights_all {P : Program} {e : TypeId} {ds : List (DataW H)} {d : DataW H} (hd : d ∈ ds) {n : Nat} (hn : n ∈ d.weights P e) : n ∈ DataW.weightsAll P e ds := by
  induction ds with
  | nil => simp at hd
  | cons x xs ih =>
    simp only [DataW.weightsAll, List.mem_append]
    rcases List.mem_cons.1 hd with rfl | h
    · exact .inl hn
    · exact .inr (ih h)
theorem small_slice {P : Program} {t e : TypeId} {elems sp : List (DataW H)} (ht : P.underlying t = some (.slice e)) (h : Small P t (.slice elems sp)) : elems.length * P.bytesOf e ≤ reachBytes ∧ ∀ d ∈ elems, Small P e d := by
  unfold Small at h
  simp only [DataW.weights, ht, List.mem_cons, List.mem_append] at h
  refine ⟨?_, fun d hd n hn => h n (.inr (.inl (weights_all hd hn)))⟩
  have := h _ (.inl rfl)
  rw [Nat.add_mul] at this
  omega
theorem small_struct {P : Program} {t : TypeId} {fs : Array Field} {parts : List (DataW H)} (ht : P.underlying t = some (.struct fs)) (h : Small P t (.agg parts)) {j : Nat} {f : Field} {d : DataW H} (hf : fs[j]? = some f) (hd : parts[j]? = some d) : Small P f.type d := by
  intro n hn
  refine h n ?_
  simp only [DataW.weights, ht]
  exact DataW.weights_mem_each (by simp [hf]) hd n hn

/-- A row out of its elements' cells. -/
theorem rowAt_fn {α : Type} {S : Shape α} {a : Addr} {len cap : Nat} (hl : len ≤ cap) (hm : cap ≤ maxLen) (z : Nat → α) (hz : ∀ i, i < len → ∀ j u, (S.f (z i))[j]? = some u → W.cell? (a.add (i * S.k + j)) = some u) :
    RowAt S 0 W (.slice (some a) len cap) ((List.range len).map z) := by
  have hlen : ((List.range len).map z).length = len := by simp
  refine ⟨by rw [hlen]; unfold maxLen at hm; omega, some a, cap, by rw [hlen], fun h0 => ?_⟩
  rw [hlen] at h0 ⊢
  obtain ⟨b, off, spot⟩ := a
  have hspot : spot = none := by
    have hk : 0 < (S.f (z 0)).length := by rw [S.len]; exact S.pos
    simpa [Addr.add] using World.cell?_spot (hz 0 h0 0 _ (List.getElem?_eq_getElem hk))
  subst hspot
  refine ⟨b, off, rfl, ⟨Nat.zero_le _, hl⟩, fun i x hi j u hu => ?_⟩
  have hil : i < len := by
    have := (List.getElem?_eq_some_iff.1 hi).1
    omega
  rw [List.getElem?_map, List.getElem?_range hil] at hi
  simp only [Option.map_some, Option.some.injEq] at hi
  subst hi
  have := hz i hil j u hu
  rw [add_plain] at this
  rw [Nat.add_assoc]
  exact this
theorem int_open {n : Nat} {v : Value} {y : DataW H × List MemPlace} (h : DataW.trod enc Try.prog W 0 spare held n 3 [v] = some y) : ∃ z : Int, v = .int .i64 z := by
  obtain ⟨z, e, _, _⟩ := DataW.trod_int Try.underlying3 h
  simp only [List.cons.injEq, and_true] at e
  exact ⟨z, e⟩

theorem bytesN : Try.prog.bytesOf 3 = 8 := by kernel_rfl
theorem cells3 : Try.prog.cellsOf 3 = 1 := by kernel_rfl
theorem ints_open {n : Nat} {v : Value} {y : DataW H × List MemPlace} (h : DataW.trod enc Try.prog W 0 spare held n 22 [v] = some y) (hS : Small Try.prog 22 y.1) : ∃ zs, RowAt shN 0 W v zs ∧ zs.length * 8 ≤ reachBytes := by
  rcases Deep.open_slice Try.underlying22 h with h0 | ⟨a, len, cap, m, n', D, Pl, h0, -, hl, hm, hmm, rfl, hx⟩
  · have h1 := h0.1
    simp only [List.cons.injEq, and_true] at h1
    subst h1
    exact ⟨[], rowAt_nil _ _ _ _, by simp⟩
  · simp only [List.cons.injEq, and_true] at h0
    subst h0
    obtain ⟨hs1, -⟩ := small_slice Try.underlying22 hS
    rw [List.length_map, List.length_range, bytesN] at hs1
    have each : ∀ i, i < len → ∃ z : Int, ∀ j u, (shN.f z)[j]? = some u → W.cell? (a.add (i * 1 + j)) = some u := by
      intro i hi
      have hlm : len ≤ m := by rw [hmm]; split <;> omega
      obtain ⟨cs', h1, h2⟩ := hx i (by omega)
      rw [cells3] at h1
      obtain ⟨-, hlen, hcell⟩ := World.cells?_some h1
      obtain ⟨z, e, _, _⟩ := DataW.trod_int Try.underlying3 h2
      refine ⟨z, fun j u hu => ?_⟩
      match j, hu with
      | 0, hu =>
        cases hu
        have := hcell 0 (by omega)
        rw [Deep.add_add] at this
        rw [this, e]
        rfl
      | j + 1, hu => simp [shN] at hu
    have : Inhabited Int := ⟨0⟩
    obtain ⟨z, hz⟩ := Deep.choose_lt each
    exact ⟨_, rowAt_fn (S := shN) hl hm z hz, by simpa using hs1⟩
theorem small_of {P : Program} {ts : List TypeId} {ds : List (DataW H)} {j : Nat} {t : TypeId} {d : DataW H} (h : (DataW.weightsEach P ts ds).all (· ≤ reachBytes) = true) (ht : ts[j]? = some t) (hd : ds[j]? = some d) : Small P t d := fun n hn => by
  have := List.all_eq_true.1 h n (DataW.weights_mem_each ht hd n hn)
  simpa using this
end
#print axioms ints_open
end Go.Proofs.Ytiffpmleeaenjaa
