/- What came in, opened: lists of jobs and of whole numbers, a job, and how much memory they take at most. -/
import Derived.Test.YtabnkmghgkmbmaaMdat
import Derived.Test.YtabnkmghgkmbmaaNums
import Derived.OpenShut
import Derived.Deep.SlicePairs
import Derived.SizedLaws
namespace Go.Proofs.Ytabnkmghgkmbmaa
open Go.RowKit Go.ChangeShapes Go.WideShapes

section
variable {H : Type} {enc : TypeId × Value → H} {W : World} {spare : Nat → Bool} {held : Bool}

/-- No string, slice or map in a datum takes more than what the form reaches. -/
def Small (P : Program) (t : TypeId) (d : DataW H) : Prop := ∀ n ∈ d.weights P t, n ≤ reachBytes
theorem weights_all {P : Program} {e : TypeId} {ds : List (DataW H)} {d : DataW H} (hd : d ∈ ds) {n : Nat} (hn : n ∈ d.weights P e) : n ∈ DataW.weightsAll P e ds := by
  induction ds with
  | nil => simp at hd
  | cons x xs ih =>
    simp only [DataW.weightsAll, List.mem_append]
    rcases List.mem_cons.1 hd with rfl | h
    · exact .inl hn
    · exact .inr (ih h)
theorem small_slice {P : Program} {t e : TypeId} {elems sp : List (DataW H)} (ht : P.underlying t = some (.slice e)) (h : Small P t (.slice elems sp)) : elems.length * P.bytesOf e ≤ reachBytes ∧ ∀ d ∈ elems, Small P e d := by
  unfold Small at h
  simp only [DataW.weights, ht, List.mem_cons, List.mem_append] at h
  refine ⟨?_, fun d hd n hn => h n (.inr (.inl (weights_all hd hn)))⟩
  have := h _ (.inl rfl)
  rw [Nat.add_mul] at this
  omega
theorem small_struct {P : Program} {t : TypeId} {fs : Array Field} {parts : List (DataW H)} (ht : P.underlying t = some (.struct fs)) (h : Small P t (.agg parts)) {j : Nat} {f : Field} {d : DataW H} (hf : fs[j]? = some f) (hd : parts[j]? = some d) : Small P f.type d := by
  intro n hn
  refine h n ?_
  simp only [DataW.weights, ht]
  exact DataW.weights_mem_each (by simp [hf]) hd n hn

/-- A row out of its elements' cells. -/
theorem rowAt_fn {α : Type} {S : Shape α} {a : Addr} {len cap : Nat} (hl : len ≤ cap) (hm : cap ≤ maxLen) (z : Nat → α) (hz : ∀ i, i < len → ∀ j u, (S.f (z i))[j]? = some u → W.cell? (a.add (i * S.k + j)) = some u) :
    RowAt S 0 W (.slice (some a) len cap) ((List.range len).map z) := by
  have hlen : ((List.range len).map z).length = len := by simp
  refine ⟨by rw [hlen]; unfold maxLen at hm; omega, some a, cap, by rw [hlen], fun h0 => ?_⟩
  rw [hlen] at h0 ⊢
  obtain ⟨b, off, spot⟩ := a
  have hspot : spot = none := by
    have hk : 0 < (S.f (z 0)).length := by rw [S.len]; exact S.pos
    simpa [Addr.add] using World.cell?_spot (hz 0 h0 0 _ (List.getElem?_eq_getElem hk))
  subst hspot
  refine ⟨b, off, rfl, ⟨Nat.zero_le _, hl⟩, fun i x hi j u hu => ?_⟩
  have hil : i < len := by
    have := (List.getElem?_eq_some_iff.1 hi).1
    omega
  rw [List.getElem?_map, List.getElem?_range hil] at hi
  simp only [Option.map_some, Option.some.injEq] at hi
  subst hi
  have := hz i hil j u hu
  rw [add_plain] at this
  rw [Nat.add_assoc]
  exact this
theorem int_open {n : Nat} {v : Value} {y : DataW H × List MemPlace} (h : DataW.trod enc Try.prog W 0 spare held n 3 [v] = some y) : ∃ z : Int, v = .int .i64 z := by
  obtain ⟨z, e, _, _⟩ := DataW.trod_int Try.underlying3 h
  simp only [List.cons.injEq, and_true] at e
  exact ⟨z, e⟩

theorem bytesN : Try.prog.bytesOf 3 = 8 := by kernel_rfl
theorem cells3 : Try.prog.cellsOf 3 = 1 := by kernel_rfl
theorem cellsJ : Try.prog.cellsOf 23 = 7 := by kernel_rfl
theorem bytesJ : Try.prog.bytesOf 23 = 56 := by kernel_rfl
theorem ints_open {n : Nat} {v : Value} {y : DataW H × List MemPlace} (h : DataW.trod enc Try.prog W 0 spare held n 58 [v] = some y) (hS : Small Try.prog 58 y.1) : ∃ zs, RowAt shN 0 W v zs ∧ zs.length * 8 ≤ reachBytes := by
  rcases Deep.open_slice Try.underlying58 h with h0 | ⟨a, len, cap, m, n', D, Pl, h0, -, hl, hm, hmm, rfl, hx⟩
  · have h1 := h0.1
    simp only [List.cons.injEq, and_true] at h1
    subst h1
    exact ⟨[], rowAt_nil _ _ _ _, by simp⟩
  · simp only [List.cons.injEq, and_true] at h0
    subst h0
    obtain ⟨hs1, -⟩ := small_slice Try.underlying58 hS
    rw [List.length_map, List.length_range, bytesN] at hs1
    have each : ∀ i, i < len → ∃ z : Int, ∀ j u, (shN.f z)[j]? = some u → W.cell? (a.add (i * 1 + j)) = some u := by
      intro i hi
      have hlm : len ≤ m := by rw [hmm]; split <;> omega
      obtain ⟨cs', h1, h2⟩ := hx i (by omega)
      rw [cells3] at h1
      obtain ⟨-, hlen, hcell⟩ := World.cells?_some h1
      obtain ⟨z, e, _, _⟩ := DataW.trod_int Try.underlying3 h2
      refine ⟨z, fun j u hu => ?_⟩
      match j, hu with
      | 0, hu =>
        cases hu
        have := hcell 0 (by omega)
        rw [Deep.add_add] at this
        rw [this, e]
        rfl
      | j + 1, hu => simp [shN] at hu
    have : Inhabited Int := ⟨0⟩
    obtain ⟨z, hz⟩ := Deep.choose_lt each
    exact ⟨_, rowAt_fn (S := shN) hl hm z hz, by simpa using hs1⟩
theorem job_open {r : Reach} {base n : Nat} {v : Value} {y : DataW H × List MemPlace} (hv : Value.okWide Try.prog W r base 23 v) (h : DataW.trod enc Try.prog W 0 spare held n 23 v.cells.toList = some y) : ∃ t, v = jobVal t := by
  obtain ⟨cs, rfl, hsz⟩ := okWide_struct Try.underlying23 hv
  rw [cellsJ] at hsz
  have hcs : (Value.agg cs).cells.toList = cs.toList := rfl
  rw [hcs] at h
  obtain ⟨xs, m, -, hxy, -, hxl, hf⟩ := DataW.trod_struct Try.underlying23 h
  obtain ⟨l⟩ := cs
  match l, hsz, xs, hxl with
  | [u0, u1, u2, u3, u4, u5, u6], _, [y0, y1, y2, y3, y4, y5, y6], _ =>
    have g0 := hf 0 _ rfl
    have g1 := hf 1 _ rfl
    have g2 := hf 2 _ rfl
    have g3 := hf 3 _ rfl
    have g4 := hf 4 _ rfl
    have g5 := hf 5 _ rfl
    have g6 := hf 6 _ rfl
    simp [cells3] at g0 g1 g2 g3 g4 g5 g6
    obtain ⟨z0, rfl⟩ := int_open g0
    obtain ⟨z1, rfl⟩ := int_open g1
    obtain ⟨z2, rfl⟩ := int_open g2
    obtain ⟨z3, rfl⟩ := int_open g3
    obtain ⟨z4, rfl⟩ := int_open g4
    obtain ⟨z5, rfl⟩ := int_open g5
    obtain ⟨z6, rfl⟩ := int_open g6
    exact ⟨⟨z0, z1, z2, z3, z4, z5, z6⟩, rfl⟩
theorem cellsT : Try.prog.cellsOf 25 = 6 := by kernel_rfl
/-- A task that came in. -/
theorem task_open {r : Reach} {base n : Nat} {v : Value} {y : DataW H × List MemPlace} (hv : Value.okWide Try.prog W r base 25 v) (h : DataW.trod enc Try.prog W 0 spare held n 25 v.cells.toList = some y) : ∃ t, v = taskVal t := by
  obtain ⟨cs, rfl, hsz⟩ := okWide_struct Try.underlying25 hv
  rw [cellsT] at hsz
  have hcs : (Value.agg cs).cells.toList = cs.toList := rfl
  rw [hcs] at h
  obtain ⟨xs, m, -, hxy, -, hxl, hf⟩ := DataW.trod_struct Try.underlying25 h
  obtain ⟨l⟩ := cs
  match l, hsz, xs, hxl with
  | [u0, u1, u2, u3, u4, u5], _, [y0, y1, y2, y3, y4, y5], _ =>
    have g0 := hf 0 _ rfl
    have g1 := hf 1 _ rfl
    have g2 := hf 2 _ rfl
    have g3 := hf 3 _ rfl
    have g4 := hf 4 _ rfl
    have g5 := hf 5 _ rfl
    simp [cells3] at g0 g1 g2 g3 g4 g5
    obtain ⟨z0, rfl⟩ := int_open g0
    obtain ⟨z1, rfl⟩ := int_open g1
    obtain ⟨z2, rfl⟩ := int_open g2
    obtain ⟨z3, rfl⟩ := int_open g3
    obtain ⟨z4, rfl⟩ := int_open g4
    obtain ⟨z5, rfl⟩ := int_open g5
    exact ⟨⟨z0, z1, z2, z3, z4, z5⟩, rfl⟩
/-- A slice of structs of one-cell fields, each field of each element. -/
theorem elem_open {t e : TypeId} {fs : Array Field} {k fuel : Nat} {cs : List Value} {x : DataW H × List MemPlace} (ht : Try.prog.underlying t = some (.slice e)) (he : Try.prog.underlying e = some (.struct fs)) (ce : Try.prog.cellsOf e = k)
    (h : DataW.trod enc Try.prog W 0 spare held fuel t cs = some x) (hS : Small Try.prog t x.1) :
    cs = [.slice none 0 0] ∨ ∃ a len cap, cs = [.slice (some a) len cap] ∧ len ≤ cap ∧ cap ≤ maxLen ∧ len * Try.prog.bytesOf e ≤ reachBytes ∧
      ∀ i, i < len → ∀ (j : Nat) (f : Field), fs[j]? = some f → f.offset = j → Try.prog.cellsOf f.type = 1 → j < k → ∃ v n y, W.cell? (a.add (i * k + j)) = some v ∧ DataW.trod enc Try.prog W 0 spare held n f.type [v] = some y ∧ Small Try.prog f.type y.1 := by
  rcases Deep.open_slice ht h with h0 | ⟨a, len, cap, m, n, D, Pl, rfl, -, hl, hm, hmm, rfl, hx⟩
  · exact .inl h0.1
  obtain ⟨hs1, hs2⟩ := small_slice ht hS
  rw [List.length_map, List.length_range] at hs1
  refine .inr ⟨a, len, cap, rfl, hl, hm, hs1, fun i hi j f hf ho hc hj => ?_⟩
  have hlm : len ≤ m := by rw [hmm]; split <;> omega
  obtain ⟨cs', h1, h2⟩ := hx i (by omega)
  have hs3 := hs2 (D i) (List.mem_map.2 ⟨i, List.mem_range.2 hi, rfl⟩)
  rw [ce] at h1
  obtain ⟨-, hlen, hcell⟩ := World.cells?_some h1
  obtain ⟨xs, n', -, hxs, -, hxl, hfs⟩ := DataW.trod_struct he h2
  have h3 := hfs j f hf
  have hjs : j < fs.size := (Array.getElem?_eq_some_iff.1 hf).1
  obtain ⟨y, hy⟩ : ∃ y, xs[j]? = some y := ⟨_, List.getElem?_eq_getElem (by omega)⟩
  obtain ⟨v, hv⟩ : ∃ v, cs'[j]? = some v := ⟨_, List.getElem?_eq_getElem (by omega)⟩
  have hd : (cs'.drop j).take 1 = [v] := by
    obtain ⟨hj', e'⟩ := List.getElem?_eq_some_iff.1 hv
    rw [List.drop_eq_getElem_cons hj', e']
    rfl
  rw [ho, hc, hd, hy] at h3
  have hD : D i = .agg (xs.map (·.1)) := congrArg Prod.fst hxs
  rw [hD] at hs3
  refine ⟨v, n', y, ?_, h3, small_struct he hs3 hf (by simp [hy])⟩
  rw [← Deep.add_add, hcell j hj, hv]

theorem jobs_open {n : Nat} {v : Value} {y : DataW H × List MemPlace} (h : DataW.trod enc Try.prog W 0 spare held n 46 [v] = some y) (hS : Small Try.prog 46 y.1) : ∃ js, RowAt shJ 0 W v js ∧ js.length * 56 ≤ reachBytes := by
  rcases elem_open Try.underlying46 Try.underlying23 cellsJ h hS with h0 | ⟨a, len, cap, h0, hl, hm, hb, hx⟩
  · simp only [List.cons.injEq, and_true] at h0
    subst h0
    exact ⟨[], rowAt_nil _ _ _ _, by simp⟩
  · simp only [List.cons.injEq, and_true] at h0
    subst h0
    have each : ∀ i, i < len → ∃ t : JobV, ∀ j u, (shJ.f t)[j]? = some u → W.cell? (a.add (i * 7 + j)) = some u := by
      intro i hi
      obtain ⟨v0, n0, y0, c0, t0, _⟩ := hx i hi 0 _ rfl rfl cells3 (by decide)
      obtain ⟨v1, n1, y1, c1, t1, _⟩ := hx i hi 1 _ rfl rfl cells3 (by decide)
      obtain ⟨v2, n2, y2, c2, t2, _⟩ := hx i hi 2 _ rfl rfl cells3 (by decide)
      obtain ⟨v3, n3, y3, c3, t3, _⟩ := hx i hi 3 _ rfl rfl cells3 (by decide)
      obtain ⟨v4, n4, y4, c4, t4, _⟩ := hx i hi 4 _ rfl rfl cells3 (by decide)
      obtain ⟨v5, n5, y5, c5, t5, _⟩ := hx i hi 5 _ rfl rfl cells3 (by decide)
      obtain ⟨v6, n6, y6, c6, t6, _⟩ := hx i hi 6 _ rfl rfl cells3 (by decide)
      obtain ⟨z0, rfl⟩ := int_open t0
      obtain ⟨z1, rfl⟩ := int_open t1
      obtain ⟨z2, rfl⟩ := int_open t2
      obtain ⟨z3, rfl⟩ := int_open t3
      obtain ⟨z4, rfl⟩ := int_open t4
      obtain ⟨z5, rfl⟩ := int_open t5
      obtain ⟨z6, rfl⟩ := int_open t6
      refine ⟨⟨z0, z1, z2, z3, z4, z5, z6⟩, fun j u hu => ?_⟩
      match j, hu with
      | 0, hu => cases hu; exact c0
      | 1, hu => cases hu; exact c1
      | 2, hu => cases hu; exact c2
      | 3, hu => cases hu; exact c3
      | 4, hu => cases hu; exact c4
      | 5, hu => cases hu; exact c5
      | 6, hu => cases hu; exact c6
      | j + 7, hu => exact absurd hu (by simp [shJ, jobC])
    have : Inhabited JobV := ⟨jz⟩
    obtain ⟨z, hz⟩ := Deep.choose_lt each
    rw [bytesJ] at hb
    exact ⟨_, rowAt_fn (S := shJ) hl hm z (fun i hi => hz i hi), by simpa using hb⟩
theorem small_of {P : Program} {ts : List TypeId} {ds : List (DataW H)} {j : Nat} {t : TypeId} {d : DataW H} (h : (DataW.weightsEach P ts ds).all (· ≤ reachBytes) = true) (ht : ts[j]? = some t) (hd : ds[j]? = some d) : Small P t d := fun n hn => by
  have := List.all_eq_true.1 h n (DataW.weights_mem_each ht hd n hn)
  simpa using this
end
#print axioms jobs_open
end Go.Proofs.Ytabnkmghgkmbmaa
