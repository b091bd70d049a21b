/- From the rows' list to the walks' premise: the table of operations as its initialiser lays it. What came in, opened: a whole configuration, and how much memory its lists take at most. What came in, opened: whole numbers alone need nothing here; the table of operations is Laid's. -/
import Derived.Test.YtlppfocoonnpjaaGreatDoorQa
import Derived.LaidLaws
import Derived.OpenShut
import Derived.ChangeSame
import Derived.Lib.LaidTab
import Derived.Deep.SlicePairs
import Derived.SizedLaws

namespace Go.Proofs.YtlppfocoonnpjaaGreatDoor
open Go.RowKit Go.ChangeShapes Go.WideShapes

def opList : List (List UInt8 × Int) := [([110, 111, 112], 1), ([99, 111, 110, 115, 116], 256), ([108, 111, 97, 100], 16), ([115, 116, 111, 114, 101], 16), ([97, 100, 100], 16), ([115, 117, 98], 16), ([106, 117, 109, 112], -1), ([122, 101, 114, 111], -1), ([105, 110], 1), ([111, 117, 116], 8), ([103, 101, 116], 8), ([104, 97, 108, 116], 1)]
theorem laid_eq : (Rows.laid_nocturn_code_operations : DataW Unit) = .agg (opList.map fun x => .agg [.lit (.string x.1), .lit (.int .i64 x.2)]) := rfl
theorem opList_at (j : Nat) (h : j < 12) : ∃ x, opList[j]? = some x ∧ x.1 ≠ [] ∧ x.2 = opBelow j := by
  have hall : ((List.range 12).all fun j => match opList[j]? with | some x => x.1 != [] && x.2 == opBelow j | none => false) = true := by decide
  have := List.all_eq_true.1 hall j (List.mem_range.2 h)
  cases hx : opList[j]? with
  | none => rw [hx] at this; cases this
  | some x =>
    rw [hx] at this
    simp only [Bool.and_eq_true, bne_iff_ne, beq_iff_eq] at this
    exact ⟨x, rfl, this.1, this.2⟩
theorem gTab : Tryz.prog.globalNamed "nocturn/code.operations" = some 0 := by kernel_rfl
theorem gTabType : (Tryz.prog.globals[0]?).map (·.type) = some 191 := by kernel_rfl
theorem cells130 : Tryz.prog.cellsOf 190 = 2 := by kernel_rfl
theorem cells9 : Tryz.prog.cellsOf 9 = 1 := by kernel_rfl
theorem cells3 : Tryz.prog.cellsOf 3 = 1 := by kernel_rfl

theorem tab_of_laid {W : World} (h : laidMetH Tryz.prog [("nocturn/code.operations", Rows.laid_nocturn_code_operations)] W) : Tab W := by
  have h' : laidMet Tryz.prog [("nocturn/code.operations", Rows.laid_nocturn_code_operations)] W := h
  obtain ⟨ps, ⟨g', t', cs, fuel, p, q, hg', ht', hvar, hd, _, _⟩, _⟩ := h'
  obtain rfl := Option.some.inj (gTab.symm.trans hg')
  obtain rfl := Option.some.inj (gTabType.symm.trans ht')
  rw [laid_eq] at hd
  obtain ⟨xs, m, rfl, hx, hl, hxl, hall⟩ := DataW.trod_array Tryz.underlying191 hd
  intro j hj
  have he := hall j hj
  obtain ⟨y, hy⟩ : ∃ y, xs[j]? = some y := ⟨xs[j]'(by omega), List.getElem?_eq_getElem (by omega)⟩
  rw [hy, cells130] at he
  obtain ⟨y0, y1, n, rfl, _, h0, h1⟩ := trod_struct2 Tryz.underlying190 he
  obtain ⟨s, hcs, rfl, _⟩ := DataW.trod_string Tryz.underlying9 h0
  obtain ⟨z, hcz, rfl, _⟩ := DataW.trod_int Tryz.underlying3 h1
  obtain ⟨x, hxo, hne, hbe⟩ := opList_at j hj
  have e := congrArg (fun d : DataW Unit × List MemPlace => match d.1 with | .agg l => l[j]? | _ => none) hx
  simp only [List.getElem?_map, hxo, hy, Option.map_some, Option.some.injEq, DataW.agg.injEq, List.cons.injEq, DataW.lit.injEq, Lit.string.injEq, Lit.int.injEq, true_and, and_true] at e
  have c0 := congrArg (·[0]?) hcs
  have c1 := congrArg (·[0]?) hcz
  simp [cells9, cells3, List.getElem?_drop] at c0 c1
  refine ⟨s, ?_, ?_, ?_⟩
  · rw [ByteArray.toList_eq, ← e.1]
    exact hne
  · rw [World.var?_cell hg' hvar (j * 2), ← Array.getElem?_toList]
    simpa using c0
  · rw [World.var?_cell hg' hvar (j * 2 + 1), ← Array.getElem?_toList, ← hbe, e.2]
    simpa using c1
end Go.Proofs.YtlppfocoonnpjaaGreatDoor

namespace Go.Proofs.YtlppfocoonnpjaaGreatDoor
open Go.RowKit Go.ChangeShapes Go.WideShapes

section
variable {H : Type} {enc : TypeId × Value → H} {W : World} {spare : Nat → Bool} {held : Bool}

/-- No string, slice or map in a datum takes more than what the form reaches. -/
def Small (P : Program) (t : TypeId) (d : DataW H) : Prop := ∀ n ∈ d.weights P t, n ≤ reachBytes
theorem weights_all {P : Program} {e : TypeId} {ds : List (DataW H)} {d : DataW H} (hd : d ∈ ds) {n : Nat} (hn : n ∈ d.weights P e) : n ∈ DataW.weightsAll P e ds := by
  induction ds with
  | nil => simp at hd
  | cons x xs ih =>
    simp only [DataW.weightsAll, List.mem_append]
    rcases List.mem_cons.1 hd with rfl | h
    · exact .inl hn
    · exact .inr (ih h)
theorem small_slice {P : Program} {t e : TypeId} {elems sp : List (DataW H)} (ht : P.underlying t = some (.slice e)) (h : Small P t (.slice elems sp)) : elems.length * P.bytesOf e ≤ reachBytes ∧ ∀ d ∈ elems, Small P e d := by
  unfold Small at h
  simp only [DataW.weights, ht, List.mem_cons, List.mem_append] at h
  refine ⟨?_, fun d hd n hn => h n (.inr (.inl (weights_all hd hn)))⟩
  have := h _ (.inl rfl)
  rw [Nat.add_mul] at this
  omega
theorem small_struct {P : Program} {t : TypeId} {fs : Array Field} {parts : List (DataW H)} (ht : P.underlying t = some (.struct fs)) (h : Small P t (.agg parts)) {j : Nat} {f : Field} {d : DataW H} (hf : fs[j]? = some f) (hd : parts[j]? = some d) : Small P f.type d := by
  intro n hn
  refine h n ?_
  simp only [DataW.weights, ht]
  exact DataW.weights_mem_each (by simp [hf]) hd n hn

/-- A slice of structs of one-cell fields, each field of each element. -/
theorem elem_open {t e : TypeId} {fs : Array Field} {k fuel : Nat} {cs : List Value} {x : DataW H × List MemPlace} (ht : Tryz.prog.underlying t = some (.slice e)) (he : Tryz.prog.underlying e = some (.struct fs)) (ce : Tryz.prog.cellsOf e = k)
    (h : DataW.trod enc Tryz.prog W 0 spare held fuel t cs = some x) (hS : Small Tryz.prog t x.1) :
    cs = [.slice none 0 0] ∨ ∃ a len cap, cs = [.slice (some a) len cap] ∧ len ≤ cap ∧ cap ≤ maxLen ∧ len * Tryz.prog.bytesOf e ≤ reachBytes ∧
      ∀ i, i < len → ∀ (j : Nat) (f : Field), fs[j]? = some f → f.offset = j → Tryz.prog.cellsOf f.type = 1 → j < k → ∃ v n y, W.cell? (a.add (i * k + j)) = some v ∧ DataW.trod enc Tryz.prog W 0 spare held n f.type [v] = some y ∧ Small Tryz.prog f.type y.1 := by
  rcases Deep.open_slice ht h with h0 | ⟨a, len, cap, m, n, D, Pl, rfl, -, hl, hm, hmm, rfl, hx⟩
  · exact .inl h0.1
  obtain ⟨hs1, hs2⟩ := small_slice ht hS
  rw [List.length_map, List.length_range] at hs1
  refine .inr ⟨a, len, cap, rfl, hl, hm, hs1, fun i hi j f hf ho hc hj => ?_⟩
  have hlm : len ≤ m := by rw [hmm]; split <;> omega
  obtain ⟨cs', h1, h2⟩ := hx i (by omega)
  have hs3 := hs2 (D i) (List.mem_map.2 ⟨i, List.mem_range.2 hi, rfl⟩)
  rw [ce] at h1
  obtain ⟨-, hlen, hcell⟩ := World.cells?_some h1
  obtain ⟨xs, n', -, hxs, -, hxl, hfs⟩ := DataW.trod_struct he h2
  have h3 := hfs j f hf
  have hjs : j < fs.size := (Array.getElem?_eq_some_iff.1 hf).1
  obtain ⟨y, hy⟩ : ∃ y, xs[j]? = some y := ⟨_, List.getElem?_eq_getElem (by omega)⟩
  obtain ⟨v, hv⟩ : ∃ v, cs'[j]? = some v := ⟨_, List.getElem?_eq_getElem (by omega)⟩
  have hd : (cs'.drop j).take 1 = [v] := by
    obtain ⟨hj', e'⟩ := List.getElem?_eq_some_iff.1 hv
    rw [List.drop_eq_getElem_cons hj', e']
    rfl
  rw [ho, hc, hd, hy] at h3
  have hD : D i = .agg (xs.map (·.1)) := congrArg Prod.fst hxs
  rw [hD] at hs3
  refine ⟨v, n', y, ?_, h3, small_struct he hs3 hf (by simp [hy])⟩
  rw [← Deep.add_add, hcell j hj, hv]

/-- A row out of its elements' cells. -/
theorem rowAt_fn {α : Type} {S : Shape α} {a : Addr} {len cap : Nat} (hl : len ≤ cap) (hm : cap ≤ maxLen) (z : Nat → α) (hz : ∀ i, i < len → ∀ j u, (S.f (z i))[j]? = some u → W.cell? (a.add (i * S.k + j)) = some u) :
    RowAt S 0 W (.slice (some a) len cap) ((List.range len).map z) := by
  have hlen : ((List.range len).map z).length = len := by simp
  refine ⟨by rw [hlen]; unfold maxLen at hm; omega, some a, cap, by rw [hlen], fun h0 => ?_⟩
  rw [hlen] at h0 ⊢
  obtain ⟨b, off, spot⟩ := a
  have hspot : spot = none := by
    have hk : 0 < (S.f (z 0)).length := by rw [S.len]; exact S.pos
    simpa [Addr.add] using World.cell?_spot (hz 0 h0 0 _ (List.getElem?_eq_getElem hk))
  subst hspot
  refine ⟨b, off, rfl, ⟨Nat.zero_le _, hl⟩, fun i x hi j u hu => ?_⟩
  have hil : i < len := by
    have := (List.getElem?_eq_some_iff.1 hi).1
    omega
  rw [List.getElem?_map, List.getElem?_range hil] at hi
  simp only [Option.map_some, Option.some.injEq] at hi
  subst hi
  have := hz i hil j u hu
  rw [add_plain] at this
  rw [Nat.add_assoc]
  exact this
theorem int_open {n : Nat} {v : Value} {y : DataW H × List MemPlace} (h : DataW.trod enc Tryz.prog W 0 spare held n 3 [v] = some y) : ∃ z : Int, v = .int .i64 z := by
  obtain ⟨z, e, _, _⟩ := DataW.trod_int Tryz.underlying3 h
  simp only [List.cons.injEq, and_true] at e
  exact ⟨z, e⟩

theorem cells86 : Tryz.prog.cellsOf 86 = 1 := by kernel_rfl
theorem cells87 : Tryz.prog.cellsOf 87 = 1 := by kernel_rfl
theorem cells88 : Tryz.prog.cellsOf 88 = 1 := by kernel_rfl
theorem cells22 : Tryz.prog.cellsOf 22 = 1 := by kernel_rfl
theorem cells23 : Tryz.prog.cellsOf 23 = 1 := by kernel_rfl
theorem cells25 : Tryz.prog.cellsOf 25 = 3 := by kernel_rfl
theorem cells73 : Tryz.prog.cellsOf 73 = 6 := by kernel_rfl
theorem cells146 : Tryz.prog.cellsOf 146 = 3 := by kernel_rfl
theorem cells148 : Tryz.prog.cellsOf 148 = 4 := by kernel_rfl
theorem cells144 : Tryz.prog.cellsOf 144 = 2 := by kernel_rfl
theorem bytes25 : Tryz.prog.bytesOf 25 = 56 := by kernel_rfl
theorem bytes73 : Tryz.prog.bytesOf 73 = 48 := by kernel_rfl
theorem bytes146 : Tryz.prog.bytesOf 146 = 24 := by kernel_rfl
theorem bytes148 : Tryz.prog.bytesOf 148 = 32 := by kernel_rfl
theorem bytes144 : Tryz.prog.bytesOf 144 = 16 := by kernel_rfl

theorem tasks_open {n : Nat} {v : Value} {y : DataW H × List MemPlace} (h : DataW.trod enc Tryz.prog W 0 spare held n 22 [v] = some y) (hS : Small Tryz.prog 22 y.1) : ∃ ts, RowAt shT 0 W v ts ∧ ts.length * 48 ≤ reachBytes := by
  rcases elem_open Tryz.underlying22 Tryz.underlying73 cells73 h hS with h0 | ⟨a, len, cap, h0, hl, hm, hb, hx⟩
  · simp only [List.cons.injEq, and_true] at h0
    subst h0
    exact ⟨[], rowAt_nil _ _ _ _, by simp⟩
  · simp only [List.cons.injEq, and_true] at h0
    subst h0
    have each : ∀ i, i < len → ∃ t : TaskV, ∀ j u, (shT.f t)[j]? = some u → W.cell? (a.add (i * 6 + j)) = some u := by
      intro i hi
      obtain ⟨v0, n0, y0, c0, t0, _⟩ := hx i hi 0 _ rfl rfl cells3 (by decide)
      obtain ⟨v1, n1, y1, c1, t1, _⟩ := hx i hi 1 _ rfl rfl cells3 (by decide)
      obtain ⟨v2, n2, y2, c2, t2, _⟩ := hx i hi 2 _ rfl rfl cells3 (by decide)
      obtain ⟨v3, n3, y3, c3, t3, _⟩ := hx i hi 3 _ rfl rfl cells3 (by decide)
      obtain ⟨v4, n4, y4, c4, t4, _⟩ := hx i hi 4 _ rfl rfl cells3 (by decide)
      obtain ⟨v5, n5, y5, c5, t5, _⟩ := hx i hi 5 _ rfl rfl cells3 (by decide)
      obtain ⟨z0, rfl⟩ := int_open t0
      obtain ⟨z1, rfl⟩ := int_open t1
      obtain ⟨z2, rfl⟩ := int_open t2
      obtain ⟨z3, rfl⟩ := int_open t3
      obtain ⟨z4, rfl⟩ := int_open t4
      obtain ⟨z5, rfl⟩ := int_open t5
      refine ⟨⟨z0, z1, z2, z3, z4, z5⟩, fun j u hu => ?_⟩
      match j, hu with
      | 0, hu => cases hu; exact c0
      | 1, hu => cases hu; exact c1
      | 2, hu => cases hu; exact c2
      | 3, hu => cases hu; exact c3
      | 4, hu => cases hu; exact c4
      | 5, hu => cases hu; exact c5
      | j + 6, hu => exact absurd hu (by simp [shT, taskC])
    have : Inhabited TaskV := ⟨⟨0, 0, 0, 0, 0, 0⟩⟩
    obtain ⟨z, hz⟩ := Deep.choose_lt each
    rw [bytes73] at hb
    exact ⟨_, rowAt_fn (S := shT) hl hm z hz, by simpa using hb⟩
theorem wins_open {n : Nat} {v : Value} {y : DataW H × List MemPlace} (h : DataW.trod enc Tryz.prog W 0 spare held n 87 [v] = some y) (hS : Small Tryz.prog 87 y.1) : ∃ ts, RowAt shW 0 W v ts ∧ ts.length * 24 ≤ reachBytes := by
  rcases elem_open Tryz.underlying87 Tryz.underlying146 cells146 h hS with h0 | ⟨a, len, cap, h0, hl, hm, hb, hx⟩
  · simp only [List.cons.injEq, and_true] at h0
    subst h0
    exact ⟨[], rowAt_nil _ _ _ _, by simp⟩
  · simp only [List.cons.injEq, and_true] at h0
    subst h0
    have each : ∀ i, i < len → ∃ t : WinV, ∀ j u, (shW.f t)[j]? = some u → W.cell? (a.add (i * 3 + j)) = some u := by
      intro i hi
      obtain ⟨v0, n0, y0, c0, t0, _⟩ := hx i hi 0 _ rfl rfl cells3 (by decide)
      obtain ⟨v1, n1, y1, c1, t1, _⟩ := hx i hi 1 _ rfl rfl cells3 (by decide)
      obtain ⟨v2, n2, y2, c2, t2, _⟩ := hx i hi 2 _ rfl rfl cells3 (by decide)
      obtain ⟨z0, rfl⟩ := int_open t0
      obtain ⟨z1, rfl⟩ := int_open t1
      obtain ⟨z2, rfl⟩ := int_open t2
      refine ⟨⟨z0, z1, z2⟩, fun j u hu => ?_⟩
      match j, hu with
      | 0, hu => cases hu; exact c0
      | 1, hu => cases hu; exact c1
      | 2, hu => cases hu; exact c2
      | j + 3, hu => exact absurd hu (by simp [shW, winC])
    have : Inhabited WinV := ⟨⟨0, 0, 0⟩⟩
    obtain ⟨z, hz⟩ := Deep.choose_lt each
    rw [bytes146] at hb
    exact ⟨_, rowAt_fn (S := shW) hl hm z hz, by simpa using hb⟩
theorem ports_open {n : Nat} {v : Value} {y : DataW H × List MemPlace} (h : DataW.trod enc Tryz.prog W 0 spare held n 88 [v] = some y) (hS : Small Tryz.prog 88 y.1) : ∃ ts, RowAt shO 0 W v ts ∧ ts.length * 32 ≤ reachBytes := by
  rcases elem_open Tryz.underlying88 Tryz.underlying148 cells148 h hS with h0 | ⟨a, len, cap, h0, hl, hm, hb, hx⟩
  · simp only [List.cons.injEq, and_true] at h0
    subst h0
    exact ⟨[], rowAt_nil _ _ _ _, by simp⟩
  · simp only [List.cons.injEq, and_true] at h0
    subst h0
    have each : ∀ i, i < len → ∃ t : PortV, ∀ j u, (shO.f t)[j]? = some u → W.cell? (a.add (i * 4 + j)) = some u := by
      intro i hi
      obtain ⟨v0, n0, y0, c0, t0, _⟩ := hx i hi 0 _ rfl rfl cells3 (by decide)
      obtain ⟨v1, n1, y1, c1, t1, _⟩ := hx i hi 1 _ rfl rfl cells3 (by decide)
      obtain ⟨v2, n2, y2, c2, t2, _⟩ := hx i hi 2 _ rfl rfl cells3 (by decide)
      obtain ⟨v3, n3, y3, c3, t3, _⟩ := hx i hi 3 _ rfl rfl cells3 (by decide)
      obtain ⟨z0, rfl⟩ := int_open t0
      obtain ⟨z1, rfl⟩ := int_open t1
      obtain ⟨z2, rfl⟩ := int_open t2
      obtain ⟨z3, rfl⟩ := int_open t3
      refine ⟨⟨z0, z1, z2, z3⟩, fun j u hu => ?_⟩
      match j, hu with
      | 0, hu => cases hu; exact c0
      | 1, hu => cases hu; exact c1
      | 2, hu => cases hu; exact c2
      | 3, hu => cases hu; exact c3
      | j + 4, hu => exact absurd hu (by simp [shO, portC])
    have : Inhabited PortV := ⟨⟨0, 0, 0, 0⟩⟩
    obtain ⟨z, hz⟩ := Deep.choose_lt each
    rw [bytes148] at hb
    exact ⟨_, rowAt_fn (S := shO) hl hm z hz, by simpa using hb⟩
theorem code_open {n : Nat} {v : Value} {y : DataW H × List MemPlace} (h : DataW.trod enc Tryz.prog W 0 spare held n 23 [v] = some y) (hS : Small Tryz.prog 23 y.1) : ∃ ts, RowAt shI 0 W v ts ∧ ts.length * 16 ≤ reachBytes := by
  rcases elem_open Tryz.underlying23 Tryz.underlying144 cells144 h hS with h0 | ⟨a, len, cap, h0, hl, hm, hb, hx⟩
  · simp only [List.cons.injEq, and_true] at h0
    subst h0
    exact ⟨[], rowAt_nil _ _ _ _, by simp⟩
  · simp only [List.cons.injEq, and_true] at h0
    subst h0
    have each : ∀ i, i < len → ∃ t : Ins, ∀ j u, (shI.f t)[j]? = some u → W.cell? (a.add (i * 2 + j)) = some u := by
      intro i hi
      obtain ⟨v0, n0, y0, c0, t0, _⟩ := hx i hi 0 _ rfl rfl cells3 (by decide)
      obtain ⟨v1, n1, y1, c1, t1, _⟩ := hx i hi 1 _ rfl rfl cells3 (by decide)
      obtain ⟨z0, rfl⟩ := int_open t0
      obtain ⟨z1, rfl⟩ := int_open t1
      refine ⟨(z0, z1), fun j u hu => ?_⟩
      match j, hu with
      | 0, hu => cases hu; exact c0
      | 1, hu => cases hu; exact c1
      | j + 2, hu => exact absurd hu (by simp [shI, insC])
    have : Inhabited Ins := ⟨(0, 0)⟩
    obtain ⟨z, hz⟩ := Deep.choose_lt each
    rw [bytes144] at hb
    exact ⟨_, rowAt_fn (S := shI) hl hm z hz, by simpa using hb⟩
/-- What a configuration's lists take at most. -/
structure Big (C : ConfV) : Prop where
  parts : C.parts.length * 56 ≤ reachBytes
  wins : C.wins.length * 24 ≤ reachBytes
  ports : C.ports.length * 32 ≤ reachBytes
  each : ∀ p ∈ C.parts, p.tasks.length * 48 ≤ reachBytes ∧ p.code.length * 16 ≤ reachBytes
theorem slice_open {t e : TypeId} {n : Nat} {v : Value} {y : DataW H × List MemPlace} (ht : Tryz.prog.underlying t = some (.slice e)) (h : DataW.trod enc Tryz.prog W 0 spare held n t [v] = some y) : ∃ a l c, v = .slice a l c := by
  rcases DataW.trod_slice ht h with ⟨h0, _⟩ | ⟨a, len, cap, _, _, _, _, h0, _⟩
  · simp only [List.cons.injEq, and_true] at h0; exact ⟨_, _, _, h0⟩
  · simp only [List.cons.injEq, and_true] at h0; exact ⟨_, _, _, h0⟩
theorem parts_open {n : Nat} {v : Value} {y : DataW H × List MemPlace} (h : DataW.trod enc Tryz.prog W 0 spare held n 86 [v] = some y) (hS : Small Tryz.prog 86 y.1) : ∃ ps, PartsAt 0 W v ps ∧ ps.length * 56 ≤ reachBytes ∧ ∀ p ∈ ps, p.tasks.length * 48 ≤ reachBytes ∧ p.code.length * 16 ≤ reachBytes := by
  rcases elem_open Tryz.underlying86 Tryz.underlying25 cells25 h hS with h0 | ⟨a, len, cap, h0, hl, hm, hb, hx⟩
  · simp only [List.cons.injEq, and_true] at h0
    subst h0
    exact ⟨[], ⟨[], rfl, rowAt_nil _ _ _ _, fun i q p hq => by simp at hq⟩, by simp, fun p hp => by simp at hp⟩
  · simp only [List.cons.injEq, and_true] at h0
    subst h0
    have each : ∀ i, i < len → ∃ qp : PartM × PartV, (∀ j u, (shP.f qp.1)[j]? = some u → W.cell? (a.add (i * 3 + j)) = some u) ∧ PartIs 0 W qp.1 qp.2 ∧ qp.2.tasks.length * 48 ≤ reachBytes ∧ qp.2.code.length * 16 ≤ reachBytes := by
      intro i hi
      obtain ⟨v0, n0, y0, c0, t0, _⟩ := hx i hi 0 _ rfl rfl cells3 (by decide)
      obtain ⟨v1, n1, y1, c1, t1, s1⟩ := hx i hi 1 _ rfl rfl cells22 (by decide)
      obtain ⟨v2, n2, y2, c2, t2, s2⟩ := hx i hi 2 _ rfl rfl cells23 (by decide)
      obtain ⟨z0, rfl⟩ := int_open t0
      obtain ⟨a1, l1, e1, rfl⟩ := slice_open Tryz.underlying22 t1
      obtain ⟨a2, l2, e2, rfl⟩ := slice_open Tryz.underlying23 t2
      obtain ⟨ts, r1, b1⟩ := tasks_open t1 s1
      obtain ⟨is, r2, b2⟩ := code_open t2 s2
      refine ⟨(⟨z0, a1, l1, e1, a2, l2, e2⟩, ⟨z0, ts, is⟩), fun j u hu => ?_, ⟨rfl, r1, r2⟩, b1, b2⟩
      match j, hu with
      | 0, hu => cases hu; exact c0
      | 1, hu => cases hu; exact c1
      | 2, hu => cases hu; exact c2
      | j + 3, hu => exact absurd hu (by simp [shP, partC])
    have : Inhabited (PartM × PartV) := ⟨(⟨0, none, 0, 0, none, 0, 0⟩, ⟨0, [], []⟩)⟩
    obtain ⟨z, hz⟩ := Deep.choose_lt each
    rw [bytes25] at hb
    refine ⟨(List.range len).map fun i => (z i).2, ⟨(List.range len).map fun i => (z i).1, by simp, rowAt_fn (S := shP) hl hm _ fun i hi => (hz i hi).1, ?_⟩, by simpa using hb, ?_⟩
    · intro i q p hq hp
      have hil : i < len := by
        have := (List.getElem?_eq_some_iff.1 hq).1
        simpa using this
      rw [List.getElem?_map, List.getElem?_range hil] at hq hp
      simp only [Option.map_some, Option.some.injEq] at hq hp
      subst hq hp
      exact (hz i hil).2.1
    · intro p hp
      obtain ⟨i, hi, rfl⟩ := List.mem_map.1 hp
      exact (hz i (List.mem_range.1 hi)).2.2
theorem cells90 : Tryz.prog.cellsOf 90 = 5 := by kernel_rfl
set_option maxRecDepth 10000 in
/-- A configuration that came in. -/
theorem conf_open {r : Reach} {base n : Nat} {v : Value} {y : DataW H × List MemPlace} (hv : Value.okWide Tryz.prog W r base 90 v) (h : DataW.trod enc Tryz.prog W 0 spare held n 90 v.cells.toList = some y) (hS : Small Tryz.prog 90 y.1) : ∃ C, ConfAt 0 W v C ∧ Big C := by
  obtain ⟨cs, rfl, hsz⟩ := okWide_struct Tryz.underlying90 hv
  rw [cells90] at hsz
  have hcs : (Value.agg cs).cells.toList = cs.toList := rfl
  rw [hcs] at h
  obtain ⟨xs, m, -, hxy, -, hxl, hf⟩ := DataW.trod_struct Tryz.underlying90 h
  obtain ⟨l⟩ := cs
  match l, hsz, xs, hxl with
  | [u0, u1, u2, u3, u4], _, [x0, x1, x2, x3, x4], _ =>
    have g0 := hf 0 _ rfl
    have g1 := hf 1 _ rfl
    have g2 := hf 2 _ rfl
    have g3 := hf 3 _ rfl
    have g4 := hf 4 _ rfl
    simp [cells3] at g0 g1
    simp [cells86] at g2
    simp [cells87] at g3
    simp [cells88] at g4
    have hy : y.1 = .agg ([x0, x1, x2, x3, x4].map (·.1)) := by rw [hxy]
    rw [hy] at hS
    obtain ⟨z0, rfl⟩ := int_open g0
    obtain ⟨z1, rfl⟩ := int_open g1
    obtain ⟨ps, h2, b2, e2⟩ := parts_open g2 (small_struct Tryz.underlying90 hS (j := 2) rfl rfl)
    obtain ⟨ws, h3, b3⟩ := wins_open g3 (small_struct Tryz.underlying90 hS (j := 3) rfl rfl)
    obtain ⟨os, h4, b4⟩ := ports_open g4 (small_struct Tryz.underlying90 hS (j := 4) rfl rfl)
    exact ⟨⟨z0, z1, ps, ws, os⟩, ⟨_, _, _, rfl, h2, h3, h4⟩, ⟨b2, b3, b4, e2⟩⟩
theorem small_of {P : Program} {ts : List TypeId} {ds : List (DataW H)} {j : Nat} {t : TypeId} {d : DataW H} (h : (DataW.weightsEach P ts ds).all (· ≤ reachBytes) = true) (ht : ts[j]? = some t) (hd : ds[j]? = some d) : Small P t d := fun n hn => by
  have := List.all_eq_true.1 h n (DataW.weights_mem_each ht hd n hn)
  simpa using this
end
end Go.Proofs.YtlppfocoonnpjaaGreatDoor

namespace Go.Proofs.YtlppfocoonnpjaaGreatDoor
theorem tab_laid {W : World} (h : laidMetH Tryz.prog [("nocturn/code.operations", Rows.laid_nocturn_code_operations)] W) : Tab W := tab_of_laid h
end Go.Proofs.YtlppfocoonnpjaaGreatDoor
