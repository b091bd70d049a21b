/- What tasks and verdicts are as plain numbers, and what the document's Charge answers of a job, a task and a level: nothing of the program's functions. What tasks and turns are, as plain lists and numbers, and what the document's calls answer of them: nothing of the program's functions. Whole structs loaded and stored by one law each, whatever the number of their cells, where the operation stands in a list and where it stands in a region that draws. Rows of the call's own, told apart by their types, and append's laws at the steps of a region that draws. -/
import Derived.Test.YtlppfocoonnpjaaGreatDoorQa
import Derived.Test.YtlppfocoonnpjaaGreatDoorTaskMay
import Derived.Test.YtlppfocoonnpjaaGreatDoorCommon
import Derived.Laws.Rows
import Derived.Laws.Tables
import Derived.Deep.MidRow
import Derived.BigFrame

namespace Go.Proofs.YtlppfocoonnpjaaGreatDoor.J
open Go.RowKit

abbrev taskVal (t : TaskV) : Value := .agg #[.int .i64 t.kind, .int .i64 t.period, .int .i64 t.deadline, .int .i64 t.clow, .int .i64 t.chigh, .int .i64 t.prio]
theorem may_parts {t : TaskV} (h : taskMay t = true) : (t.kind = 0 ∨ t.kind = 1) ∧ 1 ≤ t.period ∧ t.period ≤ 1024 ∧ 1 ≤ t.deadline ∧ t.deadline ≤ t.period ∧ 1 ≤ t.clow ∧ t.clow ≤ t.chigh ∧ t.chigh ≤ t.deadline ∧ 0 ≤ t.prio ∧ t.prio ≤ 255 := by
  unfold taskMay at h
  simp only [Bool.and_eq_true, decide_eq_true_eq] at h
  omega
theorem job_parts {j : JobV} (h : jobMay j = true) : 0 ≤ j.task ∧ j.task < 6 ∧ 0 ≤ j.seq ∧ 0 ≤ j.prio ∧ j.prio ≤ 255 ∧ 0 ≤ j.rel ∧ j.rel ≤ 1099511627776 ∧ j.rel < j.dead ∧ 1 ≤ j.dem ∧ j.dem ≤ 65535 ∧ 0 ≤ j.used ∧ j.used < j.dem := by
  unfold jobMay at h
  simp only [Bool.and_eq_true, decide_eq_true_eq] at h
  omega
/-- A row of one job may be, if the job may be. -/
theorem row_one (j : JobV) : rowMay [j] = jobMay j := by
  unfold rowMay risesB allB
  simp [stepB]

/-- A verdict. -/
abbrev verVal (o d k : Bool) : Value := .agg #[.bool o, .bool d, .bool k]
/-- May it be charged? -/
def levMay (l : Int) : Bool := decide (l = 0 ∨ l = 1)
def chMay (j : JobV) (t : TaskV) (l : Int) : Bool := jobMay j && (taskMay t && levMay l)
/-- The budget at whose end a job is killed. -/
def endOf (t : TaskV) (l : Int) : Int := if l = 1 then t.chigh else t.clow
/-- The tick that is charged is a budget's last, and the job is not done by it. -/
def spentB (b : Int) (j : JobV) : Bool := decide (j.used = b) && decide (j.used < j.dem)
def oneMore (j : JobV) : JobV := ⟨j.task, j.seq, j.prio, j.rel, j.dead, j.dem, j.used + 1⟩
/-- What Charge answers. -/
def chJ (j : JobV) (t : TaskV) (l : Int) : JobV := if chMay j t l = true then oneMore j else jz
def chO (j : JobV) (t : TaskV) (l : Int) : Bool := chMay j t l && (decide (l = 1) && spentB t.clow (oneMore j))
def chD (j : JobV) (t : TaskV) (l : Int) : Bool := chMay j t l && decide (j.used + 1 = j.dem)
def chK (j : JobV) (t : TaskV) (l : Int) : Bool := chMay j t l && spentB (endOf t l) (oneMore j)
def chE (j : JobV) (t : TaskV) (l : Int) : Int := if chMay j t l = true then 0 else 1300
end Go.Proofs.YtlppfocoonnpjaaGreatDoor.J

namespace Go.Proofs.YtlppfocoonnpjaaGreatDoor.U
open Go.RowKit

abbrev taskVal (t : TaskV) : Value := .agg #[.int .i64 t.kind, .int .i64 t.period, .int .i64 t.deadline, .int .i64 t.clow, .int .i64 t.chigh, .int .i64 t.prio]
def shN : Shape Int := ⟨1, fun x => [.int .i64 x], fun _ => rfl, by decide, fun x u h => by simp at h; subst h; rfl⟩
theorem may_parts {t : TaskV} (h : taskMay t = true) : (t.kind = 0 ∨ t.kind = 1) ∧ 1 ≤ t.period ∧ t.period ≤ 1024 ∧ 1 ≤ t.deadline ∧ t.deadline ≤ t.period ∧ 1 ≤ t.clow ∧ t.clow ≤ t.chigh ∧ t.chigh ≤ t.deadline ∧ 0 ≤ t.prio ∧ t.prio ≤ 255 := by
  unfold taskMay at h
  simp only [Bool.and_eq_true, decide_eq_true_eq] at h
  omega

/-- Turns: the last release, the demands that wait. -/
structure TurnsV where
  last : Int
  picks : List Int
def noTurns : TurnsV := ⟨0, []⟩
/-- May a demand be? -/
def demMay (x : Int) : Bool := decide (1 ≤ x) && decide (x ≤ 65535)
/-- May turns be? -/
def turnsMay (s : TurnsV) : Bool := decide (-1 ≤ s.last) && (decide (s.last ≤ 1099511627776) && (decide (s.picks.length ≤ 4) && s.picks.all demMay))
/-- May a task and turns be, and is now a tick? -/
def atMay (t : TaskV) (s : TurnsV) (now : Int) : Bool := taskMay t && (turnsMay s && (decide (0 ≤ now) && decide (now ≤ 1099511627776)))
/-- Would the first demand have to wait? -/
def waitsB (t : TaskV) (s : TurnsV) (now : Int) : Bool := decide (0 < s.picks.length) && (!decide (s.last = -1) && decide (now - s.last < t.period))
def lateB (t : TaskV) (s : TurnsV) (now : Int) : Bool := atMay t s now && (decide (t.kind = 1) && waitsB t s now)
/-- Is there a job, of what may be? -/
def comesB (t : TaskV) (s : TurnsV) (now : Int) : Bool := if t.kind = 1 then decide (0 < s.picks.length) && !waitsB t s now else decide (now % t.period = 0)
/-- The turns and the demand of a job. -/
def jobS (s : TurnsV) (now : Int) : TurnsV := ⟨now, s.picks.drop 1⟩
def jobD (t : TaskV) (s : TurnsV) : Int := s.picks[0]?.getD t.clow
/-- Pick's answers, Release's. -/
def pickS (t : TaskV) (s : TurnsV) (d : Int) : TurnsV := if (taskMay t && (turnsMay s && demMay d)) = true then (if s.picks.length = 4 then noTurns else ⟨s.last, s.picks ++ [d]⟩) else noTurns
def pickE (t : TaskV) (s : TurnsV) (d : Int) : Int := if (taskMay t && (turnsMay s && demMay d)) = true then (if s.picks.length = 4 then 1101 else 0) else 1100
def isB (t : TaskV) (s : TurnsV) (now : Int) : Bool := atMay t s now && comesB t s now
def relS (t : TaskV) (s : TurnsV) (now : Int) : TurnsV := if atMay t s now = true then (if comesB t s now = true then jobS s now else s) else noTurns
def relD (t : TaskV) (s : TurnsV) (now : Int) : Int := if isB t s now = true then jobD t s else 0

/-- A row of numbers that a call made from block base on, and that nothing else holds. -/
def Own (base : Nat) (W : World) (v : Value) (xs : List Int) : Prop := W.ownsRow base 3 1 v xs.length (shN.cells xs)
theorem Own.row {base : Nat} {W : World} {v : Value} {xs : List Int} (h : Own base W v xs) : RowAt shN base W v xs := rowAt_own (S := shN) h
theorem Own.grown {base : Nat} {W W' : World} {v : Value} {xs : List Int} (h : Own base W v xs) (hg : W.grownBy W' none) : Own base W' v xs := own_kept h hg
theorem Own.base {base base' : Nat} {W : World} {v : Value} {xs : List Int} (h : Own base W v xs) (hb : base' ≤ base) : Own base' W v xs := by
  refine ⟨h.1, ?_⟩
  rcases h.2 with h2 | ⟨g, cap, cur, rfl, h3, rest⟩
  · exact .inl h2
  · exact .inr ⟨g, cap, cur, rfl, Nat.le_trans hb h3, rest⟩
theorem own_nil (base : Nat) (W : World) : Own base W (.slice none 0 0) [] := World.ownsRow_nil W base 3 1


/-! Boxes. -/
theorem box_lt {W : World} {b : Nat} {o : Obj} (h : W.heap[b]? = some o) : b < W.heap.size := (Array.getElem?_eq_some_iff.1 h).1
theorem box_grown {W W2 : World} {b : Nat} {o : Obj} {r : Option Nat} (h : W.heap[b]? = some o) (hg : W.grownBy W2 r) (hr : r ≠ some b) : W2.heap[b]? = some o := (hg.block b (box_lt h) (fun e => hr e.symm)).trans h
theorem blk_cell {W : World} {b t : Nat} {cs : Array Value} (h : W.heap[b]? = some (.cells cs t (0, 0))) (j : Nat) : W.cell? ⟨b, j, none⟩ = cs[j]? := by simp [World.cell?, h]
theorem blk_free {W : World} {b t : Nat} {cs : Array Value} (h : W.heap[b]? = some (.cells cs t (0, 0))) (j : Nat) : W.frozen? ⟨b, j, none⟩ = false := by simp [World.frozen?, h]
theorem blk_set {W : World} {b t j : Nat} {u : Value} {cs cs' : Array Value} (h : W.heap[b]? = some (.cells cs t (0, 0))) (e : cs.setIfInBounds j u = cs') : (W.setCell ⟨b, j, none⟩ u).heap[b]? = some (.cells cs' t (0, 0)) := by
  subst e
  simp [World.setCell, Array.getElem?_modify, h]
theorem alloc_next (w : World) (o o' : Obj) : ((w.alloc o).alloc o').heap[w.heap.size + 1]? = some o' := by
  have h := heap_alloc_new (w.alloc o) o'
  rwa [show (w.alloc o).heap.size = w.heap.size + 1 by simp] at h
theorem alloc_third (w : World) (o o' o'' : Obj) : (((w.alloc o).alloc o').alloc o'').heap[w.heap.size + 1 + 1]? = some o'' := by
  have h := alloc_next (w.alloc o) o' o''
  rwa [show (w.alloc o).heap.size = w.heap.size + 1 by simp] at h
end Go.Proofs.YtlppfocoonnpjaaGreatDoor.U

namespace Go.Proofs.YtlppfocoonnpjaaGreatDoor.J
open Go.RowKit

section
variable {P : Program} {ops : Array Oper} {rest : List Oper} {a : Act} {w : World} {Q : Exit → Act → World → Prop} {d : Option Nat} {τ : TypeId} {p : String} {af : Array Edge} {gd : Option (Nat × Bool)}

theorem list_load (ty : TypeId) (x : Operand) (g : Nat) (t : TypeId) (cs : Array Value) (fr : Nat × Nat) (e : TypeDesc)
    (hw : Region.wanted { dst := d, op := .load ty x, type := τ, pos := p, after := af, guard := gd } (yielded ops a.tmps) = true)
    (hx : a.eval x = .pointer (some ⟨g, 0, none⟩)) (hg : w.heap[g]? = some (.cells cs t fr))
    (hu : P.underlying ty = some e) (hd : (match e with | .struct _ | .array _ _ => true | _ => false) = true) (hi : (P.info? ty).map (·.size) = some cs.size)
    (h : wpList P ops Q rest (a.put d (.agg cs)) w) : wpList P ops Q ({ dst := d, op := .load ty x, type := τ, pos := p, after := af, guard := gd } :: rest) a w :=
  wpList_step fun _ hK => by rw [if_pos hw]; exact wp_load_row ty x rfl g hx t cs fr e hg hu hd hi (hK _ _ h)

theorem row_facts {W : World} {g t : Nat} {old : Array Value} (cs : Array Value) (hg : W.heap[g]? = some (.cells old t (0, 0))) :
    (W.setRow g cs).heap[g]? = some (.cells cs t (0, 0)) ∧ (∀ c, c ≠ g → (W.setRow g cs).heap[c]? = W.heap[c]?) ∧ W.grownBy (W.setRow g cs) (some g) := by
  refine ⟨setRow_heap W g old cs t (0, 0) hg, fun c hc => ?_, rfl, rfl, rfl, ?_, fun k _ hk => ?_⟩
  · simp only [World.setRow, Array.getElem?_modify]
    rw [if_neg (fun e => hc e.symm)]
  · simp [World.setRow]
  · simp only [World.setRow, Array.getElem?_modify]
    rw [if_neg (fun e => hk (by rw [e]))]

theorem list_store (ty : TypeId) (x y : Operand) (g : Nat) (cells : Array Value) (t : TypeId) (old : Array Value)
    (hx : a.eval x = .pointer (some ⟨g, 0, none⟩)) (hy : a.eval y = .agg cells) (hgh : w.heap[g]? = some (.cells old t (0, 0)))
    (hi : (P.info? ty).map (·.size) = some cells.size) (hold : old.size = cells.size) (h1 : cells.all (·.oneCell') = true)
    (h : ∀ w', w'.heap[g]? = some (.cells cells t (0, 0)) → (∀ c, c ≠ g → w'.heap[c]? = w.heap[c]?) → w.grownBy w' (some g) → wpList P ops Q rest (a.put d undef) w') :
    wpList P ops Q ({ dst := d, op := .store ty x y, type := τ, pos := p, after := af, guard := none } :: rest) a w :=
  wpList_plain rfl fun _ hK => wp_store_row ty x y rfl g cells hx hy t old hgh hi hold h1 (hK _ _ (h _ (row_facts cells hgh).1 (row_facts cells hgh).2.1 (row_facts cells hgh).2.2))

theorem step_store {K : Act → World → Prop} {E : Prop} (ty : TypeId) (x y : Operand) (g : Nat) (cells : Array Value) (t : TypeId) (old : Array Value)
    (hx : a.eval x = .pointer (some ⟨g, 0, none⟩)) (hy : a.eval y = .agg cells) (hgh : w.heap[g]? = some (.cells old t (0, 0)))
    (hi : (P.info? ty).map (·.size) = some cells.size) (hold : old.size = cells.size) (h1 : cells.all (·.oneCell') = true)
    (h : ∀ w', w'.heap[g]? = some (.cells cells t (0, 0)) → (∀ c, c ≠ g → w'.heap[c]? = w.heap[c]?) → w.grownBy w' (some g) → K (a.put d undef) w') :
    if Region.wanted { dst := d, op := .store ty x y, type := τ, pos := p, after := af, guard := none } (yielded ops a.tmps) = true then Oper.wp P { dst := d, op := .store ty x y, type := τ, pos := p, after := af, guard := none } a w K Q else E := by
  rw [if_pos (by simp [Region.wanted])]
  exact wp_store_row ty x y rfl g cells hx hy t old hgh hi hold h1 (h _ (row_facts cells hgh).1 (row_facts cells hgh).2.1 (row_facts cells hgh).2.2)

theorem take_put {md : Region.Mode} {S : World → Prop} {i : Nat} {oi : Oper} {v : Value} {fuel : Nat} {listed : Array Bool} (k : Nat) (hi : ops[i]? = some oi) (hd : oi.dst = some k)
    (hs : Region.noSelect ops = true) (hf : Region.free md ops listed i = true) (hr : (Region.ready md ops listed).contains i = true)
    (hQ : ∀ c a w, Q (.panic c) (a.put oi.dst v) w → Q (.panic c) a w) (hy : YieldsIf P ops S oi v a) (hS : S w)
    (h : wpAnyH P md ops Q S fuel (listed.setIfInBounds i true) (a.put (some k) v) w) : wpAnyH P md ops Q S (fuel + 1) listed a w :=
  wpAnyH_take hi hs hf hr hQ hy hS (by rw [hd]; exact h)
end

/-! Results that lie in variables of structs. -/
theorem results_row_tmp {P : Program} {fn : Func} {p u : Tmp} {ty : TypeId} (h : fn.results = #[.cell p ty, .tmp u]) (tmps : Array Value) (w : World) (g : Nat) (t : TypeId) (cs : Array Value) (fr : Nat × Nat) (d : TypeDesc)
    (hp : tmps.getD p undef = .pointer (some ⟨g, 0, none⟩)) (hg : w.heap[g]? = some (.cells cs t fr))
    (hu : P.underlying ty = some d) (hd : (match d with | .struct _ | .array _ _ => true | _ => false) = true) (hi : (P.info? ty).map (·.size) = some cs.size) :
    (results fn tmps).run P w = .ok (.tuple #[.agg cs, tmps.getD u undef]) w := by
  have hp' : tmps[p]?.getD undef = .pointer (some ⟨g, 0, none⟩) := by simpa using hp
  simp [results, h, hp', asAddr, run_loadVar_row w g t ty cs fr d hg hu hd hi]
theorem results_rtt {P : Program} {fn : Func} {p u u2 : Tmp} {ty : TypeId} (h : fn.results = #[.cell p ty, .tmp u, .tmp u2]) (tmps : Array Value) (w : World) (g : Nat) (t : TypeId) (cs : Array Value) (fr : Nat × Nat) (d : TypeDesc)
    (hp : tmps.getD p undef = .pointer (some ⟨g, 0, none⟩)) (hg : w.heap[g]? = some (.cells cs t fr))
    (hu : P.underlying ty = some d) (hd : (match d with | .struct _ | .array _ _ => true | _ => false) = true) (hi : (P.info? ty).map (·.size) = some cs.size) :
    (results fn tmps).run P w = .ok (.tuple #[.agg cs, tmps.getD u undef, tmps.getD u2 undef]) w := by
  have hp' : tmps[p]?.getD undef = .pointer (some ⟨g, 0, none⟩) := by simpa using hp
  simp [results, h, hp', asAddr, run_loadVar_row w g t ty cs fr d hg hu hd hi]
theorem results_row {P : Program} {fn : Func} {p : Tmp} {ty : TypeId} (h : fn.results = #[.cell p ty]) (tmps : Array Value) (w : World) (g : Nat) (t : TypeId) (cs : Array Value) (fr : Nat × Nat) (d : TypeDesc)
    (hp : tmps.getD p undef = .pointer (some ⟨g, 0, none⟩)) (hg : w.heap[g]? = some (.cells cs t fr))
    (hu : P.underlying ty = some d) (hd : (match d with | .struct _ | .array _ _ => true | _ => false) = true) (hi : (P.info? ty).map (·.size) = some cs.size) :
    (results fn tmps).run P w = .ok (.agg cs) w := by
  have hp' : tmps[p]?.getD undef = .pointer (some ⟨g, 0, none⟩) := by simpa using hp
  simp [results, h, hp', asAddr, run_loadVar_row w g t ty cs fr d hg hu hd hi]
theorem sizeJ : (Tryz.prog.info? 70).map (·.size) = some 7 := by kernel_rfl
theorem sizeW : (Tryz.prog.info? 161).map (·.size) = some 1 := by kernel_rfl
theorem sizeS : (Tryz.prog.info? 159).map (·.size) = some 1 := by kernel_rfl
theorem infoJ : (Tryz.prog.info? 70).map (fun i => (i.zero, i.size, i.bytes)) = some (some (.agg #[.int .i64 0, .int .i64 0, .int .i64 0, .int .i64 0, .int .i64 0, .int .i64 0, .int .i64 0]), 7, 56) := by kernel_rfl
end Go.Proofs.YtlppfocoonnpjaaGreatDoor.J

namespace Go.Proofs.YtlppfocoonnpjaaGreatDoor.J
open Go.RowKit
attribute [local go_sem] alloc_drewN setCell_drewN

/-- The block is a row of elements of this type. -/
def TypeAt (W : World) (g : Nat) (t : Nat) : Prop := ∃ cs fr, W.heap[g]? = some (.cells cs t fr)
theorem own_type {W W2 : World} {base e size n g t : Nat} {v : Value} {xs : List Value} (h : W.ownsRow base e size v n xs) (hg : W.grownBy W2 (some g)) (ht : TypeAt W g t) (hne : t ≠ e) : W2.ownsRow base e size v n xs := by
  refine h.kept hg (Or.inr fun e' => ?_)
  rcases h.2 with ⟨rfl, _⟩ | ⟨g', cap, cur, rfl, _, hc, _⟩
  · cases e'
  · simp [Value.ownBlock] at e'
    subst e'
    obtain ⟨cs, fr, h2⟩ := ht
    rw [h2] at hc
    simp only [Option.some.injEq, Obj.cells.injEq] at hc
    exact hne hc.2.1
theorem box_type {W W2 : World} {b g t t' : Nat} {cs : Array Value} {fr : Nat × Nat} (h : W.heap[b]? = some (.cells cs t' fr)) (hg : W.grownBy W2 (some g)) (ht : TypeAt W g t) (hne : t ≠ t') : W2.heap[b]? = some (.cells cs t' fr) := by
  have hlt : b < W.heap.size := by
    rcases Nat.lt_or_ge b W.heap.size with h' | h'
    · exact h'
    · rw [Array.getElem?_eq_none h'] at h; cases h
  refine (hg.block b hlt (fun e => ?_)).trans h
  simp only [Option.some.injEq] at e
  subst e
  obtain ⟨cs', fr', h2⟩ := ht
  rw [h2] at h
  simp only [Option.some.injEq, Obj.cells.injEq] at h
  exact hne h.2.1
theorem type_box {W : World} {b t : Nat} {cs : Array Value} {fr : Nat × Nat} (h : W.heap[b]? = some (.cells cs t fr)) : TypeAt W b t := ⟨_, _, h⟩
theorem type_own {W : World} {base e size n g o cap : Nat} {xs : List Value} (h : W.ownsRow base e size (.slice (some ⟨g, o, none⟩) n cap) n xs) : TypeAt W g e := by
  rcases h.2 with ⟨h1, _⟩ | ⟨g', cap', cur, h1, _, hc, _⟩
  · cases h1
  · simp only [Value.slice.injEq, Option.some.injEq, Addr.mk.injEq] at h1
    obtain ⟨⟨rfl, -, -⟩, -⟩ := h1
    exact ⟨_, _, hc⟩
theorem own_mono {W : World} {base base' e size n : Nat} {v : Value} {xs : List Value} (h : W.ownsRow base' e size v n xs) (hle : base ≤ base') : W.ownsRow base e size v n xs := by
  refine ⟨h.1, ?_⟩
  rcases h.2 with h | ⟨g, cap, cur, h1, h2, h3⟩
  · exact .inl h
  · exact .inr ⟨g, cap, cur, h1, by omega, h3⟩

section
variable {α : Type} {S : Shape α}
/-- What append does of two slices: the first one owned, the second one read. -/
theorem run_append_row (w : World) (t ty e : TypeId) (z : Value) (bytes : Nat)
    (ht : Tryz.prog.underlying t = some (.slice e)) (hinfo : (Tryz.prog.info? e).map (fun i => (i.zero, i.size, i.bytes)) = some (some z, S.k, bytes)) (hzs : z.cells.size = S.k)
    (base : Nat) (v : Value) (n : Nat) (xs : List α) (hown : w.ownsRow base e S.k v n (S.cells xs))
    (ad : Addr) (m c : Nat) (ys : List α) (hl : ys.length = m) (hcells : ∀ i y, ys[i]? = some y → ∀ j u, (S.f y)[j]? = some u → w.cell? (ad.add (i * S.k + j)) = some u)
    (hlim : (n + m) * bytes ≤ 140737488355328) (h63 : n + m ≤ 9223372036854775807) (hbase : base ≤ w.heap.size) :
    ∃ a' cap' w', (Builtin.append_ #[t, t] ty #[v, .slice (some ad) m c]).run Tryz.prog w = .ok (.slice a' (n + m) cap') w' ∧ w'.ownsRow base e S.k (.slice a' (n + m) cap') (n + m) (S.cells (xs ++ ys)) ∧ w.grownBy w' v.ownBlock ∧ ((Value.slice a' (n + m) cap').ownBlock = v.ownBlock ∨ (Value.slice a' (n + m) cap').ownBlock = some w.heap.size) := by
  obtain ⟨i0, hi, hz0, hz1, hz2⟩ := info_parts hinfo
  obtain ⟨v', w', hr, h2, h3, _, h5⟩ := run_append_own_at (P := Tryz.prog) w base t ty e i0 z S.k bytes ht hi hz0 hz1 hz2 hzs S.pos v n (S.cells xs) hown ad m c (S.cells ys) (by rw [S.cells_length, hl]) (by
    intro j u hu
    obtain ⟨i, j', y, rfl, h1, h2⟩ := S.cells_at _ _ _ hu
    exact hcells i y h1 j' u h2) (S.cells_one ys) (by unfold maxLen; omega) hlim hbase
  obtain ⟨a', cap', rfl⟩ := own_form h2
  exact ⟨a', cap', w', hr, by rw [S.cells_append]; exact h2, h3, h5⟩
/-- append of a nil slice: nothing. -/
theorem run_append_nothing (w : World) (t ty e : TypeId) (z : Value) (bytes : Nat) (ht : Tryz.prog.underlying t = some (.slice e)) (hinfo : (Tryz.prog.info? e).map (fun i => (i.zero, i.size, i.bytes)) = some (some z, S.k, bytes)) (ad : Addr) (cap cap' : Nat) :
    (Builtin.append_ #[t, t] ty #[.slice (some ad) 0 cap, .slice none 0 cap']).run Tryz.prog w = .ok (.slice (some ad) 0 cap) w := by
  obtain ⟨i0, hi, hz0, hz1, hz2⟩ := info_parts hinfo
  simp [Builtin.append_, run_underlying ht, sizeOf, typeInfo, hi, Builtin.lenOf, Builtin.firstCells, loadCells, loadCellsFrom, storeCells]
/-- append onto an empty literal: a copy. -/
theorem run_copy {lo : Nat} (w : World) (t ty e : TypeId) (z : Value) (bytes : Nat)
    (ht : Tryz.prog.underlying t = some (.slice e)) (hinfo : (Tryz.prog.info? e).map (fun i => (i.zero, i.size, i.bytes)) = some (some z, S.k, bytes)) (hzs : z.cells.size = S.k)
    (base g : Nat) (hown : w.ownsRow base e S.k (.slice (some ⟨g, 0, none⟩) 0 0) 0 [])
    (u : Value) (ys : List α) (hu : RowAt S lo w u ys) (hlim : ys.length * bytes ≤ 140737488355328) (hbase : base ≤ w.heap.size) :
    ∃ a' cap' w', (Builtin.append_ #[t, t] ty #[.slice (some ⟨g, 0, none⟩) 0 0, u]).run Tryz.prog w = .ok (.slice a' ys.length cap') w' ∧ w'.ownsRow base e S.k (.slice a' ys.length cap') ys.length (S.cells ys) ∧ w.grownBy w' (some g) := by
  obtain ⟨hl, a, cap, rfl, ha⟩ := hu
  cases a with
  | none =>
    have h0 : ys.length = 0 := by
      rcases Nat.eq_zero_or_pos ys.length with e | e
      · exact e
      · obtain ⟨g, o, h, _⟩ := ha e; cases h
    obtain rfl := List.length_eq_zero_iff.1 h0
    exact ⟨_, _, _, run_append_nothing (S := S) w t ty e z bytes ht hinfo _ _ _, hown, grownBy_refl _ _⟩
  | some ad =>
    obtain ⟨a', cap', w', hr, h2, h3, _⟩ := run_append_row (S := S) w t ty e z bytes ht hinfo hzs base (.slice (some ⟨g, 0, none⟩) 0 0) 0 [] hown ad ys.length cap ys rfl (fun i y hy j u hu => by
      obtain ⟨g', o, h, _, hc⟩ := ha (by
        rcases Nat.eq_zero_or_pos ys.length with e | e
        · rw [List.length_eq_zero_iff.1 e] at hy; simp at hy
        · exact e)
      cases h
      rw [Go.WideShapes.add_plain, ← Nat.add_assoc]
      exact hc i y hy j u hu) (by rw [Nat.zero_add]; exact hlim) (by omega) hbase
    rw [Nat.zero_add] at hr h2
    exact ⟨a', cap', w', hr, h2, h3⟩
/-- At the operation. -/
theorem wp_copy {lo : Nat} {o : Oper} {a : Act} {K : Act → World → Prop} {Q : Exit → Act → World → Prop} (w : World) (s x : Operand) (t : TypeId)
    (ho : o.op = .call { callee := .builtin .append, args := #[s, x], argTypes := #[t, t] }) (e : TypeId) (z : Value) (bytes : Nat)
    (ht : Tryz.prog.underlying t = some (.slice e)) (hinfo : (Tryz.prog.info? e).map (fun i => (i.zero, i.size, i.bytes)) = some (some z, S.k, bytes)) (hzs : z.cells.size = S.k)
    (base g : Nat) (hs : a.eval s = .slice (some ⟨g, 0, none⟩) 0 0) (hown : w.ownsRow base e S.k (.slice (some ⟨g, 0, none⟩) 0 0) 0 [])
    (u : Value) (ys : List α) (hx : a.eval x = u) (hu : RowAt S lo w u ys) (hlim : ys.length * bytes ≤ 140737488355328) (hbase : base ≤ w.heap.size)
    (h : ∀ a' cap' w', w'.ownsRow base e S.k (.slice a' ys.length cap') ys.length (S.cells ys) → w.grownBy w' (some g) → K (a.put o.dst (.slice a' ys.length cap')) w') : o.wp Tryz.prog a w K Q := by
  obtain ⟨a', cap', w', hr, h2, h3⟩ := run_copy (S := S) w t o.type e z bytes ht hinfo hzs base g hown u ys hu hlim hbase
  unfold Oper.wp execOp
  simp only [ho, resolve, invoke, builtin, Sem.run_bind, Sem.run_pure, Result.andThen_ok, List.map_toArray, List.map_cons, List.map_nil, hs, hx, hr]
  exact h a' cap' w' h2 h3
theorem wpList_copy {lo : Nat} {ops : Array Oper} {rest : List Oper} {o : Oper} {a : Act} {Q : Exit → Act → World → Prop} (w : World) (hgd : o.guard = none) (s x : Operand) (t : TypeId)
    (ho : o.op = .call { callee := .builtin .append, args := #[s, x], argTypes := #[t, t] }) (e : TypeId) (z : Value) (bytes : Nat)
    (ht : Tryz.prog.underlying t = some (.slice e)) (hinfo : (Tryz.prog.info? e).map (fun i => (i.zero, i.size, i.bytes)) = some (some z, S.k, bytes)) (hzs : z.cells.size = S.k)
    (base g : Nat) (hs : a.eval s = .slice (some ⟨g, 0, none⟩) 0 0) (hown : w.ownsRow base e S.k (.slice (some ⟨g, 0, none⟩) 0 0) 0 [])
    (u : Value) (ys : List α) (hx : a.eval x = u) (hu : RowAt S lo w u ys) (hlim : ys.length * bytes ≤ 140737488355328) (hbase : base ≤ w.heap.size)
    (h : ∀ a' cap' w', w'.ownsRow base e S.k (.slice a' ys.length cap') ys.length (S.cells ys) → w.grownBy w' (some g) → wpList Tryz.prog ops Q rest (a.put o.dst (.slice a' ys.length cap')) w') : wpList Tryz.prog ops Q (o :: rest) a w :=
  wpList_plain hgd fun _ hK => wp_copy (S := S) w s x t ho e z bytes ht hinfo hzs base g hs hown u ys hx hu hlim hbase fun a' cap' w' h2 h3 => hK _ _ (h a' cap' w' h2 h3)
end
theorem lit_own (w : World) (e k : Nat) : (w.alloc (.cells #[] e)).ownsRow w.heap.size e k (.slice (some ⟨w.heap.size, 0, none⟩) 0 0) 0 [] := World.ownsRow_lit w #[] 0 (Nat.le_refl _) (by unfold maxLen; omega) (by simp)

theorem step_copy {α : Type} {S : Shape α} {lo : Nat} {ops : Array Oper} {o : Oper} {a : Act} {K : Act → World → Prop} {Q : Exit → Act → World → Prop} {E : Prop} (w : World) (hgd : o.guard = none) (s x : Operand) (t : TypeId)
    (ho : o.op = .call { callee := .builtin .append, args := #[s, x], argTypes := #[t, t] }) (e : TypeId) (z : Value) (bytes : Nat)
    (ht : Tryz.prog.underlying t = some (.slice e)) (hinfo : (Tryz.prog.info? e).map (fun i => (i.zero, i.size, i.bytes)) = some (some z, S.k, bytes)) (hzs : z.cells.size = S.k)
    (base g : Nat) (hs : a.eval s = .slice (some ⟨g, 0, none⟩) 0 0) (hown : w.ownsRow base e S.k (.slice (some ⟨g, 0, none⟩) 0 0) 0 [])
    (u : Value) (ys : List α) (hx : a.eval x = u) (hu : RowAt S lo w u ys) (hlim : ys.length * bytes ≤ 140737488355328) (hbase : base ≤ w.heap.size)
    (h : ∀ a' cap' w', w'.ownsRow base e S.k (.slice a' ys.length cap') ys.length (S.cells ys) → w.grownBy w' (some g) → K (a.put o.dst (.slice a' ys.length cap')) w') :
    if Region.wanted o (yielded ops a.tmps) = true then Oper.wp Tryz.prog o a w K Q else E := by
  have hw : Region.wanted o (yielded ops a.tmps) = true := by simp [Region.wanted, hgd]
  rw [if_pos hw]
  exact wp_copy (S := S) w s x t ho e z bytes ht hinfo hzs base g hs hown u ys hx hu hlim hbase h
theorem hp_keep {W W2 : World} {b : Nat} {x : Obj} (h : W.heap[b]? = some x) (hg : W.grownBy W2 none) : W2.heap[b]? = some x := by
  have hlt : b < W.heap.size := by
    rcases Nat.lt_or_ge b W.heap.size with h' | h'
    · exact h'
    · rw [Array.getElem?_eq_none h'] at h; cases h
  exact (hg.block b hlt (by simp)).trans h
theorem own_app {W W2 : World} {base e size n base2 e2 size2 n2 : Nat} {v v2 : Value} {xs ys : List Value} (h : W.ownsRow base2 e2 size2 v2 n2 ys) (hv : W.ownsRow base e size v n xs) (hg : W.grownBy W2 v.ownBlock) (hne : e ≠ e2) : W2.ownsRow base2 e2 size2 v2 n2 ys := by
  rcases hv.2 with ⟨rfl, _⟩ | ⟨g, cap, cur, rfl, _, hc, _⟩
  · exact own_kept h hg
  · exact own_type h hg ⟨_, _, hc⟩ hne
theorem box_app {W W2 : World} {base e size n b t : Nat} {cs : Array Value} {fr : Nat × Nat} {v : Value} {xs : List Value} (h : W.heap[b]? = some (.cells cs t fr)) (hv : W.ownsRow base e size v n xs) (hg : W.grownBy W2 v.ownBlock) (hne : e ≠ t) : W2.heap[b]? = some (.cells cs t fr) := by
  have hlt : b < W.heap.size := by
    rcases Nat.lt_or_ge b W.heap.size with h' | h'
    · exact h'
    · rw [Array.getElem?_eq_none h'] at h; cases h
  rcases hv.2 with ⟨rfl, _⟩ | ⟨g, cap, cur, rfl, _, hc, _⟩
  · exact (hg.block b hlt (by simp [Value.ownBlock])).trans h
  · exact box_type h hg ⟨_, _, hc⟩ hne
theorem grown_app {wb W W2 : World} {base e size n : Nat} {v : Value} {xs : List Value} (h : wb.grownBy W none) (hv : W.ownsRow base e size v n xs) (hb : wb.heap.size ≤ base) (hg : W.grownBy W2 v.ownBlock) : wb.grownBy W2 none := by
  rcases hv.2 with ⟨rfl, _⟩ | ⟨g, cap, cur, rfl, hbg, _⟩
  · exact grownBy_trans h hg
  · exact grown_spoil h (Nat.le_trans hb hbg) hg
theorem step_app {α : Type} {S : Shape α} {ops : Array Oper} {o : Oper} {a : Act} {K : Act → World → Prop} {Q : Exit → Act → World → Prop} {E : Prop} (w : World) (hgd : o.guard = none) (s x : Operand) (t : TypeId)
    (ho : o.op = .call { callee := .builtin .append, args := #[s, x], argTypes := #[t, t] }) (e : TypeId) (z : Value) (bytes : Nat)
    (ht : Tryz.prog.underlying t = some (.slice e)) (hinfo : (Tryz.prog.info? e).map (fun i => (i.zero, i.size, i.bytes)) = some (some z, S.k, bytes)) (hzs : z.cells.size = S.k)
    (base : Nat) (v : Value) (n : Nat) (xs : List α) (hs : a.eval s = v) (hown : w.ownsRow base e S.k v n (S.cells xs))
    (ad : Addr) (m c : Nat) (ys : List α) (hx : a.eval x = .slice (some ad) m c) (hl : ys.length = m) (hcells : ∀ i y, ys[i]? = some y → ∀ j u, (S.f y)[j]? = some u → w.cell? (ad.add (i * S.k + j)) = some u)
    (hlim : (n + m) * bytes ≤ 140737488355328) (h63 : n + m ≤ 9223372036854775807) (hbase : base ≤ w.heap.size)
    (h : ∀ a' cap' w', w'.ownsRow base e S.k (.slice a' (n + m) cap') (n + m) (S.cells (xs ++ ys)) → w.grownBy w' v.ownBlock → K (a.put o.dst (.slice a' (n + m) cap')) w') :
    if Region.wanted o (yielded ops a.tmps) = true then Oper.wp Tryz.prog o a w K Q else E := by
  have hw : Region.wanted o (yielded ops a.tmps) = true := by simp [Region.wanted, hgd]
  rw [if_pos hw]
  obtain ⟨a', cap', w', hr, h2, h3, _⟩ := run_append_row (S := S) w t o.type e z bytes ht hinfo hzs base v n xs hown ad m c ys hl hcells hlim h63 hbase
  unfold Oper.wp execOp
  simp only [ho, resolve, invoke, builtin, Sem.run_bind, Sem.run_pure, Result.andThen_ok, List.map_toArray, List.map_cons, List.map_nil, hs, hx, hr]
  exact h a' cap' w' h2 h3
theorem one_at {α : Type} (S : Shape α) {W : World} {g t : Nat} (x : α) (h : W.heap[g]? = some (.cells (S.f x).toArray t (0, 0))) : ∀ i y, [x][i]? = some y → ∀ j u, (S.f y)[j]? = some u → W.cell? ((⟨g, 0, none⟩ : Addr).add (i * S.k + j)) = some u := by
  intro i y hy j u hu
  cases i with
  | zero =>
    simp only [List.getElem?_cons_zero, Option.some.injEq] at hy
    subst hy
    rw [Nat.zero_mul, Nat.zero_add, Go.WideShapes.add_plain, Nat.zero_add, blk_cell h]
    simpa using hu
  | succ i => simp at hy
theorem step_appd {α : Type} {S : Shape α} {ops : Array Oper} {o : Oper} {a : Act} {K : Act → World → Prop} {Q : Exit → Act → World → Prop} {E : Prop} (w : World) (hgd : o.guard = none) (s x : Operand) (t : TypeId)
    (ho : o.op = .call { callee := .builtin .append, args := #[s, x], argTypes := #[t, t] }) (e : TypeId) (z : Value) (bytes : Nat)
    (ht : Tryz.prog.underlying t = some (.slice e)) (hinfo : (Tryz.prog.info? e).map (fun i => (i.zero, i.size, i.bytes)) = some (some z, S.k, bytes)) (hzs : z.cells.size = S.k)
    (base : Nat) (v : Value) (n : Nat) (xs : List α) (hs : a.eval s = v) (hown : w.ownsRow base e S.k v n (S.cells xs))
    (ad : Addr) (m c : Nat) (ys : List α) (hx : a.eval x = .slice (some ad) m c) (hl : ys.length = m) (hcells : ∀ i y, ys[i]? = some y → ∀ j u, (S.f y)[j]? = some u → w.cell? (ad.add (i * S.k + j)) = some u)
    (hlim : (n + m) * bytes ≤ 140737488355328) (h63 : n + m ≤ 9223372036854775807) (hbase : base ≤ w.heap.size)
    (k : Nat) (hd : o.dst = some k)
    (h : ∀ a' cap' w', w'.ownsRow base e S.k (.slice a' (n + m) cap') (n + m) (S.cells (xs ++ ys)) → w.grownBy w' v.ownBlock → K (a.put (some k) (.slice a' (n + m) cap')) w') :
    if Region.wanted o (yielded ops a.tmps) = true then Oper.wp Tryz.prog o a w K Q else E :=
  step_app (S := S) w hgd s x t ho e z bytes ht hinfo hzs base v n xs hs hown ad m c ys hx hl hcells hlim h63 hbase fun a' c' w' h2 h3 => by rw [hd]; exact h a' c' w' h2 h3
theorem step_copyd {α : Type} {S : Shape α} {lo : Nat} {ops : Array Oper} {o : Oper} {a : Act} {K : Act → World → Prop} {Q : Exit → Act → World → Prop} {E : Prop} (w : World) (hgd : o.guard = none) (s x : Operand) (t : TypeId)
    (ho : o.op = .call { callee := .builtin .append, args := #[s, x], argTypes := #[t, t] }) (e : TypeId) (z : Value) (bytes : Nat)
    (ht : Tryz.prog.underlying t = some (.slice e)) (hinfo : (Tryz.prog.info? e).map (fun i => (i.zero, i.size, i.bytes)) = some (some z, S.k, bytes)) (hzs : z.cells.size = S.k)
    (base g : Nat) (hs : a.eval s = .slice (some ⟨g, 0, none⟩) 0 0) (hown : w.ownsRow base e S.k (.slice (some ⟨g, 0, none⟩) 0 0) 0 [])
    (u : Value) (ys : List α) (hx : a.eval x = u) (hu : RowAt S lo w u ys) (hlim : ys.length * bytes ≤ 140737488355328) (hbase : base ≤ w.heap.size)
    (k : Nat) (hd : o.dst = some k)
    (h : ∀ a' cap' w', w'.ownsRow base e S.k (.slice a' ys.length cap') ys.length (S.cells ys) → w.grownBy w' (some g) → K (a.put (some k) (.slice a' ys.length cap')) w') :
    if Region.wanted o (yielded ops a.tmps) = true then Oper.wp Tryz.prog o a w K Q else E :=
  step_copy (S := S) w hgd s x t ho e z bytes ht hinfo hzs base g hs hown u ys hx hu hlim hbase fun a' c' w' h2 h3 => by rw [hd]; exact h a' c' w' h2 h3
theorem step_copyn {α : Type} {S : Shape α} {lo : Nat} {ops : Array Oper} {o : Oper} {a : Act} {K : Act → World → Prop} {Q : Exit → Act → World → Prop} {E : Prop} (w : World) (hgd : o.guard = none) (s x : Operand) (t : TypeId)
    (ho : o.op = .call { callee := .builtin .append, args := #[s, x], argTypes := #[t, t] }) (e : TypeId) (z : Value) (bytes : Nat)
    (ht : Tryz.prog.underlying t = some (.slice e)) (hinfo : (Tryz.prog.info? e).map (fun i => (i.zero, i.size, i.bytes)) = some (some z, S.k, bytes)) (hzs : z.cells.size = S.k)
    (base g : Nat) (hs : a.eval s = .slice (some ⟨g, 0, none⟩) 0 0) (hown : w.ownsRow base e S.k (.slice (some ⟨g, 0, none⟩) 0 0) 0 [])
    (u : Value) (ys : List α) (hx : a.eval x = u) (hu : RowAt S lo w u ys) (n : Nat) (hn : ys.length = n) (hlim : n * bytes ≤ 140737488355328) (hbase : base ≤ w.heap.size)
    (k : Nat) (hd : o.dst = some k)
    (h : ∀ a' cap' w', w'.ownsRow base e S.k (.slice a' n cap') n (S.cells ys) → w.grownBy w' (some g) → K (a.put (some k) (.slice a' n cap')) w') :
    if Region.wanted o (yielded ops a.tmps) = true then Oper.wp Tryz.prog o a w K Q else E := by
  subst hn
  exact step_copyd (S := S) w hgd s x t ho e z bytes ht hinfo hzs base g hs hown u ys hx hu hlim hbase k hd h
theorem wpList_copyn {α : Type} {S : Shape α} {lo : Nat} {ops : Array Oper} {rest : List Oper} {o : Oper} {a : Act} {Q : Exit → Act → World → Prop} (w : World) (hgd : o.guard = none) (s x : Operand) (t : TypeId)
    (ho : o.op = .call { callee := .builtin .append, args := #[s, x], argTypes := #[t, t] }) (e : TypeId) (z : Value) (bytes : Nat)
    (ht : Tryz.prog.underlying t = some (.slice e)) (hinfo : (Tryz.prog.info? e).map (fun i => (i.zero, i.size, i.bytes)) = some (some z, S.k, bytes)) (hzs : z.cells.size = S.k)
    (base g : Nat) (hs : a.eval s = .slice (some ⟨g, 0, none⟩) 0 0) (hown : w.ownsRow base e S.k (.slice (some ⟨g, 0, none⟩) 0 0) 0 [])
    (u : Value) (ys : List α) (hx : a.eval x = u) (hu : RowAt S lo w u ys) (n : Nat) (hn : ys.length = n) (hlim : n * bytes ≤ 140737488355328) (hbase : base ≤ w.heap.size)
    (h : ∀ a' cap' w', w'.ownsRow base e S.k (.slice a' n cap') n (S.cells ys) → w.grownBy w' (some g) → wpList Tryz.prog ops Q rest (a.put o.dst (.slice a' n cap')) w') : wpList Tryz.prog ops Q (o :: rest) a w := by
  subst hn
  exact wpList_copy (S := S) w hgd s x t ho e z bytes ht hinfo hzs base g hs hown u ys hx hu hlim hbase h
theorem Own.off {base g : Nat} {W W1 : World} {v : Value} {xs : List JobV} (h : Own base W v xs) (hg : W.grownBy W1 (some g)) (hb : g < base) : Own base W1 v xs := own_off h hg hb
theorem Own.type {base g t : Nat} {W W1 : World} {v : Value} {xs : List JobV} (h : Own base W v xs) (hg : W.grownBy W1 (some g)) (ht : TypeAt W g t) (hne : t ≠ 70) : Own base W1 v xs := own_type h hg ht hne
#print axioms step_app
end Go.Proofs.YtlppfocoonnpjaaGreatDoor.J
